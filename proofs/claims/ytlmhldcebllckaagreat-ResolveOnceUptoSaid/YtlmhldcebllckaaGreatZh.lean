/-
  WHAT IS PROVED HERE: what the landed resolve's wrongHeader, wrongDefault, wrongNext hand back. Written by gen/zh.py.
-/
import Derived.Test.YtlmhldcebllckaaGreatRows
import Derived.Test.YtlmhldcebllckaaGreatZg
import Derived.WalkKit
import Derived.Lib.Hide
import Derived.WalkSpells
import Derived.WalkLawsBesides
namespace Go.Proofs.YtlmhldcebllckaaGreat
open Go.RowKit
theorem lift_cell {W W2 : World} {z : Ext} {a : Addr} {v : Option Value} (hz : W2 = plus W z) (h : ∀ y, (plus W y).cell? a = v) : ∀ y, (plus W2 y).cell? a = v := fun y => by rw [hz, plus_plus]; exact h _
/-- What is wrong with a header. -/
def wHdI (p : Pr) (k : Nat) (x : Hr) : Int := if hdI p.headers.l x.name = (k : Int) then (if (bitsI x.fields.l).tmod 8 = 0 ∧ bitsI x.fields.l ≤ 256 then 0 else 10) else 8
set_option maxRecDepth 100000 in
set_option maxHeartbeats 8000000 in
theorem q_wrongHeader (p : Pr) (w : World) (h : p.In w) (hz : p.sz ≤ 1048576) (k : Nat) (x : Hr) (hx : p.headers.l[k]? = some x) : Kp Tryz.prog w 63 #[.agg #[.slice p.headers.p p.headers.l.length p.headers.cap, .slice p.metas.p p.metas.l.length p.metas.cap, .slice p.states.p p.states.l.length p.states.cap, .slice p.actions.p p.actions.l.length p.actions.cap, .slice p.tables.p p.tables.l.length p.tables.cap, .slice p.control.p p.control.l.length p.control.cap, .slice p.emit.p p.emit.l.length p.emit.cap], .int .i64 (k : Int)] (.int .i64 (wHdI p k x)) := by
  intro y0
  have hmem := List.mem_of_getElem? hx
  have hlen : x.fields.l.length ≤ 1048576 := by
    have h1 := le_sum_of Hr.sz p.headers.l x hmem
    have h2 : p.sz = p.headers.size Hr.sz + p.metas.size Fd.sz + p.states.size Sa.sz + p.actions.size Ac.sz + p.tables.size Ta.sz + p.control.size St.sz + p.emit.size strSize := rfl
    have h3 : p.headers.size Hr.sz = (p.headers.l.map Hr.sz).sum := rfl
    have h4 : x.fields.size Fd.sz ≤ x.sz := by unfold Hr.sz; omega
    exact len_le Fd.sz Fd.sz_pos x.fields (by omega)
  have k1 := (q_Header p w h hz x.name).up y0
  have k2 := (q_alone (hdI p.headers.l x.name) (k : Int) w).up y0
  have k3 := (q_Bits x.name x.fields w _ (h.headers.kids x hmem).fields hlen).up y0
  have hr := h.headers.row.plus y0
  have hkn : k < p.headers.l.length := (List.getElem?_eq_some_iff.1 hx).1
  obtain ⟨V, hV⟩ : ∃ V, plus w y0 = V := ⟨_, rfl⟩
  rw [hV] at k1 k2 k3 hr ⊢
  clear hV h hz hlen
  obtain ⟨R, hR⟩ : ∃ R, wHdI p k x = R := ⟨_, rfl⟩
  rw [hR]
  unfold wHdI at hR
  obtain ⟨pa, ha, hc⟩ := hr k x hx
  obtain ⟨A, hA⟩ : ∃ A, p.headers = A := ⟨_, rfl⟩
  simp only [hA] at k1 k2 hR ha hkn ⊢
  clear hA hx hmem hr
  obtain ⟨ap, ac, al⟩ := A
  simp only at ha
  subst ha
  simp only at hkn hR k1 k2 ⊢
  generalize hdI al x.name = I at k1 k2 hR
  generalize bitsI x.fields.l = B at k3 hR
  obtain ⟨n, hn⟩ : ∃ n, al.length = n := ⟨_, rfl⟩
  rw [hn] at hkn k1 ⊢
  clear hn
  obtain ⟨xn, ⟨fp, fc, fl⟩⟩ := x
  simp only [Hr.cells, Sl.v] at hc k1 k3
  have d0 := fun y => (hc.plus y).c0 _ rfl
  have d1 := fun y => (hc.plus y).cs 0 _ rfl
  have hc' := Lib.hid hc
  have k1' := Lib.hid k1
  have k2' := Lib.hid k2
  have k3' := Lib.hid k3
  have hR' := Lib.hid hR
  clear hc k1 k2 k3 hR d0 d1
  go_enter Tryz.func63, Tryz.ntmps63
  go_upto_region 1 with (fail)
  obtain ⟨U, hU, hB, -, cp, -⟩ := box1 V _ 30
  rw [← hU]
  obtain ⟨z0, hz0⟩ := plus_of_below hB
  have cp0 := cp 0 _ rfl
  have cp1 := cp 1 _ rfl
  have cp2 := cp 2 _ rfl
  have cp3 := cp 3 _ rfl
  have cp4 := cp 4 _ rfl
  have cp5 := cp 5 _ rfl
  have cp6 := cp 6 _ rfl
  have hcU := cells_up hz0 hc'.out
  have d0 := hcU.c0 _ rfl
  have d1 := hcU.cs 0 _ rfl
  have e0 := cp0 ⟨#[], U.drawn⟩
  rw [plus_self] at e0
  have hcU' := Lib.hid hcU
  have hz0' := Lib.hid hz0
  clear hU hB cp hcU hc' hz0
  go_upto_region 2 with (fail)
  obtain ⟨W, hW, hB, -, ch, -⟩ := box1 U _ 38
  rw [← hW]
  obtain ⟨z, hz2⟩ := plus_of_below hB
  obtain ⟨zV, hzV⟩ : ∃ x, W = plus V x := by rw [hz2, hz0'.out, plus_plus]; exact ⟨_, rfl⟩
  have p0 := lift_cell hz2 cp0
  have p1 := lift_cell hz2 cp1
  have p2 := lift_cell hz2 cp2
  have p3 := lift_cell hz2 cp3
  have p4 := lift_cell hz2 cp4
  have p5 := lift_cell hz2 cp5
  have p6 := lift_cell hz2 cp6
  have h0 := ch 0 _ rfl
  have h1 := ch 1 _ rfl
  have q1 := Lib.hid (kp_at hzV k1'.out)
  have q2 := Lib.hid (kp_at hzV k2'.out)
  have q3 := Lib.hid (kp_at hzV k3'.out)
  have hz3 := Lib.hid hzV
  clear hW hB ch hz2 hzV k1' k2' k3' hcU' d0 d1 e0 hz0' cp0 cp1 cp2 cp3 cp4 cp5 cp6
  have w0 := plus_self W
  rw [← w0]
  have hR := hR'.out
  clear hR' w0
  by_cases i1 : I = (k : Int)
  · rw [if_pos i1] at hR q2
    subst i1
    by_cases b1 : B.tmod 8 = 0
    · by_cases b2 : B ≤ 256
      · rw [if_pos ⟨b1, b2⟩] at hR
        replace hR := Lib.hid hR
        go_wp2_with (first | (go_at_call 10; with_reducible refine (q1.out _).mono ?_; rintro r w' ⟨rfl, x, rfl⟩) | (go_at_call 64; with_reducible refine (q2.out _).mono ?_; rintro r w' ⟨rfl, x, rfl⟩) | (go_at_call 11; with_reducible refine (q3.out _).mono ?_; rintro r w' ⟨rfl, x, rfl⟩))
        go_ret
        exact ⟨congrArg (fun z => Ending.returned (Value.int .i64 z)) hR.out, by rw [hz3.out, plus_plus]; exact ⟨_, rfl⟩⟩
      · rw [if_neg (fun h => b2 h.2)] at hR
        replace hR := Lib.hid hR
        have b3 : 256 < B := by omega
        clear b2
        go_wp2_with (first | (go_at_call 10; with_reducible refine (q1.out _).mono ?_; rintro r w' ⟨rfl, x, rfl⟩) | (go_at_call 64; with_reducible refine (q2.out _).mono ?_; rintro r w' ⟨rfl, x, rfl⟩) | (go_at_call 11; with_reducible refine (q3.out _).mono ?_; rintro r w' ⟨rfl, x, rfl⟩))
        go_ret
        exact ⟨congrArg (fun z => Ending.returned (Value.int .i64 z)) hR.out, by rw [hz3.out, plus_plus]; exact ⟨_, rfl⟩⟩
    · rw [if_neg (fun h => b1 h.1)] at hR
      replace hR := Lib.hid hR
      go_wp2_with (first | (go_at_call 10; with_reducible refine (q1.out _).mono ?_; rintro r w' ⟨rfl, x, rfl⟩) | (go_at_call 64; with_reducible refine (q2.out _).mono ?_; rintro r w' ⟨rfl, x, rfl⟩) | (go_at_call 11; with_reducible refine (q3.out _).mono ?_; rintro r w' ⟨rfl, x, rfl⟩))
      go_ret
      exact ⟨congrArg (fun z => Ending.returned (Value.int .i64 z)) hR.out, by rw [hz3.out, plus_plus]; exact ⟨_, rfl⟩⟩
  · rw [if_neg i1] at hR q2
    replace hR := Lib.hid hR
    clear i1
    go_wp2_with (first | (go_at_call 10; with_reducible refine (q1.out _).mono ?_; rintro r w' ⟨rfl, x, rfl⟩) | (go_at_call 64; with_reducible refine (q2.out _).mono ?_; rintro r w' ⟨rfl, x, rfl⟩) | (go_at_call 11; with_reducible refine (q3.out _).mono ?_; rintro r w' ⟨rfl, x, rfl⟩))
    go_ret
    exact ⟨congrArg (fun z => Ending.returned (Value.int .i64 z)) hR.out, by rw [hz3.out, plus_plus]; exact ⟨_, rfl⟩⟩
end Go.Proofs.YtlmhldcebllckaaGreat
