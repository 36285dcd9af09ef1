/-
  WHAT IS PROVED HERE: what the landed resolve's look-ups hand back, of any program; Bits, alone, known, wrongTarget. Written by gen/zd.py.
-/
import Derived.Test.YtlmhldcebllckaaGreatRows
import Derived.Test.YtlmhldcebllckaaGreatZc
import Derived.WalkKit
import Derived.Lib.Hide
import Derived.WalkSpells
import Derived.WalkLawsBesides
namespace Go.Proofs.YtlmhldcebllckaaGreat
open Go.RowKit
theorem pr_len1 {p : Pr} (hz : p.sz ≤ 1048576) : p.headers.l.length ≤ 1048576 ∧ p.metas.l.length ≤ 1048576 ∧ p.states.l.length ≤ 1048576 ∧ p.actions.l.length ≤ 1048576 ∧ p.tables.l.length ≤ 1048576 ∧ p.emit.l.length ≤ 1048576 := by
  have hs : p.sz = p.headers.size Hr.sz + p.metas.size Fd.sz + p.states.size Sa.sz + p.actions.size Ac.sz + p.tables.size Ta.sz + p.control.size St.sz + p.emit.size strSize := rfl
  exact ⟨len_le Hr.sz (fun y => by unfold Hr.sz; omega) p.headers (by omega), len_le Fd.sz Fd.sz_pos p.metas (by omega), len_le Sa.sz (fun y => by unfold Sa.sz; omega) p.states (by omega), len_le Ac.sz (fun y => by unfold Ac.sz; omega) p.actions (by omega), len_le Ta.sz (fun y => by unfold Ta.sz; omega) p.tables (by omega), len_le strSize strSize_pos p.emit (by omega)⟩
section
variable (p : Pr) (w : World) (h : p.In w) (hz : p.sz ≤ 1048576) (s : ByteArray)
include h hz
theorem q_Header : Kp Tryz.prog w 10 #[.agg #[.slice p.headers.p p.headers.l.length p.headers.cap, .slice p.metas.p p.metas.l.length p.metas.cap, .slice p.states.p p.states.l.length p.states.cap, .slice p.actions.p p.actions.l.length p.actions.cap, .slice p.tables.p p.tables.l.length p.tables.cap, .slice p.control.p p.control.l.length p.control.cap, .slice p.emit.p p.emit.l.length p.emit.cap], .string s] (.int .i64 (hdI p.headers.l s)) := res_Header _ _ _ _ _ _ _ _ _ _ _ _ _ _ _ _ _ _ _ p.headers s w h.headers (pr_len1 hz).1
theorem q_Meta : Kp Tryz.prog w 66 #[.agg #[.slice p.headers.p p.headers.l.length p.headers.cap, .slice p.metas.p p.metas.l.length p.metas.cap, .slice p.states.p p.states.l.length p.states.cap, .slice p.actions.p p.actions.l.length p.actions.cap, .slice p.tables.p p.tables.l.length p.tables.cap, .slice p.control.p p.control.l.length p.control.cap, .slice p.emit.p p.emit.l.length p.emit.cap], .string s] (.int .i64 (fdI p.metas.l s)) := res_Meta _ _ _ _ _ _ _ _ _ _ _ _ _ _ _ _ _ _ _ p.metas s w h.metas (pr_len1 hz).2.1
theorem q_State : Kp Tryz.prog w 14 #[.agg #[.slice p.headers.p p.headers.l.length p.headers.cap, .slice p.metas.p p.metas.l.length p.metas.cap, .slice p.states.p p.states.l.length p.states.cap, .slice p.actions.p p.actions.l.length p.actions.cap, .slice p.tables.p p.tables.l.length p.tables.cap, .slice p.control.p p.control.l.length p.control.cap, .slice p.emit.p p.emit.l.length p.emit.cap], .string s] (.tuple #[.int .i64 (stI p.states.l s).1, .bool (stI p.states.l s).2]) := res_State _ _ _ _ _ _ _ _ _ _ _ _ _ _ _ _ _ _ _ p.states s w h.states (pr_len1 hz).2.2.1
theorem q_Action : Kp Tryz.prog w 12 #[.agg #[.slice p.headers.p p.headers.l.length p.headers.cap, .slice p.metas.p p.metas.l.length p.metas.cap, .slice p.states.p p.states.l.length p.states.cap, .slice p.actions.p p.actions.l.length p.actions.cap, .slice p.tables.p p.tables.l.length p.tables.cap, .slice p.control.p p.control.l.length p.control.cap, .slice p.emit.p p.emit.l.length p.emit.cap], .string s] (.int .i64 (acI p.actions.l s)) := res_Action _ _ _ _ _ _ _ _ _ _ _ _ _ _ _ _ _ _ _ p.actions s w h.actions (pr_len1 hz).2.2.2.1
theorem q_Table : Kp Tryz.prog w 13 #[.agg #[.slice p.headers.p p.headers.l.length p.headers.cap, .slice p.metas.p p.metas.l.length p.metas.cap, .slice p.states.p p.states.l.length p.states.cap, .slice p.actions.p p.actions.l.length p.actions.cap, .slice p.tables.p p.tables.l.length p.tables.cap, .slice p.control.p p.control.l.length p.control.cap, .slice p.emit.p p.emit.l.length p.emit.cap], .string s] (.int .i64 (taI p.tables.l s)) := res_Table _ _ _ _ _ _ _ _ _ _ _ _ _ _ _ _ _ _ _ p.tables s w h.tables (pr_len1 hz).2.2.2.2.1
end
def errV (e : Nat) : Value := .int .i64 (e : Int)
set_option maxRecDepth 100000 in
set_option maxHeartbeats 8000000 in
theorem q_alone (a b : Int) (w : World) : Kp Tryz.prog w 64 #[.int .i64 a, .int .i64 b] (.int .i64 (if a = b then 0 else 8)) := by
  intro y0
  obtain ⟨V, hV⟩ : ∃ V, plus w y0 = V := ⟨_, rfl⟩
  rw [hV]
  clear hV
  by_cases q : a = b
  · rw [if_pos q]
    subst q
    go_enter Tryz.func64, Tryz.ntmps64
    go_wp2
    go_ret
    exact ⟨rfl, _, (plus_self _).symm⟩
  · rw [if_neg q]
    go_enter Tryz.func64, Tryz.ntmps64
    go_wp2
    go_ret
    exact ⟨rfl, _, (plus_self _).symm⟩
set_option maxRecDepth 100000 in
set_option maxHeartbeats 8000000 in
theorem q_known (a : Int) (w : World) : Kp Tryz.prog w 67 #[.int .i64 a] (.int .i64 (if a = -1 then 7 else 0)) := by
  intro y0
  obtain ⟨V, hV⟩ : ∃ V, plus w y0 = V := ⟨_, rfl⟩
  rw [hV]
  clear hV
  by_cases q : a = -1
  · rw [if_pos q]
    subst q
    go_enter Tryz.func67, Tryz.ntmps67
    go_wp2
    go_ret
    exact ⟨rfl, _, (plus_self _).symm⟩
  · rw [if_neg q]
    go_enter Tryz.func67, Tryz.ntmps67
    go_wp2
    go_ret
    exact ⟨rfl, _, (plus_self _).symm⟩
set_option maxRecDepth 100000 in
set_option maxHeartbeats 8000000 in
theorem q_wrongTarget (p : Pr) (w : World) (h : p.In w) (hz : p.sz ≤ 1048576) (s : ByteArray) : Kp Tryz.prog w 69 #[.agg #[.slice p.headers.p p.headers.l.length p.headers.cap, .slice p.metas.p p.metas.l.length p.metas.cap, .slice p.states.p p.states.l.length p.states.cap, .slice p.actions.p p.actions.l.length p.actions.cap, .slice p.tables.p p.tables.l.length p.tables.cap, .slice p.control.p p.control.l.length p.control.cap, .slice p.emit.p p.emit.l.length p.emit.cap], .string s] (.int .i64 (if (stI p.states.l s).2 then 0 else 7)) := by
  intro y0
  have hS := (q_State p w h hz s).up y0
  obtain ⟨V, hV⟩ : ∃ V, plus w y0 = V := ⟨_, rfl⟩
  rw [hV] at hS ⊢
  clear hV h hz
  obtain ⟨⟨I, b⟩, hR⟩ : ∃ R, stI p.states.l s = R := ⟨_, rfl⟩
  rw [hR] at hS ⊢
  have hS' := Lib.hid hS
  clear hS hR
  go_enter Tryz.func69, Tryz.ntmps69
  go_upto_region 1 with (fail)
  obtain ⟨W, yy, hW, ⟨z, hz⟩, ca⟩ := box1n V _ 30
  rw [hW]
  have c0 := ca 0 _ rfl
  have c1 := ca 1 _ rfl
  have c2 := ca 2 _ rfl
  have c3 := ca 3 _ rfl
  have c4 := ca 4 _ rfl
  have c5 := ca 5 _ rfl
  have c6 := ca 6 _ rfl
  have qc := Lib.hid (kp_at hz hS'.out)
  have hz2 := Lib.hid hz
  clear hW hz ca hS'
  cases b with
  | true =>
    go_wp2_with (first | (go_at_call 14; with_reducible refine (qc.out _).mono ?_; rintro r w' ⟨rfl, x, rfl⟩))
    go_ret
    exact ⟨rfl, by rw [hz2.out, plus_plus]; exact ⟨_, rfl⟩⟩
  | false =>
    go_wp2_with (first | (go_at_call 14; with_reducible refine (qc.out _).mono ?_; rintro r w' ⟨rfl, x, rfl⟩))
    go_ret
    exact ⟨rfl, by rw [hz2.out, plus_plus]; exact ⟨_, rfl⟩⟩
/-- A header's field of a name. -/
def fieldI (p : Pr) (i : Int) (s : ByteArray) : Int := if i < 0 then -1 else match p.headers.l[i.toNat]? with | none => -1 | some x => fdI x.fields.l s
set_option maxRecDepth 100000 in
set_option maxHeartbeats 8000000 in
theorem q_Field (p : Pr) (w : World) (h : p.In w) (hz : p.sz ≤ 1048576) (i : Int) (s : ByteArray) : Kp Tryz.prog w 65 #[.agg #[.slice p.headers.p p.headers.l.length p.headers.cap, .slice p.metas.p p.metas.l.length p.metas.cap, .slice p.states.p p.states.l.length p.states.cap, .slice p.actions.p p.actions.l.length p.actions.cap, .slice p.tables.p p.tables.l.length p.tables.cap, .slice p.control.p p.control.l.length p.control.cap, .slice p.emit.p p.emit.l.length p.emit.cap], .int .i64 i, .string s] (.int .i64 (fieldI p i s)) := by
  intro y0
  have hr := h.headers.row.plus y0
  have hf : ∀ x ∈ p.headers.l, Kp Tryz.prog w 107 #[x.fields.v, .string s] (.int .i64 (fdI x.fields.l s)) := fun x hx => by
    have h1 := le_sum_of Hr.sz p.headers.l x hx
    have h2 : p.sz = p.headers.size Hr.sz + p.metas.size Fd.sz + p.states.size Sa.sz + p.actions.size Ac.sz + p.tables.size Ta.sz + p.control.size St.sz + p.emit.size strSize := rfl
    have h3 : p.headers.size Hr.sz = (p.headers.l.map Hr.sz).sum := rfl
    have h4 : x.fields.size Fd.sz ≤ x.sz := by unfold Hr.sz; omega
    exact res_firstField _ x.fields s w (h.headers.kids x hx).fields (len_le Fd.sz Fd.sz_pos x.fields (by omega))
  have hf := fun x hx => (hf x hx).up y0
  obtain ⟨V, hV⟩ : ∃ V, plus w y0 = V := ⟨_, rfl⟩
  simp only [hV] at hf hr ⊢
  clear hV h hz
  have hf' := Lib.hid hf
  have hr' := Lib.hid hr
  clear hf hr
  obtain ⟨R, hR⟩ : ∃ R, fieldI p i s = R := ⟨_, rfl⟩
  rw [hR]
  have hR' := Lib.hid hR
  clear hR
  obtain ⟨A, hA⟩ : ∃ A, p.headers = A := ⟨_, rfl⟩
  have hA' := Lib.hid hA
  rw [hA]
  clear hA
  obtain ⟨ap, ac, al⟩ := A
  obtain ⟨n, hn⟩ : ∃ n, al.length = n := ⟨_, rfl⟩
  simp only [hn]
  have hn' := Lib.hid hn
  clear hn
  go_enter Tryz.func65, Tryz.ntmps65
  go_upto_region 1 with (fail)
  obtain ⟨W, yy, hW, ⟨z, hz⟩, ca⟩ := box1n V _ 30
  rw [hW]
  have c0 := ca 0 _ rfl
  have hz2 := Lib.hid hz
  clear hW ca
  by_cases q1 : i < 0
  · have e := Lib.hid (show (-1 : Int) = R by rw [← hR'.out]; unfold fieldI; rw [if_pos q1])
    clear hR' hf' hr' hz hA'
    go_wp2
    go_ret
    exact ⟨congrArg (fun z => Ending.returned (Value.int .i64 z)) e.out, by rw [hz2.out, plus_plus]; exact ⟨_, rfl⟩⟩
  obtain ⟨k, rfl⟩ : ∃ k : Nat, i = (k : Int) := ⟨i.toNat, by omega⟩
  clear q1
  by_cases q2 : k < n
  · obtain ⟨x, hx⟩ : ∃ x, al[k]? = some x := ⟨al[k]'(by rw [hn'.out]; exact q2), List.getElem?_eq_getElem _⟩
    have e := Lib.hid (show fdI x.fields.l s = R by rw [← hR'.out]; unfold fieldI; rw [if_neg (by omega), Int.toNat_natCast, hA'.out]; simp only [hx])
    rw [hA'.out] at hr' hf'
    obtain ⟨pa, ha, hc⟩ := hr'.out k x hx
    simp only at ha
    subst ha
    have hc := cells_up hz hc
    have qc := Lib.hid (kp_at hz (hf'.out x (List.mem_of_getElem? hx)))
    have d0 := fun y => (hc.plus y).c0 _ rfl
    have d1 := fun y => (hc.plus y).cs 0 _ rfl
    clear hR' hf' hr' hz hA' hc hx hn'
    simp only [Hr.cells, Sl.v] at *
    go_wp2_with (first | (go_at_call 107; with_reducible refine (qc.out _).mono ?_; rintro r w' ⟨rfl, x, rfl⟩))
    go_ret
    exact ⟨congrArg (fun z => Ending.returned (Value.int .i64 z)) e.out, by rw [hz2.out, plus_plus]; exact ⟨_, rfl⟩⟩
  · have e := Lib.hid (show (-1 : Int) = R by
      rw [← hR'.out]; unfold fieldI; rw [if_neg (by omega), Int.toNat_natCast, hA'.out]
      simp only [List.getElem?_eq_none (show al.length ≤ k by rw [hn'.out]; omega)])
    clear hR' hf' hr' hz hA'
    go_wp2
    go_ret
    exact ⟨congrArg (fun z => Ending.returned (Value.int .i64 z)) e.out, by rw [hz2.out, plus_plus]; exact ⟨_, rfl⟩⟩
/-- A action's field of a name. -/
def paramI (p : Pr) (i : Int) (s : ByteArray) : Int := if i < 0 then -1 else match p.actions.l[i.toNat]? with | none => -1 | some x => fdI x.params.l s
set_option maxRecDepth 100000 in
set_option maxHeartbeats 8000000 in
theorem q_Param (p : Pr) (w : World) (h : p.In w) (hz : p.sz ≤ 1048576) (i : Int) (s : ByteArray) : Kp Tryz.prog w 70 #[.agg #[.slice p.headers.p p.headers.l.length p.headers.cap, .slice p.metas.p p.metas.l.length p.metas.cap, .slice p.states.p p.states.l.length p.states.cap, .slice p.actions.p p.actions.l.length p.actions.cap, .slice p.tables.p p.tables.l.length p.tables.cap, .slice p.control.p p.control.l.length p.control.cap, .slice p.emit.p p.emit.l.length p.emit.cap], .int .i64 i, .string s] (.int .i64 (paramI p i s)) := by
  intro y0
  have hr := h.actions.row.plus y0
  have hf : ∀ x ∈ p.actions.l, Kp Tryz.prog w 107 #[x.params.v, .string s] (.int .i64 (fdI x.params.l s)) := fun x hx => by
    have h1 := le_sum_of Ac.sz p.actions.l x hx
    have h2 : p.sz = p.headers.size Hr.sz + p.metas.size Fd.sz + p.states.size Sa.sz + p.actions.size Ac.sz + p.tables.size Ta.sz + p.control.size St.sz + p.emit.size strSize := rfl
    have h3 : p.actions.size Ac.sz = (p.actions.l.map Ac.sz).sum := rfl
    have h4 : x.params.size Fd.sz ≤ x.sz := by unfold Ac.sz; omega
    exact res_firstField _ x.params s w (h.actions.kids x hx).params (len_le Fd.sz Fd.sz_pos x.params (by omega))
  have hf := fun x hx => (hf x hx).up y0
  obtain ⟨V, hV⟩ : ∃ V, plus w y0 = V := ⟨_, rfl⟩
  simp only [hV] at hf hr ⊢
  clear hV h hz
  have hf' := Lib.hid hf
  have hr' := Lib.hid hr
  clear hf hr
  obtain ⟨R, hR⟩ : ∃ R, paramI p i s = R := ⟨_, rfl⟩
  rw [hR]
  have hR' := Lib.hid hR
  clear hR
  obtain ⟨A, hA⟩ : ∃ A, p.actions = A := ⟨_, rfl⟩
  have hA' := Lib.hid hA
  rw [hA]
  clear hA
  obtain ⟨ap, ac, al⟩ := A
  obtain ⟨n, hn⟩ : ∃ n, al.length = n := ⟨_, rfl⟩
  simp only [hn]
  have hn' := Lib.hid hn
  clear hn
  go_enter Tryz.func70, Tryz.ntmps70
  go_upto_region 1 with (fail)
  obtain ⟨W, yy, hW, ⟨z, hz⟩, ca⟩ := box1n V _ 30
  rw [hW]
  have c3 := ca 3 _ rfl
  have hz2 := Lib.hid hz
  clear hW ca
  by_cases q1 : i < 0
  · have e := Lib.hid (show (-1 : Int) = R by rw [← hR'.out]; unfold paramI; rw [if_pos q1])
    clear hR' hf' hr' hz hA'
    go_wp2
    go_ret
    exact ⟨congrArg (fun z => Ending.returned (Value.int .i64 z)) e.out, by rw [hz2.out, plus_plus]; exact ⟨_, rfl⟩⟩
  obtain ⟨k, rfl⟩ : ∃ k : Nat, i = (k : Int) := ⟨i.toNat, by omega⟩
  clear q1
  by_cases q2 : k < n
  · obtain ⟨x, hx⟩ : ∃ x, al[k]? = some x := ⟨al[k]'(by rw [hn'.out]; exact q2), List.getElem?_eq_getElem _⟩
    have e := Lib.hid (show fdI x.params.l s = R by rw [← hR'.out]; unfold paramI; rw [if_neg (by omega), Int.toNat_natCast, hA'.out]; simp only [hx])
    rw [hA'.out] at hr' hf'
    obtain ⟨pa, ha, hc⟩ := hr'.out k x hx
    simp only at ha
    subst ha
    have hc := cells_up hz hc
    have qc := Lib.hid (kp_at hz (hf'.out x (List.mem_of_getElem? hx)))
    have d0 := fun y => (hc.plus y).c0 _ rfl
    have d1 := fun y => (hc.plus y).cs 0 _ rfl
    have d2 := fun y => (hc.plus y).cs 1 _ rfl
    clear hR' hf' hr' hz hA' hc hx hn'
    simp only [Ac.cells, Sl.v] at *
    go_wp2_with (first | (go_at_call 107; with_reducible refine (qc.out _).mono ?_; rintro r w' ⟨rfl, x, rfl⟩))
    go_ret
    exact ⟨congrArg (fun z => Ending.returned (Value.int .i64 z)) e.out, by rw [hz2.out, plus_plus]; exact ⟨_, rfl⟩⟩
  · have e := Lib.hid (show (-1 : Int) = R by
      rw [← hR'.out]; unfold paramI; rw [if_neg (by omega), Int.toNat_natCast, hA'.out]
      simp only [List.getElem?_eq_none (show al.length ≤ k by rw [hn'.out]; omega)])
    clear hR' hf' hr' hz hA'
    go_wp2
    go_ret
    exact ⟨congrArg (fun z => Ending.returned (Value.int .i64 z)) e.out, by rw [hz2.out, plus_plus]; exact ⟨_, rfl⟩⟩
end Go.Proofs.YtlmhldcebllckaaGreat
