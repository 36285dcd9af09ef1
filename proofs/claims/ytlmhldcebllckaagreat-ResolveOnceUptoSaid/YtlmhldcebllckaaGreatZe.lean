/-
  WHAT IS PROVED HERE: what the landed resolve's Bits, isThere, Names hand back. Written by gen/ze.py.
-/
import Derived.Test.YtlmhldcebllckaaGreatRows
import Derived.Test.YtlmhldcebllckaaGreatZd
import Derived.WalkKit
import Derived.Lib.Hide
import Derived.WalkSpells
import Derived.WalkLawsBesides
namespace Go.Proofs.YtlmhldcebllckaaGreat
open Go.RowKit
/-- A header's width. -/
def bitsI (l : List Fd) : Int := l.foldl (fun s f => wrap64 (s + f.w)) 0
theorem bitsI_take (l : List Fd) (k : Nat) (x : Fd) (h : l[k]? = some x) : bitsI (l.take (k + 1)) = wrap64 (bitsI (l.take k) + x.w) := by
  obtain ⟨h1, rfl⟩ := List.getElem?_eq_some_iff.1 h
  unfold bitsI
  rw [List.take_succ_eq_append_getElem h1, List.foldl_append]
  rfl
theorem alloc_in {W : World} {y : Ext} (o : Obj) : ∃ x, (plus W y).alloc o = plus W x := by
  obtain ⟨x, hx⟩ := plus_of_below ((Below.refl (plus W y).heap.size (plus W y)).alloc (Nat.le_refl _) o)
  exact ⟨_, by rw [hx, plus_plus]⟩
set_option maxRecDepth 100000 in
set_option maxHeartbeats 8000000 in
theorem q_Bits (nm : ByteArray) (A : Sl Fd) (w : World) (K : Fd → Prop) (hA : A.In w 2 Fd.cells K) (hl : A.l.length ≤ 1048576) : Kp Tryz.prog w 11 #[.agg #[.string nm, A.v]] (.int .i64 (bitsI A.l)) := by
  intro y0
  have hr := hA.row.plus y0
  obtain ⟨V, hV⟩ : ∃ V, plus w y0 = V := ⟨_, rfl⟩
  rw [hV] at hr ⊢
  clear hV hA
  obtain ⟨ap, ac, al⟩ := A
  simp only [Sl.v] at hr hl ⊢
  obtain ⟨n, hn⟩ : ∃ n, al.length = n := ⟨_, rfl⟩
  rw [hn] at hl ⊢
  have hn' := Lib.hid hn
  have hl' := Lib.hid hl
  have hr' := Lib.hid hr
  clear hn hl hr
  go_enter Tryz.func11, Tryz.ntmps11
  go_upto_region 1 with (fail)
  obtain ⟨W, yy, hW, ⟨z, hz⟩, ca⟩ := box1n V _ 38
  rw [hW]
  have c1 := ca 1 _ rfl
  have hr2 := Lib.hid (fun k x (hx : al[k]? = some x) => (show ∃ pa, ap = some pa ∧ CellsAt W (pa.add (k * 2)) x.cells by
    obtain ⟨pa, e, hc⟩ := hr'.out k x hx
    exact ⟨pa, e, cells_up hz hc⟩))
  have hz2 := Lib.hid hz
  clear hW hz ca hr'
  go_upto_region 3 with (fail)
  go_loopw [3, 5, 9] (fun sv _ iv wr => ∃ k : Nat, k ≤ n ∧ iv = .int .i64 (k : Int) ∧ sv = .int .i64 (bitsI (al.take k)) ∧ ∃ y, wr = plus W y) (fun _ _ iv _ => n - (intOf iv).toNat)
  case atStart => exact ⟨0, Nat.zero_le _, rfl, rfl, _, rfl⟩
  case round =>
    obtain ⟨k, hk, rfl, rfl, y, rfl⟩ := hrel
    by_cases hlt : k < n
    · obtain ⟨a, ha⟩ : ∃ s, al[k]? = some s := ⟨al[k]'(by rw [hn'.out]; exact hlt), List.getElem?_eq_getElem _⟩
      obtain ⟨pa, rfl, hc⟩ := hr2.out k a ha
      have hs := Lib.hid (bitsI_take al k a ha)
      obtain ⟨an, aw⟩ := a
      have d0 := fun y => (hc.plus y).c0 _ rfl
      have d1 := fun y => (hc.plus y).cs 0 _ rfl
      simp only at d0 d1
      have a6 := Lib.hid (wr_succ k n hlt hl'.out)
      obtain ⟨T, hT⟩ : ∃ T, bitsI (al.take k) = T := ⟨_, rfl⟩
      rw [hT]
      have hT' := Lib.hid hT
      clear hc ha hT
      go_wp2
      go_roundw
      case rel => exact ⟨k + 1, hlt, congrArg (Value.int .i64) a6.out, congrArg (Value.int .i64) (by rw [hs.out, hT'.out]), alloc_in _⟩
      case measure => exact step_less k n hlt a6.out
    · obtain rfl : k = n := by omega
      have e := Lib.hid (show bitsI (al.take k) = bitsI al by rw [List.take_of_length_le (by rw [hn'.out]; exact Nat.le_refl _)])
      clear hlt hk
      go_wp2
      go_ret
      exact ⟨congrArg (fun z => Ending.returned (Value.int .i64 z)) e.out, by rw [hz2.out, plus_plus]; exact ⟨_, rfl⟩⟩
/-- Is what an expression names itself there? -/
def isB (p : Pr) (act : Int) (e : Ex) : Bool := if e.op = 2 then (fieldI p (hdI p.headers.l e.head) e.name != -1) else if e.op = 3 then (fdI p.metas.l e.name != -1) else if e.op = 4 then (paramI p act e.name != -1) else if e.op = 6 then (hdI p.headers.l e.head != -1) else true
set_option maxRecDepth 100000 in
set_option maxHeartbeats 8000000 in
theorem q_isThere (p : Pr) (w : World) (h : p.In w) (hz : p.sz ≤ 1048576) (act : Int) (e : Ex) : Kp Tryz.prog w 110 #[.agg #[.slice p.headers.p p.headers.l.length p.headers.cap, .slice p.metas.p p.metas.l.length p.metas.cap, .slice p.states.p p.states.l.length p.states.cap, .slice p.actions.p p.actions.l.length p.actions.cap, .slice p.tables.p p.tables.l.length p.tables.cap, .slice p.control.p p.control.l.length p.control.cap, .slice p.emit.p p.emit.l.length p.emit.cap], .int .i64 act, .agg #[.int .u8 e.op, .int .i64 e.lit.w, .int .u64 e.lit.h, .int .u64 e.lit.l, .string e.head, .string e.name, .int .i64 e.hi, .int .i64 e.lo, .slice e.p e.args.length e.cap]] (.bool (isB p act e)) := by
  intro y0
  have k1 := (q_Header p w h hz e.head).up y0
  have k2 := (q_Field p w h hz (hdI p.headers.l e.head) e.name).up y0
  have k3 := (q_Meta p w h hz e.name).up y0
  have k4 := (q_Param p w h hz act e.name).up y0
  obtain ⟨V, hV⟩ : ∃ V, plus w y0 = V := ⟨_, rfl⟩
  rw [hV] at k1 k2 k3 k4 ⊢
  clear hV h hz
  obtain ⟨R, hR⟩ : ∃ R, isB p act e = R := ⟨_, rfl⟩
  rw [hR]
  unfold isB at hR
  generalize fieldI p (hdI p.headers.l e.head) e.name = I2 at hR k2
  generalize hdI p.headers.l e.head = I1 at hR k1 k2
  generalize fdI p.metas.l e.name = I3 at hR k3
  generalize paramI p act e.name = I4 at hR k4
  have g2 := Lib.hid (show e.op = 2 → (I2 != -1) = R from fun h => by rw [← hR, if_pos h])
  have g3 := Lib.hid (show e.op = 3 → (I3 != -1) = R from fun h => by rw [← hR, if_neg (by omega), if_pos h])
  have g4 := Lib.hid (show e.op = 4 → (I4 != -1) = R from fun h => by rw [← hR, if_neg (by omega), if_neg (by omega), if_pos h])
  have g6 := Lib.hid (show e.op = 6 → (I1 != -1) = R from fun h => by rw [← hR, if_neg (by omega), if_neg (by omega), if_neg (by omega), if_pos h])
  have g0 := Lib.hid (show e.op ≠ 2 → e.op ≠ 3 → e.op ≠ 4 → e.op ≠ 6 → true = R from fun h h1 h2 h3 => by rw [← hR, if_neg h, if_neg h1, if_neg h2, if_neg h3])
  have k1' := Lib.hid k1
  have k2' := Lib.hid k2
  have k3' := Lib.hid k3
  have k4' := Lib.hid k4
  clear hR k1 k2 k3 k4
  obtain ⟨op, ⟨lw, lh, ll⟩, hd, nm, hi, lo, ep, ec, el⟩ := e
  simp only [Ex.op, Ex.lit, Ex.head, Ex.name, Ex.hi, Ex.lo, Ex.p, Ex.cap, Ex.args] at *
  go_enter Tryz.func110, Tryz.ntmps110
  go_upto_region 1 with (fail)
  obtain ⟨W, yy, hW, ⟨z, hz⟩, ca, cb⟩ := box2n V _ _ 30 68
  rw [hW]
  have c0 := ca 0 _ rfl
  have c1 := ca 1 _ rfl
  have c2 := ca 2 _ rfl
  have c3 := ca 3 _ rfl
  have c4 := ca 4 _ rfl
  have c5 := ca 5 _ rfl
  have c6 := ca 6 _ rfl
  have b0 := cb 0 _ rfl
  have b1 := cb 1 _ rfl
  have b2 := cb 2 _ rfl
  have b3 := cb 3 _ rfl
  have b4 := cb 4 _ rfl
  have b5 := cb 5 _ rfl
  have b6 := cb 6 _ rfl
  have b7 := cb 7 _ rfl
  have b8 := cb 8 _ rfl
  have q1 := Lib.hid (kp_at hz k1'.out)
  have q2 := Lib.hid (kp_at hz k2'.out)
  have q3 := Lib.hid (kp_at hz k3'.out)
  have q4 := Lib.hid (kp_at hz k4'.out)
  have hz2 := Lib.hid hz
  clear hW hz ca cb k1' k2' k3' k4'
  by_cases o2 : op = 2
  · have hR2 := Lib.hid (g2.out o2)
    subst o2
    clear g0 g2 g3 g4 g6 q3 q4
    go_upto_region 3 with (fail)
    refine wp_region_own (by kernel_rfl) (by kernel_rfl) ?_
    repeat (go_big_quiet_step (first | (with_reducible exact q1.out _) | (with_reducible exact q2.out _)))
    refine wpQuiet_nil ?_
    rintro _ ⟨y2, rfl⟩
    go_wp2
    go_ret
    exact ⟨congrArg (fun z => Ending.returned (Value.bool z)) hR2.out, by rw [hz2.out, plus_plus]; exact ⟨_, rfl⟩⟩
  have n2 : (op == 2) = false := by simpa using o2
  by_cases o3 : op = 3
  · have hR2 := Lib.hid (g3.out o3)
    subst o3
    clear g0 g2 g3 g4 g6 q1 q2 q4
    go_wp2_with (first | (go_at_call 66; with_reducible refine (q3.out _).mono ?_; rintro r w' ⟨rfl, x, rfl⟩))
    go_ret
    exact ⟨congrArg (fun z => Ending.returned (Value.bool z)) hR2.out, by rw [hz2.out, plus_plus]; exact ⟨_, rfl⟩⟩
  have n3 : (op == 3) = false := by simpa using o3
  by_cases o4 : op = 4
  · have hR2 := Lib.hid (g4.out o4)
    subst o4
    clear g0 g2 g3 g4 g6 q1 q2 q3
    go_wp2_with (first | (go_at_call 70; with_reducible refine (q4.out _).mono ?_; rintro r w' ⟨rfl, x, rfl⟩))
    go_ret
    exact ⟨congrArg (fun z => Ending.returned (Value.bool z)) hR2.out, by rw [hz2.out, plus_plus]; exact ⟨_, rfl⟩⟩
  have n4 : (op == 4) = false := by simpa using o4
  by_cases o6 : op = 6
  · have hR2 := Lib.hid (g6.out o6)
    subst o6
    clear g0 g2 g3 g4 g6 q2 q3 q4
    go_wp2_with (first | (go_at_call 10; with_reducible refine (q1.out _).mono ?_; rintro r w' ⟨rfl, x, rfl⟩))
    go_ret
    exact ⟨congrArg (fun z => Ending.returned (Value.bool z)) hR2.out, by rw [hz2.out, plus_plus]; exact ⟨_, rfl⟩⟩
  have n6 : (op == 6) = false := by simpa using o6
  have hR2 := Lib.hid (g0.out o2 o3 o4 o6)
  clear g0 g2 g3 g4 g6 q1 q2 q3 q4 o2 o3 o4 o6
  go_wp2
  go_ret
  exact ⟨congrArg (fun z => Ending.returned (Value.bool z)) hR2.out, by rw [hz2.out, plus_plus]; exact ⟨_, rfl⟩⟩
mutual
/-- .. and of all in it? -/
def Ex.there (f : Ex → Bool) : Ex → Bool
  | .mk op lit hd nm hi lo p c l => f (.mk op lit hd nm hi lo p c l) && Ex.theres f l
def Ex.theres (f : Ex → Bool) : List Ex → Bool
  | [] => true
  | x :: l => x.there f && Ex.theres f l
end
theorem Ex.theres_all (f : Ex → Bool) : ∀ l : List Ex, Ex.theres f l = l.all (Ex.there f)
  | [] => by simp [Ex.theres]
  | x :: l => by simp [Ex.theres, Ex.theres_all f l]
theorem Ex.there_eq (f : Ex → Bool) (e : Ex) : e.there f = (f e && e.args.all (Ex.there f)) := by
  cases e; simp [Ex.there, Ex.theres_all, Ex.args]
theorem firstI_none {α : Type} (q : α → Bool) : ∀ (l : List α) (k : Nat), (firstI (fun x => !q x) l k == -1) = l.all q
  | [], _ => by simp [firstI]
  | x :: l, k => by
    unfold firstI
    cases h : q x with
    | true => simp only [Bool.not_true, Bool.false_eq_true, if_false, List.all_cons, h, Bool.true_and]; exact firstI_none q l (k + 1)
    | false =>
      simp only [Bool.not_false, if_true, List.all_cons, h, Bool.false_and]
      rw [beq_eq_false_iff_ne]
      omega
set_option maxRecDepth 100000 in
set_option maxHeartbeats 8000000 in
theorem names11 (bt : Nat) (fv : Value) (g : FuncId) (caps : Array Value) (hfv : fv = .func (.func g) #[] caps) (hent : ∀ args w, (callFunc g args).run Tryz.prog w = .ok (.enter g args) w) (e : Ex) (b : Bool) (w : World) (hc : w.cell? ⟨bt, 0, none⟩ = some fv)
    (hX : Kp Tryz.prog w g (#[.agg #[.int .u8 e.op, .int .i64 e.lit.w, .int .u64 e.lit.h, .int .u64 e.lit.l, .string e.head, .string e.name, .int .i64 e.hi, .int .i64 e.lo, .slice e.p e.args.length e.cap]] ++ caps) (.bool b)) : Kp Tryz.prog w 112 #[.agg #[.int .u8 e.op, .int .i64 e.lit.w, .int .u64 e.lit.h, .int .u64 e.lit.l, .string e.head, .string e.name, .int .i64 e.hi, .int .i64 e.lo, .slice e.p e.args.length e.cap], .pointer (some ⟨bt, 0, none⟩)] (.bool (!b)) := by
  intro y0
  have hX := hX.up y0
  have hc := cell_keep hc y0
  obtain ⟨V, hV⟩ : ∃ V, plus w y0 = V := ⟨_, rfl⟩
  rw [hV] at hX hc ⊢
  clear hV
  have hc2 := fun o : Obj => cell_alloc hc o
  have hX' := Lib.hid hX
  have hc' := Lib.hid hc
  clear hX hc
  obtain ⟨op, ⟨lw, lh, ll⟩, hd, nm, hi, lo, ep, ec, el⟩ := e
  simp only [Ex.op, Ex.lit, Ex.head, Ex.name, Ex.hi, Ex.lo, Ex.p, Ex.cap, Ex.args] at *
  subst hfv
  go_enter Tryz.func112, Tryz.ntmps112
  go_upto_region 1 with (fail)
  obtain ⟨W, yy, hW, ⟨z, hz⟩, ca⟩ := box1n V _ 68
  rw [hW]
  have c0 := ca 0 _ rfl
  have c1 := ca 1 _ rfl
  have c2 := ca 2 _ rfl
  have c3 := ca 3 _ rfl
  have c4 := ca 4 _ rfl
  have c5 := ca 5 _ rfl
  have c6 := ca 6 _ rfl
  have c7 := ca 7 _ rfl
  have c8 := ca 8 _ rfl
  have hc3 : ∀ y, (plus W y).cell? ⟨bt, 0, none⟩ = some (.func (.func g) #[] caps) := fun y => cell_keep (by rw [hz]; exact cell_keep hc'.out z) y
  have q1 := Lib.hid (kp_at hz hX'.out)
  have hz2 := Lib.hid hz
  clear hW hz ca hX' hc' hc2
  go_wp2_with (first | (refine (q1.out _).mono ?_; rintro r w' ⟨rfl, x, rfl⟩))
  go_ret
  exact ⟨rfl, by rw [hz2.out, plus_plus]; exact ⟨_, rfl⟩⟩
end Go.Proofs.YtlmhldcebllckaaGreat
