/-
  WHAT IS PROVED HERE: the page's two examples as trees; words for where they lie. · the page's examples ('known'): true, in whatever world.
-/
import Derived.Test.YtddpmfilkhegmaaGreatRows
import Derived.Test.YtddpmfilkhegmaaGreatHF
import Derived.Test.YtddpmfilkhegmaaGreatHo
import Derived.WalkKit
import Derived.Lib.Hide
import Derived.WalkSpells
import Derived.WalkLawsBesides
import Derived.Deep.RegionHeld3
namespace Go.Proofs.YtddpmfilkhegmaaGreat
open Go.RowKit
theorem cell_drew {w : World} {a : Addr} {v : Value} (h : w.cell? a = some v) : w.drew.cell? a = some v := h
abbrev portC : List Value := [.int .u8 5, .int .i64 0, .int .u64 0, .int .u64 0, .string ⟨#[]⟩, .string ⟨#[]⟩, .int .i64 0, .int .i64 0, .slice none 0 0]
abbrev port2 : Array Value := #[.int .u8 5, .int .i64 0, .int .u64 0, .int .u64 0, .string ⟨#[]⟩, .string ⟨#[]⟩, .int .i64 0, .int .i64 0, .slice none 0 0, .int .u8 5, .int .i64 0, .int .u64 0, .int .u64 0, .string ⟨#[]⟩, .string ⟨#[]⟩, .int .i64 0, .int .i64 0, .slice none 0 0]
abbrev sumC (k : Int) (p : Nat) : Array Value := #[.int .u8 k, .int .i64 0, .int .u64 0, .int .u64 0, .string ⟨#[]⟩, .string ⟨#[]⟩, .int .i64 0, .int .i64 0, .slice (some ⟨p, 0, none⟩) 2 2]
/-- The two examples lie in blocks b and c. -/
def Kn (V : World) (b c : Nat) (wx : World) : Prop := ∃ p q, (∃ z, wx = plus V z) ∧ wx.heap[b]? = some (.cells (sumC 12 p) 38) ∧ wx.heap[c]? = some (.cells (sumC 14 q) 38) ∧ wx.heap[p]? = some (.cells port2 38) ∧ wx.heap[q]? = some (.cells port2 38)
theorem ext_alloc {V w : World} (o : Obj) (h : ∃ z, w = plus V z) : ∃ z, w.alloc o = plus V z := by
  obtain ⟨z, rfl⟩ := h
  exact plus_alloc1 V z o
theorem ext_drew {V w : World} (h : ∃ z, w = plus V z) : ∃ z, w.drew = plus V z := by
  obtain ⟨z, rfl⟩ := h
  exact drew_plus V z
theorem heap_at {w : World} {o : Obj} {i : Nat} (h : i = w.heap.size) : (w.alloc o).heap[i]? = some o := by
  subst h
  show (w.heap.push o)[w.heap.size]? = _
  simp
theorem heap_below {w : World} {o x : Obj} {i : Nat} (h : w.heap[i]? = some x) : (w.alloc o).heap[i]? = some x := by
  show (w.heap.push o)[i]? = _
  have := (Array.getElem?_eq_some_iff.1 h).1
  rw [Array.getElem?_push, if_neg (by omega)]
  exact h
theorem heap_drew {w : World} {x : Obj} {i : Nat} (h : w.heap[i]? = some x) : w.drew.heap[i]? = some x := h
theorem calls_self' {P : Program} {V : World} {f : FuncId} {args : Array Value} {v : Value} (h : PureIn P V f args v) : Calls P f args V fun e w' => e = .returned v ∧ ∃ x, w' = plus V x := by
  have := h ⟨#[], V.drawn⟩
  rwa [plus_self] at this
theorem Kn.mk {V wx : World} {b c p q : Nat} (h0 : ∃ z, wx = plus V z) (h1 : wx.heap[b]? = some (.cells (sumC 12 p) 38)) (h2 : wx.heap[c]? = some (.cells (sumC 14 q) 38)) (h3 : wx.heap[p]? = some (.cells port2 38)) (h4 : wx.heap[q]? = some (.cells port2 38)) : Kn V b c wx := ⟨p, q, h0, h1, h2, h3, h4⟩
theorem cell_of_heap {w : World} {b j : Nat} {cs : Array Value} {t : TypeId} {v : Value} (h : w.heap[b]? = some (.cells cs t)) (hj : cs[j]? = some v) : w.cell? ⟨b, j, none⟩ = some v := by
  unfold World.cell?
  simp only [h]
  simpa using hj
def port : Ex := .mk 5 ⟨0, 0, 0⟩ ⟨#[]⟩ ⟨#[]⟩ 0 0 none 0 []
def exS (k : Int) (p : Nat) : Ex := .mk k ⟨0, 0, 0⟩ ⟨#[]⟩ ⟨#[]⟩ 0 0 (some ⟨p, 0, none⟩) 2 [port, port]
theorem exS_cells (k : Int) (p : Nat) : Value.agg (exS k p).cells.toArray = .agg (sumC k p) := rfl
theorem port_in (w : World) : port.In w :=
  .mk _ (by decide) ⟨by decide, by decide, by decide⟩ (by decide) (by decide) (Nat.zero_le _) (Nat.zero_le _) (Nat.zero_le _) (Nat.zero_le _) (fun i x h => by simp [port, Ex.args] at h) (fun x h => by simp [port, Ex.args] at h)
theorem exS_in (k : Int) (hk : (Lit.int .u8 k).wf = true) (w : World) (p : Nat) (h : w.heap[p]? = some (.cells port2 38)) : (exS k p).In w := by
  refine .mk _ hk ⟨(show (Lit.int .i64 0).wf = true by decide), (show (Lit.int .u64 0).wf = true by decide), (show (Lit.int .u64 0).wf = true by decide)⟩ (show (Lit.int .i64 0).wf = true by decide) (show (Lit.int .i64 0).wf = true by decide) (Nat.zero_le _) (Nat.zero_le _) (Nat.le_refl _) (by simp [exS, Ex.cap, maxLen]) (fun i x hi => ⟨⟨p, 0, none⟩, rfl, fun j v hj => ?_⟩) (fun x hx => ?_)
  · simp only [exS, Ex.args] at hi
    have hjl : j < 9 := by
      have := (List.getElem?_eq_some_iff.1 hj).1
      simpa [Ex.cells] using this
    match i, hi with
    | 0, hi =>
      simp only [List.getElem?_cons_zero, Option.some.injEq] at hi
      subst hi
      have e : (((⟨p, 0, none⟩ : Addr).add (0 * 9)).add j) = ⟨p, j, none⟩ := by rw [Nat.zero_mul]; cases j <;> simp [Addr.add]
      rw [e]
      refine cell_of_heap h ?_
      match j, hjl, hj with
      | 0, _, hj | 1, _, hj | 2, _, hj | 3, _, hj | 4, _, hj | 5, _, hj | 6, _, hj | 7, _, hj | 8, _, hj => exact hj
    | 1, hi =>
      simp only [List.getElem?_cons_succ, List.getElem?_cons_zero, Option.some.injEq] at hi
      subst hi
      have e : (((⟨p, 0, none⟩ : Addr).add (1 * 9)).add j) = ⟨p, 9 + j, none⟩ := by cases j <;> simp [Addr.add]
      rw [e]
      refine cell_of_heap h ?_
      match j, hjl, hj with
      | 0, _, hj | 1, _, hj | 2, _, hj | 3, _, hj | 4, _, hj | 5, _, hj | 6, _, hj | 7, _, hj | 8, _, hj => exact hj
  · have : x = port := by simpa [exS, Ex.args] using hx
    rw [this]
    exact port_in w
theorem port_may (n : Nat) : Ex.may (n + 1) port = true := by
  simp [Ex.may, port, Ex.op, Ex.args, Ex.fits, Ex.lit, Ex.head, Ex.name, Ex.hi, Ex.lo, litB, nmB, endB, eachB, xIs, xLit, xHead, xName, xSlice, xArgs, xShift]
theorem sum_may (p : Nat) : Ex.may 16 (exS 12 p) = true := by
  rw [Ex.may]
  simp [exS, Ex.op, Ex.args, Ex.fits, Ex.lit, Ex.head, Ex.name, Ex.hi, Ex.lo, litB, nmB, endB, eachB, xIs, xLit, xHead, xName, xSlice, xArgs, xShift, port_may]
theorem shift_may (p : Nat) : Ex.may 16 (exS 14 p) = false := by
  rw [Ex.may]
  simp [exS, Ex.op, Ex.args, Ex.fits, Ex.lit, xShift, amt2, amtB, port]
theorem sum_dp (p : Nat) : (exS 12 p).dp = 2 := by
  simp [Ex.dp_dm, exS, port, Ex.args, Ex.dm]
theorem exS_wt (k : Int) (p : Nat) : (exS k p).wt ≤ 1048576 := by
  have h1 : port.wt = 1 := by rw [Ex.wt_eq]; rfl
  have h2 : (⟨#[]⟩ : ByteArray).size = 0 := rfl
  rw [Ex.wt_eq]
  simp [exS, Ex.head, Ex.name, Ex.args, h1, h2]
theorem kn_test (V W : World) (h : ∃ z, W = plus V z) : Kn V (W.heap.size + 1) (W.heap.size + 1 + 1) ((((W.alloc (.cells port2 38)).alloc (.cells (sumC 12 W.heap.size) 38)).alloc (.cells (sumC 14 (W.heap.size + 1 + 1 + 1)) 38)).alloc (.cells port2 38)).drew := by
  apply Kn.mk
  · repeat (first | exact h | (with_reducible apply ext_alloc) | (with_reducible apply ext_drew))
  all_goals
    repeat (first | ((with_reducible apply heap_at); simp; done) | (with_reducible apply heap_below) | (with_reducible apply heap_drew))
end Go.Proofs.YtddpmfilkhegmaaGreat
namespace Go.Proofs.YtddpmfilkhegmaaGreat
open Go.RowKit
set_option maxRecDepth 100000 in
set_option maxHeartbeats 80000000 in
theorem law_known (V : World) : Calls Tryz.prog 6 #[] V fun e w' => e = .returned (.bool true) ∧ ∃ x, w' = plus V x := by
  go_enter Tryz.func6, Tryz.ntmps6
  go_wp2
  obtain ⟨W, hW, hB, hs, ca, fa⟩ := box1 V _ 38
  rw [← hW]
  have ca0 := ca 0 _ rfl ⟨#[], W.drawn⟩
  have ca1 := ca 1 _ rfl ⟨#[], W.drawn⟩
  have ca2 := ca 2 _ rfl ⟨#[], W.drawn⟩
  have ca3 := ca 3 _ rfl ⟨#[], W.drawn⟩
  have ca4 := ca 4 _ rfl ⟨#[], W.drawn⟩
  have ca5 := ca 5 _ rfl ⟨#[], W.drawn⟩
  have ca6 := ca 6 _ rfl ⟨#[], W.drawn⟩
  have ca7 := ca 7 _ rfl ⟨#[], W.drawn⟩
  have ca8 := ca 8 _ rfl ⟨#[], W.drawn⟩
  rw [plus_self] at ca0 ca1 ca2 ca3 ca4 ca5 ca6 ca7 ca8
  have hB' := Lib.hid hB
  clear hW ca fa hB hs
  go_cut [2, 3] from 5 to 12 (fun s2 s3 wx => ∃ b c : Nat, s2 = .pointer (some ⟨b, 0, none⟩) ∧ s3 = .pointer (some ⟨c, 0, none⟩) ∧ Kn V b c wx)
  case first =>
    have hS : ∀ U, Ov W U → (U.cell? ⟨V.heap.size, 0, none⟩ = some (.int .u8 5) ∧ U.cell? ⟨V.heap.size, 1, none⟩ = some (.int .i64 0) ∧ U.cell? ⟨V.heap.size, 2, none⟩ = some (.int .u64 0) ∧ U.cell? ⟨V.heap.size, 3, none⟩ = some (.int .u64 0) ∧ U.cell? ⟨V.heap.size, 4, none⟩ = some (.string ⟨#[]⟩) ∧ U.cell? ⟨V.heap.size, 5, none⟩ = some (.string ⟨#[]⟩) ∧ U.cell? ⟨V.heap.size, 6, none⟩ = some (.int .i64 0) ∧ U.cell? ⟨V.heap.size, 7, none⟩ = some (.int .i64 0) ∧ U.cell? ⟨V.heap.size, 8, none⟩ = some (.slice none 0 0) ∧ Ov W U) := fun U hU => by
      obtain ⟨z, rfl⟩ := id hU
      exact ⟨cell_keep ca0 z, cell_keep ca1 z, cell_keep ca2 z, cell_keep ca3 z, cell_keep ca4 z, cell_keep ca5 z, cell_keep ca6 z, cell_keep ca7 z, cell_keep ca8 z, hU⟩
    have hS' := Lib.hid hS
    have hW0 : Ov W W := ⟨⟨#[], W.drawn⟩, (plus_self W).symm⟩
    have hW1 := Lib.hid hW0
    clear hS hW0 ca0 ca1 ca2 ca3 ca4 ca5 ca6 ca7 ca8
    go_region_held3 (fun U => U.cell? ⟨V.heap.size, 0, none⟩ = some (.int .u8 5) ∧ U.cell? ⟨V.heap.size, 1, none⟩ = some (.int .i64 0) ∧ U.cell? ⟨V.heap.size, 2, none⟩ = some (.int .u64 0) ∧ U.cell? ⟨V.heap.size, 3, none⟩ = some (.int .u64 0) ∧ U.cell? ⟨V.heap.size, 4, none⟩ = some (.string ⟨#[]⟩) ∧ U.cell? ⟨V.heap.size, 5, none⟩ = some (.string ⟨#[]⟩) ∧ U.cell? ⟨V.heap.size, 6, none⟩ = some (.int .i64 0) ∧ U.cell? ⟨V.heap.size, 7, none⟩ = some (.int .i64 0) ∧ U.cell? ⟨V.heap.size, 8, none⟩ = some (.slice none 0 0) ∧ Ov W U) (exact hS'.out _ (by repeat (first | exact hW1.out | assumption | apply Ov.drew | apply Ov.alloc))) (fail)
    all_goals
      go_wp2_with fail
      go_meet
      refine ⟨_, _, rfl, rfl, ?_⟩
      apply Kn.mk
      · repeat (first | exact plus_of_below hB'.out | (with_reducible apply ext_alloc) | (with_reducible apply ext_drew))
      all_goals
        repeat (first | ((with_reducible apply heap_at); simp; done) | (with_reducible apply heap_below) | (with_reducible apply heap_drew))
  case rest =>
    clear hB' ca0 ca1 ca2 ca3 ca4 ca5 ca6 ca7 ca8
    obtain ⟨b, c, rfl, rfl, p, q, ⟨z, hz⟩, h1, h2, h3, h4⟩ := hcut
    have q1 := Lib.hid (ast_mayExpr (exS 12 p) wc (exS_in 12 (by decide) wc p h3) (exS_wt _ _)).pure
    have q2 := Lib.hid (ast_depth (exS 12 p) wc (exS_in 12 (by decide) wc p h3) (exS_wt _ _)).pure
    have q3 := Lib.hid (ast_mayExpr (exS 14 q) wc (exS_in 14 (by decide) wc q h4) (exS_wt _ _)).pure
    rw [exS_cells, sum_may] at q1
    rw [exS_cells, sum_dp] at q2
    rw [exS_cells, shift_may] at q3
    have x0 := cell_of_heap (j := 0) h1 rfl
    have y0 := fun y => cell_keep x0 y
    have v0 := cell_of_heap (j := 0) h2 rfl
    have w0 := fun y => cell_keep v0 y
    have x1 := cell_of_heap (j := 1) h1 rfl
    have y1 := fun y => cell_keep x1 y
    have v1 := cell_of_heap (j := 1) h2 rfl
    have w1 := fun y => cell_keep v1 y
    have x2 := cell_of_heap (j := 2) h1 rfl
    have y2 := fun y => cell_keep x2 y
    have v2 := cell_of_heap (j := 2) h2 rfl
    have w2 := fun y => cell_keep v2 y
    have x3 := cell_of_heap (j := 3) h1 rfl
    have y3 := fun y => cell_keep x3 y
    have v3 := cell_of_heap (j := 3) h2 rfl
    have w3 := fun y => cell_keep v3 y
    have x4 := cell_of_heap (j := 4) h1 rfl
    have y4 := fun y => cell_keep x4 y
    have v4 := cell_of_heap (j := 4) h2 rfl
    have w4 := fun y => cell_keep v4 y
    have x5 := cell_of_heap (j := 5) h1 rfl
    have y5 := fun y => cell_keep x5 y
    have v5 := cell_of_heap (j := 5) h2 rfl
    have w5 := fun y => cell_keep v5 y
    have x6 := cell_of_heap (j := 6) h1 rfl
    have y6 := fun y => cell_keep x6 y
    have v6 := cell_of_heap (j := 6) h2 rfl
    have w6 := fun y => cell_keep v6 y
    have x7 := cell_of_heap (j := 7) h1 rfl
    have y7 := fun y => cell_keep x7 y
    have v7 := cell_of_heap (j := 7) h2 rfl
    have w7 := fun y => cell_keep v7 y
    have x8 := cell_of_heap (j := 8) h1 rfl
    have y8 := fun y => cell_keep x8 y
    have v8 := cell_of_heap (j := 8) h2 rfl
    have w8 := fun y => cell_keep v8 y
    have hz' := Lib.hid hz
    clear h1 h2 h3 h4 hz
    go_wp2_with fail
    refine (calls_self' q1.out).mono ?_
    rintro r w' ⟨rfl, x1, rfl⟩
    go_wp2_with (first | (go_at_call 11; with_reducible refine (q2.out _).mono ?_; rintro r w' ⟨rfl, x, rfl⟩) | (go_at_call 9; with_reducible refine (q3.out _).mono ?_; rintro r w' ⟨rfl, x, rfl⟩))
    go_ret
    exact ⟨rfl, by rw [hz'.out, plus_plus]; exact ⟨_, rfl⟩⟩
end Go.Proofs.YtddpmfilkhegmaaGreat
