/-
  WHAT IS PROVED HERE: the page's two examples as trees; words for where they lie.
-/
import Derived.Test.YtpnaibfefpeikaaRows
import Derived.Test.YtpnaibfefpeikaaHh
import Derived.Test.YtpnaibfefpeikaaHo
import Derived.WalkKit
import Derived.Lib.Hide
import Derived.WalkSpells
import Derived.WalkLawsBesides
namespace Go.Proofs.Ytpnaibfefpeikaa
open Go.RowKit
theorem cell_drew {w : World} {a : Addr} {v : Value} (h : w.cell? a = some v) : w.drew.cell? a = some v := h
abbrev portC : List Value := [.int .u8 5, .int .i64 0, .int .u64 0, .int .u64 0, .string ⟨#[]⟩, .string ⟨#[]⟩, .int .i64 0, .int .i64 0, .slice none 0 0]
abbrev port2 : Array Value := #[.int .u8 5, .int .i64 0, .int .u64 0, .int .u64 0, .string ⟨#[]⟩, .string ⟨#[]⟩, .int .i64 0, .int .i64 0, .slice none 0 0, .int .u8 5, .int .i64 0, .int .u64 0, .int .u64 0, .string ⟨#[]⟩, .string ⟨#[]⟩, .int .i64 0, .int .i64 0, .slice none 0 0]
abbrev sumC (k : Int) (p : Nat) : Array Value := #[.int .u8 k, .int .i64 0, .int .u64 0, .int .u64 0, .string ⟨#[]⟩, .string ⟨#[]⟩, .int .i64 0, .int .i64 0, .slice (some ⟨p, 0, none⟩) 2 2]
/-- The two examples lie in blocks b and c. -/
def Kn (V : World) (b c : Nat) (wx : World) : Prop := ∃ p q, (∃ z, wx = plus V z) ∧ wx.heap[b]? = some (.cells (sumC 12 p) 38) ∧ wx.heap[c]? = some (.cells (sumC 14 q) 38) ∧ wx.heap[p]? = some (.cells port2 38) ∧ wx.heap[q]? = some (.cells port2 38)
theorem ext_alloc {V w : World} (o : Obj) (h : ∃ z, w = plus V z) : ∃ z, w.alloc o = plus V z := by
  obtain ⟨z, rfl⟩ := h
  exact plus_alloc1 V z o
theorem ext_drew {V w : World} (h : ∃ z, w = plus V z) : ∃ z, w.drew = plus V z := by
  obtain ⟨z, rfl⟩ := h
  exact drew_plus V z
theorem heap_at {w : World} {o : Obj} {i : Nat} (h : i = w.heap.size) : (w.alloc o).heap[i]? = some o := by
  subst h
  show (w.heap.push o)[w.heap.size]? = _
  simp
theorem heap_below {w : World} {o x : Obj} {i : Nat} (h : w.heap[i]? = some x) : (w.alloc o).heap[i]? = some x := by
  show (w.heap.push o)[i]? = _
  have := (Array.getElem?_eq_some_iff.1 h).1
  rw [Array.getElem?_push, if_neg (by omega)]
  exact h
theorem heap_drew {w : World} {x : Obj} {i : Nat} (h : w.heap[i]? = some x) : w.drew.heap[i]? = some x := h
theorem calls_self' {P : Program} {V : World} {f : FuncId} {args : Array Value} {v : Value} (h : PureIn P V f args v) : Calls P f args V fun e w' => e = .returned v ∧ ∃ x, w' = plus V x := by
  have := h ⟨#[], V.drawn⟩
  rwa [plus_self] at this
theorem Kn.mk {V wx : World} {b c p q : Nat} (h0 : ∃ z, wx = plus V z) (h1 : wx.heap[b]? = some (.cells (sumC 12 p) 38)) (h2 : wx.heap[c]? = some (.cells (sumC 14 q) 38)) (h3 : wx.heap[p]? = some (.cells port2 38)) (h4 : wx.heap[q]? = some (.cells port2 38)) : Kn V b c wx := ⟨p, q, h0, h1, h2, h3, h4⟩
theorem cell_of_heap {w : World} {b j : Nat} {cs : Array Value} {t : TypeId} {v : Value} (h : w.heap[b]? = some (.cells cs t)) (hj : cs[j]? = some v) : w.cell? ⟨b, j, none⟩ = some v := by
  unfold World.cell?
  simp only [h]
  simpa using hj
def port : Ex := .mk 5 ⟨0, 0, 0⟩ ⟨#[]⟩ ⟨#[]⟩ 0 0 none 0 []
def exS (k : Int) (p : Nat) : Ex := .mk k ⟨0, 0, 0⟩ ⟨#[]⟩ ⟨#[]⟩ 0 0 (some ⟨p, 0, none⟩) 2 [port, port]
theorem exS_cells (k : Int) (p : Nat) : Value.agg (exS k p).cells.toArray = .agg (sumC k p) := rfl
theorem port_in (w : World) : port.In w :=
  .mk _ (by decide) ⟨by decide, by decide, by decide⟩ (by decide) (by decide) (Nat.zero_le _) (Nat.zero_le _) (Nat.zero_le _) (Nat.zero_le _) (fun i x h => by simp [port, Ex.args] at h) (fun x h => by simp [port, Ex.args] at h)
theorem exS_in (k : Int) (hk : (Lit.int .u8 k).wf = true) (w : World) (p : Nat) (h : w.heap[p]? = some (.cells port2 38)) : (exS k p).In w := by
  refine .mk _ hk ⟨(show (Lit.int .i64 0).wf = true by decide), (show (Lit.int .u64 0).wf = true by decide), (show (Lit.int .u64 0).wf = true by decide)⟩ (show (Lit.int .i64 0).wf = true by decide) (show (Lit.int .i64 0).wf = true by decide) (Nat.zero_le _) (Nat.zero_le _) (Nat.le_refl _) (by simp [exS, Ex.cap, maxLen]) (fun i x hi => ⟨⟨p, 0, none⟩, rfl, fun j v hj => ?_⟩) (fun x hx => ?_)
  · simp only [exS, Ex.args] at hi
    have hjl : j < 9 := by
      have := (List.getElem?_eq_some_iff.1 hj).1
      simpa [Ex.cells] using this
    match i, hi with
    | 0, hi =>
      simp only [List.getElem?_cons_zero, Option.some.injEq] at hi
      subst hi
      have e : (((⟨p, 0, none⟩ : Addr).add (0 * 9)).add j) = ⟨p, j, none⟩ := by rw [Nat.zero_mul]; cases j <;> simp [Addr.add]
      rw [e]
      refine cell_of_heap h ?_
      match j, hjl, hj with
      | 0, _, hj | 1, _, hj | 2, _, hj | 3, _, hj | 4, _, hj | 5, _, hj | 6, _, hj | 7, _, hj | 8, _, hj => exact hj
    | 1, hi =>
      simp only [List.getElem?_cons_succ, List.getElem?_cons_zero, Option.some.injEq] at hi
      subst hi
      have e : (((⟨p, 0, none⟩ : Addr).add (1 * 9)).add j) = ⟨p, 9 + j, none⟩ := by cases j <;> simp [Addr.add]
      rw [e]
      refine cell_of_heap h ?_
      match j, hjl, hj with
      | 0, _, hj | 1, _, hj | 2, _, hj | 3, _, hj | 4, _, hj | 5, _, hj | 6, _, hj | 7, _, hj | 8, _, hj => exact hj
  · have : x = port := by simpa [exS, Ex.args] using hx
    rw [this]
    exact port_in w
theorem port_may (n : Nat) : Ex.may (n + 1) port = true := by
  simp [Ex.may, port, Ex.op, Ex.args, Ex.fits, Ex.lit, Ex.head, Ex.name, Ex.hi, Ex.lo, litB, nmB, endB, eachB, xIs, xLit, xHead, xName, xSlice, xArgs, xShift]
theorem sum_may (p : Nat) : Ex.may 16 (exS 12 p) = true := by
  rw [Ex.may]
  simp [exS, Ex.op, Ex.args, Ex.fits, Ex.lit, Ex.head, Ex.name, Ex.hi, Ex.lo, litB, nmB, endB, eachB, xIs, xLit, xHead, xName, xSlice, xArgs, xShift, port_may]
theorem shift_may (p : Nat) : Ex.may 16 (exS 14 p) = false := by
  rw [Ex.may]
  simp [exS, Ex.op, Ex.args, Ex.fits, Ex.lit, xShift, amt2, amtB, port]
theorem sum_dp (p : Nat) : (exS 12 p).dp = 2 := by
  simp [Ex.dp_dm, exS, port, Ex.args, Ex.dm]
theorem exS_wt (k : Int) (p : Nat) : (exS k p).wt ≤ 1048576 := by
  have h1 : port.wt = 1 := by rw [Ex.wt_eq]; rfl
  have h2 : (⟨#[]⟩ : ByteArray).size = 0 := rfl
  rw [Ex.wt_eq]
  simp [exS, Ex.head, Ex.name, Ex.args, h1, h2]
theorem kn_test (V W : World) (h : ∃ z, W = plus V z) : Kn V (W.heap.size + 1) (W.heap.size + 1 + 1) ((((W.alloc (.cells port2 38)).alloc (.cells (sumC 12 W.heap.size) 38)).alloc (.cells (sumC 14 (W.heap.size + 1 + 1 + 1)) 38)).alloc (.cells port2 38)).drew := by
  apply Kn.mk
  · repeat (first | exact h | (with_reducible apply ext_alloc) | (with_reducible apply ext_drew))
  all_goals
    repeat (first | ((with_reducible apply heap_at); simp; done) | (with_reducible apply heap_below) | (with_reducible apply heap_drew))
end Go.Proofs.Ytpnaibfefpeikaa
