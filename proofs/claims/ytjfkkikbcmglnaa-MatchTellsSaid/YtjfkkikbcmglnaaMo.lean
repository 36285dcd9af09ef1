/-
  WHAT IS PROVED HERE: what came in as a number, or a pattern, of whatever two or four halves, opened; a row of arguments that came in reads the same where a world has grown.
-/
import Derived.Test.YtjfkkikbcmglnaaRows
import Derived.Test.YtjfkkikbcmglnaaMb
import Derived.Deep.Slices
import Derived.Deep.Fields
import Derived.ChangeSame
import Derived.Carry
import Derived.OpenShut
namespace Go.Proofs.Ytjfkkikbcmglnaa
open Go.ChangeShapes Go.WideShapes Go.RowKit
theorem agg_of11 {v : Value} {cs : List Value} (h : v.cells.toList = cs) (hl : cs.length ≠ 1) : v = .agg cs.toArray := by
  cases v with
  | agg c =>
    simp only [Value.cells] at h
    rw [← h]
  | _ => simp only [Value.cells] at h; subst h; simp at hl
/-- Two halves are a number. -/
theorem nv_of11 (h l : Int) (h0 : 0 ≤ h) (h1 : h < 18446744073709551616) (l0 : 0 ≤ l) (l1 : l < 18446744073709551616) : ∃ n, n < B128 ∧ hi n = h ∧ lo n = l := by
  refine ⟨h.toNat * 18446744073709551616 + l.toNat, by unfold B128; omega, ?_, ?_⟩
  · unfold hi; omega
  · unfold lo; omega
section
variable {H : Type} {enc : TypeId × Value → H} {w : World} {base : Nat} {spare : Nat → Bool} {held : Bool}
theorem c11U64 : Try.prog.cellsOf 22 = 1 := by kernel_rfl
theorem c11Num : Try.prog.cellsOf 24 = 2 := by kernel_rfl
theorem c11Pat : Try.prog.cellsOf 26 = 4 := by kernel_rfl
set_option maxRecDepth 100000 in
theorem open11_num {fuel : Nat} {cs : List Value} {x : DataW H × List MemPlace} (h : DataW.trod enc Try.prog w base spare held fuel 24 cs = some x) :
    ∃ n : Nat, n < B128 ∧ cs = [.int .u64 (hi n), .int .u64 (lo n)] := by
  obtain ⟨xs, n, rfl, rfl, hcl, hxl, hf⟩ := DataW.trod_struct (P := Try.prog) Try.underlying24 h
  have hcl' : cs.length = 2 := hcl.trans c11Num
  clear hcl h
  match cs, hcl' with
  | [c0, c1], _ =>
    match xs, hxl with
    | [x0, x1], _ =>
      have h0 : DataW.trod enc Try.prog w base spare held n 22 [c0] = some x0 := by simpa [c11U64] using hf 0 _ rfl
      have h1 : DataW.trod enc Try.prog w base spare held n 22 [c1] = some x1 := by simpa [c11U64] using hf 1 _ rfl
      obtain ⟨a, e0, _, w0⟩ := DataW.trod_int Try.underlying22 h0
      obtain ⟨b, e1, _, w1⟩ := DataW.trod_int Try.underlying22 h1
      obtain rfl := List.head_eq_of_cons_eq e0
      obtain rfl := List.head_eq_of_cons_eq e1
      have A0 := bounds_u64 w0
      have B0 := bounds_u64 w1
      obtain ⟨k, hk, rfl, rfl⟩ := nv_of11 a b A0.1 (by omega) B0.1 (by omega)
      exact ⟨k, hk, rfl⟩
set_option maxRecDepth 100000 in
theorem open11_pat {fuel : Nat} {cs : List Value} {x : DataW H × List MemPlace} (h : DataW.trod enc Try.prog w base spare held fuel 26 cs = some x) :
    ∃ v m : Nat, v < B128 ∧ m < B128 ∧ cs = [.int .u64 (hi v), .int .u64 (lo v), .int .u64 (hi m), .int .u64 (lo m)] := by
  obtain ⟨xs, n, rfl, rfl, hcl, hxl, hf⟩ := DataW.trod_struct (P := Try.prog) Try.underlying26 h
  have hcl' : cs.length = 4 := hcl.trans c11Pat
  clear hcl h
  match cs, hcl' with
  | [c0, c1, c2, c3], _ =>
    match xs, hxl with
    | [x0, x1], _ =>
      have h0 : DataW.trod enc Try.prog w base spare held n 24 [c0, c1] = some x0 := by simpa [c11Num] using hf 0 _ rfl
      have h1 : DataW.trod enc Try.prog w base spare held n 24 [c2, c3] = some x1 := by simpa [c11Num] using hf 1 _ rfl
      obtain ⟨a, ha, e0⟩ := open11_num h0
      obtain ⟨b, hb, e1⟩ := open11_num h1
      simp only [List.cons.injEq, and_true] at e0 e1
      obtain ⟨rfl, rfl⟩ := e0
      obtain ⟨rfl, rfl⟩ := e1
      exact ⟨a, b, ha, hb, rfl⟩
theorem trod_num11 {v : Value} {d : DataW H} {p : List MemPlace} (h : DataW.Trod enc Try.prog w base spare held 24 v d p) : ∃ n, n < B128 ∧ v = nv n := by
  obtain ⟨f, t⟩ := h
  obtain ⟨n, hn, e⟩ := open11_num t
  exact ⟨n, hn, agg_of11 e (by simp)⟩
theorem trod_pat11 {v : Value} {d : DataW H} {p : List MemPlace} (h : DataW.Trod enc Try.prog w base spare held 26 v d p) : ∃ a m, a < B128 ∧ m < B128 ∧ v = pv a m := by
  obtain ⟨f, t⟩ := h
  obtain ⟨a, m, ha, hm, e⟩ := open11_pat t
  exact ⟨a, m, ha, hm, agg_of11 e (by simp)⟩
theorem trodAll_grown {P : Program} {W W' : World} (hl : laidOutB P = true) (hb : Below W.heap.size W W') (ts : List TypeId) : ∀ (vs : List Value) (ds : List (DataW H)) (ps : List MemPlace), (∀ t ∈ ts, P.readableRec t = true ∧ t < P.types.size) → DataW.TrodAll enc P W 0 (fun _ => true) true ts vs ds ps → (∀ x ∈ ps, x.block < W.heap.size) → DataW.TrodAll enc P W' 0 (fun b => decide (b < W.heap.size)) true ts vs ds ps := by
  induction ts with
  | nil =>
    intro vs ds ps _ h _
    obtain ⟨rfl, rfl, rfl⟩ := trodAll_nil h
    exact trodAll_mk0
  | cons t ts ih =>
    intro vs ds ps hr h hlt
    obtain ⟨v, vs', d, ds', p, q, rfl, rfl, rfl, h0, h1⟩ := trodAll_cons h
    have hrt := hr t (by simp)
    exact ⟨p, q, Below.trod hl hrt.1 hrt.2 h0 hb (fun x hx => hlt x (by simp [hx])), ih _ _ _ (fun t ht => hr t (by simp [ht])) h1 (fun x hx => hlt x (by simp [hx])), rfl⟩
end
end Go.Proofs.Ytjfkkikbcmglnaa
