/-
  WHAT IS PROVED HERE: the given statement BddMeansSaid: for every list of operations the law BddMeans returns true and leaves its argument as it was. No condition beyond the row's own.
-/
import Derived.Test.YtfphilgdikanfaaRows
import Derived.Test.YtfphilgdikanfaaBdW
import Derived.Deep.Slices
import Derived.Deep.Fields
import Derived.ChangeSame
import Derived.Carry
import Derived.SizedLaws
import Derived.ProofKit
import Derived.Lib.SmallJoins
import Derived.OpenShut
namespace Go.Proofs.Ytfphilgdikanfaa
open Go.ChangeShapes Go.WideShapes Go.ChangeAt Go.RowKit Go.Joins Go.Deep
theorem bm_own : ownKnob Try.prog.godebug = none := by kernel_rfl
theorem bmI : Try.prog.cellsOf 3 = 1 := by kernel_rfl
theorem bmB : Try.prog.cellsOf 4 = 1 := by kernel_rfl
theorem bmO : Try.prog.cellsOf 30 = 5 := by kernel_rfl
theorem bm_read : ∀ t ∈ [22], Try.prog.readableRec t = true ∧ t < Try.prog.types.size := by
  intro t ht
  simp only [List.mem_cons, List.not_mem_nil, or_false] at ht
  subst ht
  exact ⟨by kernel_rfl, of_decide_eq_true (by kernel_rfl)⟩
section
variable {H : Type} {enc : TypeId × Value → H}
theorem trodAll_grown {P : Program} {W W' : World} (hl : laidOutB P = true) (hb : Below W.heap.size W W') (ts : List TypeId) : ∀ (vs : List Value) (ds : List (DataW H)) (ps : List MemPlace), (∀ t ∈ ts, P.readableRec t = true ∧ t < P.types.size) → DataW.TrodAll enc P W 0 (fun _ => true) true ts vs ds ps → (∀ x ∈ ps, x.block < W.heap.size) → DataW.TrodAll enc P W' 0 (fun b => decide (b < W.heap.size)) true ts vs ds ps := by
  induction ts with
  | nil =>
    intro vs ds ps _ h _
    obtain ⟨rfl, rfl, rfl⟩ := trodAll_nil h
    exact trodAll_mk0
  | cons t ts ih =>
    intro vs ds ps hr h hlt
    obtain ⟨v, vs', d, ds', p, q, rfl, rfl, rfl, h0, h1⟩ := trodAll_cons h
    have hrt := hr t (by simp)
    exact ⟨p, q, Below.trod hl hrt.1 hrt.2 h0 hb (fun x hx => hlt x (by simp [hx])), ih _ _ _ (fun t ht => hr t (by simp [ht])) h1 (fun x hx => hlt x (by simp [hx])), rfl⟩
end
section
variable {H : Type} {enc : TypeId × Value → H} {W : World} {base : Nat} {spare : Nat → Bool} {held : Bool}
set_option maxRecDepth 100000 in
theorem open_bop {fuel : Nat} {cs : List Value} {x : DataW H × List MemPlace} (h : DataW.trod enc Try.prog W base spare held fuel 30 cs = some x) : ∃ o : BOp, cs = bopCells o := by
  obtain ⟨xs, n, rfl, rfl, hcl, hxl, hf⟩ := DataW.trod_struct (P := Try.prog) Try.underlying30 h
  have hcl' : cs.length = 5 := hcl.trans bmO
  clear hcl h
  match cs, hcl' with
  | [c0, c1, c2, c3, c4], _ =>
    match xs, hxl with
    | [x0, x1, x2, x3, x4], _ =>
      have h0 : DataW.trod enc Try.prog W base spare held n 3 [c0] = some x0 := by simpa [bmI] using hf 0 _ rfl
      obtain ⟨v0, e0, q0, w0⟩ := DataW.trod_int Try.underlying3 h0
      obtain rfl := List.head_eq_of_cons_eq e0
      have h1 : DataW.trod enc Try.prog W base spare held n 3 [c1] = some x1 := by simpa [bmI] using hf 1 _ rfl
      obtain ⟨v1, e1, q1, w1⟩ := DataW.trod_int Try.underlying3 h1
      obtain rfl := List.head_eq_of_cons_eq e1
      have h2 : DataW.trod enc Try.prog W base spare held n 3 [c2] = some x2 := by simpa [bmI] using hf 2 _ rfl
      obtain ⟨v2, e2, q2, w2⟩ := DataW.trod_int Try.underlying3 h2
      obtain rfl := List.head_eq_of_cons_eq e2
      have h3 : DataW.trod enc Try.prog W base spare held n 3 [c3] = some x3 := by simpa [bmI] using hf 3 _ rfl
      obtain ⟨v3, e3, q3, w3⟩ := DataW.trod_int Try.underlying3 h3
      obtain rfl := List.head_eq_of_cons_eq e3
      have h4 : DataW.trod enc Try.prog W base spare held n 4 [c4] = some x4 := by simpa [bmB] using hf 4 _ rfl
      obtain ⟨v4, e4, q4⟩ := DataW.trod_bool Try.underlying4 h4
      obtain rfl := List.head_eq_of_cons_eq e4
      exact ⟨⟨v0, v1, v2, v3, v4⟩, rfl⟩
theorem open_bops {fuel : Nat} {cs : List Value} {x : DataW H × List MemPlace} (h : DataW.trod enc Try.prog W base spare held fuel 22 cs = some x) :
    ∃ (p : Option Addr) (cap : Nat) (l : List BOp), cs = [.slice p l.length cap] ∧ OpsAt W p l := by
  rcases DataW.trod_slice Try.underlying22 h with ⟨rfl, rfl⟩ | ⟨a, len, cap, elems, rest, n, rfl, rfl, rfl, hb, hl, hm, hlen, hel, _, _⟩
  · exact ⟨none, 0, [], rfl, fun i x hi => by simp at hi⟩
  · rw [bmO] at hel
    have key : ∀ i, i < len → ∃ y : BOp, ∀ j v, (bopCells y)[j]? = some v → W.cell? ((a.add (i * 5)).add j) = some v := by
      intro i hi
      have hz : elems[i]? = some (elems[i]'(by omega)) := List.getElem?_eq_getElem (by omega)
      have := hel i hi
      rw [hz] at this
      obtain ⟨cs', h1, h2⟩ := Option.bind_eq_some_iff.1 this
      obtain ⟨y, hy⟩ := open_bop h2
      obtain ⟨_, hcl, hat⟩ := World.cells?_some h1
      refine ⟨y, fun j v hj => ?_⟩
      rw [← hy] at hj
      have hjl : j < cs'.length := (List.getElem?_eq_some_iff.1 hj).1
      rw [hat j (by omega), hj]
    clear hel h
    by_cases h0 : len = 0
    · exact ⟨some a, cap, [], by simp [h0], fun i y hi => by simp at hi⟩
    · obtain ⟨y0, _⟩ := key 0 (by omega)
      haveI : Inhabited BOp := ⟨y0⟩
      obtain ⟨f, hf⟩ := choose_lt key
      refine ⟨some a, cap, (List.range len).map f, by simp, fun i y hi => ⟨a, rfl, ?_⟩⟩
      simp only [List.getElem?_map] at hi
      by_cases hil : i < len
      · rw [List.getElem?_range hil] at hi
        simp only [Option.map_some, Option.some.injEq] at hi
        subst hi
        exact hf i hil
      · rw [List.getElem?_eq_none (by simpa using hil)] at hi
        simp at hi
end
set_option maxRecDepth 100000 in
theorem bddMeans_lifted (os : Os) (started : os.Started) (H : Type) (enc : TypeId × Value → H) :
    ReturnsInHanded {} Try.checked os 3 .any (Rows.bddMeansSpec.pre6 enc Try.prog Try.f3 Rows.bddMeansRow.domain false) (Rows.bddMeansSpec.post enc Try.prog Try.f3 false true false false) := by
  refine returnsInHanded_of_change (C := Try.checked) bm_own started (by kernel_rfl) Try.func3
    (ChangeSpec.witness6 (enc := enc) (C := Try.checked) false ⟨#[], #[.slice none 0 0], []⟩ 8 (by kernel_rfl) (by kernel_rfl) (by kernel_rfl) (by kernel_rfl)) ?_
  intro W base args ds gs before hval0 hW hcnd _
  have hval : ∀ (j : Nat) t v, Try.f3.params[j]? = some t → args[j]? = some v → Value.okWide Try.prog W .any base t v := hval0
  have hW' := hW
  obtain ⟨p, q, hA0, hV, rfl, hfz, hnd⟩ := hW
  have hA : DataW.TrodAll enc Try.prog W 0 (fun _ => true) true Try.f3.params.toList args.toList ds p := hA0
  rw [Try.params3] at hA hval
  obtain ⟨rfl, rfl⟩ := trodVars_none hV
  have hlt := hW'.lt
  simp only [List.append_nil] at hlt hW'
  have hA1 := hA
  obtain ⟨v0, d0, rfl, rfl, h0⟩ := trodAll_one hA
  obtain ⟨fuel, h0'⟩ := h0
  obtain ⟨a0, len, cap0, rfl⟩ := okWide_slice Try.underlying22 (hval 0 22 v0 rfl rfl)
  obtain ⟨pa, cap, l, e0, hl⟩ := open_bops h0'
  have e1 : Value.slice a0 len cap0 = .slice pa l.length cap := List.head_eq_of_cons_eq e0
  rw [e1] at hA1 hW' ⊢
  clear hA0 hval0
  have hc : Calls Try.prog 3 #[.slice pa l.length cap] W (BdTrue W) := by
    by_cases hn : 30 < l.length
    · exact means_many W pa l.length cap hn
    · exact means_walk W pa l cap hl (by omega)
  refine hc.mono fun e W' ⟨he, y, hw⟩ => ?_
  subst he; subst hw
  have hg := below_plus W y
  exact ⟨_, rfl, _, _, _, [], _, [], hW', trodAll_mk1 (shut_bool Try.underlying4 true), trodAll_grown bd_laidOut hg _ _ _ _ bm_read hA1 (fun x hx => hlt x (by simpa using hx)), rfl, hg.frame _, fun h => by cases h⟩
/-- The given statement. -/
theorem bddMeans_holds : Rows.BddMeansSaid :=
  OpenClaim.holds_of_wide 3 Try.f3 rfl rfl rfl rfl rfl rfl rfl ⟨rfl, rfl, rfl, rfl, rfl⟩ rfl rfl rfl rfl rfl (by kernel_rfl) Try.func3 (by kernel_rfl)
    (of_decide_eq_true (by kernel_rfl)) (by unfold Func.isWrapper; first | (rw [if_pos (by decide +kernel)]; kernel_rfl) | (rw [if_neg (by decide +kernel)]; exact ⟨rfl, rfl⟩))
    (fun os started H enc _ => bddMeans_lifted os started H enc)
end Go.Proofs.Ytfphilgdikanfaa
