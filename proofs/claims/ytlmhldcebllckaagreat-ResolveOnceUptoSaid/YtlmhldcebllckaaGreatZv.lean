/-
  WHAT IS PROVED HERE: plain: what it says of a program that no item of it is wrong.
-/
import Derived.Test.YtlmhldcebllckaaGreatRows
import Derived.Test.YtlmhldcebllckaaGreatZt
namespace Go.Proofs.YtlmhldcebllckaaGreat
open Go.RowKit Go.Shelf
theorem mem_fl {α : Type} (f : Nat → α → List It) : ∀ (l : List α) (b i : Nat) (x : α) (z : It), l[i]? = some x → z ∈ f (b + i) x → z ∈ flI f b l
  | [], _, i, _, _, h, _ => by simp at h
  | y :: l, b, 0, x, z, h, hz => by
    obtain rfl : y = x := by simpa using h
    exact List.mem_append_left _ hz
  | y :: l, b, i + 1, x, z, h, hz => List.mem_append_right _ (mem_fl f l (b + 1) i x z (by simpa using h) (by rw [show b + 1 + i = b + (i + 1) by omega]; exact hz))
theorem scan_zero (p : Pr) : ∀ (l : List It) (n : Nat), (scanI p l n).2 = 0 → (∀ z ∈ l, wrI p z = 0) ∧ (scanI p l n).1 = n + l.length
  | [], n, _ => ⟨fun z h => (by cases h), rfl⟩
  | x :: l, n, h => by
    by_cases e : wrI p x = 0
    · rw [scanI, if_pos e] at h ⊢
      obtain ⟨h1, h2⟩ := scan_zero p l (n + 1) h
      refine ⟨fun z hz => ?_, by rw [h2, List.length_cons]; omega⟩
      rcases List.mem_cons.1 hz with rfl | hz
      · exact e
      · exact h1 z hz
    · rw [scanI, if_neg e] at h
      exact absurd h e
theorem scan_lt (p : Pr) : ∀ (l : List It) (n : Nat), (scanI p l n).2 ≠ 0 → n ≤ (scanI p l n).1 ∧ (scanI p l n).1 < n + l.length
  | [], n, h => absurd rfl h
  | x :: l, n, h => by
    by_cases e : wrI p x = 0
    · rw [scanI, if_pos e] at h ⊢
      obtain ⟨h1, h2⟩ := scan_lt p l (n + 1) h
      rw [List.length_cons]
      omega
    · rw [scanI, if_neg e, List.length_cons]
      simp only
      omega
section
variable {p : Pr} (hall : ∀ z ∈ encP p, wrI p z = 0)
include hall
theorem ok_header {i : Nat} {x : Hr} (hx : p.headers.l[i]? = some x) : hdI p.headers.l x.name = (i : Int) ∧ (bitsI x.fields.l).tmod 8 = 0 := by
  have h := hall (.num 1 i 0) (List.mem_append_left _ (mem_fl _ _ 0 i x _ hx (by rw [Nat.zero_add]; exact List.mem_cons_self ..)))
  have hv : wrI p (.num 1 i 0) = wHdI p i x := by simp [wrI, wrN, hx]
  rw [hv] at h
  unfold wHdI at h
  split at h
  · next e =>
    split at h
    · next e2 => exact ⟨e, e2.1⟩
    · cases h
  · cases h
theorem ok_action {i : Nat} {x : Ac} (hx : p.actions.l[i]? = some x) : acI p.actions.l x.name = (i : Int) := by
  have h := hall (.num 8 i 0) (List.mem_append_right _ (List.mem_append_right _ (List.mem_append_right _ (List.mem_append_left _ (mem_fl _ _ 0 i x _ hx (by rw [Nat.zero_add]; exact List.mem_cons_self ..))))))
  have hv : wrI p (.num 8 i 0) = if acI p.actions.l x.name = (i : Int) then 0 else 8 := by simp [wrI, wrN, hx]
  rw [hv] at h
  split at h
  · assumption
  · cases h
omit hall in
theorem mem_table {i : Nat} {x : Ta} (hx : p.tables.l[i]? = some x) {z : It} (hz : z ∈ encT i x.keys.l.length x.actions.l.length) : z ∈ encP p :=
  List.mem_append_right _ (List.mem_append_right _ (List.mem_append_right _ (List.mem_append_right _ (List.mem_append_left _ (mem_fl _ _ 0 i x _ hx (by rw [Nat.zero_add]; exact hz))))))
theorem ok_table {i : Nat} {x : Ta} (hx : p.tables.l[i]? = some x) : taI p.tables.l x.name = (i : Int) ∧ acI p.actions.l x.dflt.name ≠ -1 := by
  refine ⟨?_, ?_⟩
  · have h := hall (.num 11 i 0) (mem_table hx (List.mem_cons_self ..))
    have hv : wrI p (.num 11 i 0) = if taI p.tables.l x.name = (i : Int) then 0 else 8 := by simp [wrI, wrN, hx]
    rw [hv] at h
    split at h
    · assumption
    · cases h
  · have h := hall (.num 14 i 0) (mem_table hx (by simp [encT]))
    obtain ⟨w, hw⟩ : ∃ w, (match p.actions.l[(acI p.actions.l x.dflt.name).toNat]? with | some z => z.params.l.length | none => 0) = w := ⟨_, rfl⟩
    have hv : wrI p (.num 14 i 0) = wDfI x.actions.l x.dflt.name x.dflt.args.l.length w := by rw [← hw]; simp [wrI, wrN, hx]; rfl
    rw [hv] at h
    unfold wDfI at h
    split at h
    · cases h
    · next hn =>
      obtain ⟨b, y, hb, hy⟩ := firstI_spec (fun y : ByteArray => y.toList == x.dflt.name.toList) x.actions.l 0 hn
      have hlt := (List.getElem?_eq_some_iff.1 hb).1
      have q := hall (.num 13 i b) (mem_table hx (List.mem_cons_of_mem _ (List.mem_append_right _ (List.mem_append_left _ (List.mem_of_getElem? (ptI_at 13 i _ b hlt))))))
      have hv : wrI p (.num 13 i b) = if acI p.actions.l y = -1 then 7 else if nmI x.actions.l y = (b : Int) then 0 else 8 := by simp [wrI, wrN, hx, hb]
      rw [hv] at q
      have e2 : y.toList = x.dflt.name.toList := by simpa using hy
      have e3 : acI p.actions.l y = acI p.actions.l x.dflt.name := by unfold acI; rw [e2]
      rw [← e3]
      intro e4
      rw [if_pos e4] at q
      cases q
omit hall in
theorem mem_state {i : Nat} {x : Sa} (hx : p.states.l[i]? = some x) {z : It} (hz : z ∈ encS i x.takes.l.length x.cases.l.length) : z ∈ encP p :=
  List.mem_append_right _ (List.mem_append_right _ (List.mem_append_left _ (mem_fl _ _ 0 i x _ hx (by rw [Nat.zero_add]; exact hz))))
theorem ok_state {i : Nat} {x : Sa} (hx : p.states.l[i]? = some x) : stI p.states.l x.name = ((i : Int), true) := by
  have h := hall (.num 4 i 0) (mem_state hx (List.mem_cons_self ..))
  have hv : wrI p (.num 4 i 0) = if (stI p.states.l x.name).1 = (i : Int) then 0 else 8 := by simp [wrI, wrN, hx]
  rw [hv] at h
  have h1 : (stI p.states.l x.name).1 = (i : Int) := by
    split at h
    · assumption
    · cases h
  have hs : saI p.states.l x.name ≠ -1 := by
    intro e
    have q : ∀ (l : List Sa) (k j : Nat), l[j]? = some x → firstI (fun y : Sa => y.name.toList == x.name.toList) l k ≠ -1 := by
      intro l
      induction l with
      | nil => intro k j hj; simp at hj
      | cons y l ih =>
        intro k j hj
        rw [firstI]
        split
        · omega
        · next hn =>
          cases j with
          | zero =>
            obtain rfl : y = x := by simpa using hj
            simp at hn
          | succ j => exact ih (k + 1) j (by simpa using hj)
    exact q _ 0 i hx e
  unfold stI at h1 ⊢
  split at h1
  · simp only at h1; omega
  · split at h1
    · simp only at h1; omega
    · split at h1
      · next e => exact absurd (by simpa using e) hs
      · simp only at h1
        next a b c => rw [if_neg a, if_neg b, if_neg c, h1]
theorem ok_take {i j : Nat} {x : Sa} {y : ByteArray} (hx : p.states.l[i]? = some x) (hy : x.takes.l[j]? = some y) : hdI p.headers.l y ≠ -1 := by
  have h := hall (.num 5 i j) (mem_state hx (List.mem_cons_of_mem _ (List.mem_append_left _ (List.mem_of_getElem? (ptI_at 5 i _ j (List.getElem?_eq_some_iff.1 hy).1)))))
  have hv : wrI p (.num 5 i j) = if hdI p.headers.l y = -1 then 7 else 0 := by simp [wrI, wrN, hx, hy]
  rw [hv] at h
  split at h
  · cases h
  · assumption
theorem ok_case {i j : Nat} {x : Sa} {y : Ca} (hx : p.states.l[i]? = some x) (hy : x.cases.l[j]? = some y) : (stI p.states.l y.to).2 = true := by
  have h := hall (.num 7 i j) (mem_state hx (List.mem_cons_of_mem _ (List.mem_append_right _ (List.mem_cons_of_mem _ (List.mem_of_getElem? (ptI_at 7 i _ j (List.getElem?_eq_some_iff.1 hy).1))))))
  have hv : wrI p (.num 7 i j) = if (stI p.states.l y.to).2 then 0 else 7 := by simp [wrI, wrN, hx, hy]
  rw [hv] at h
  split at h
  · assumption
  · cases h
theorem ok_next {i : Nat} {x : Sa} (hx : p.states.l[i]? = some x) (hk : x.keys.l.length = 0) : (stI p.states.l x.to).2 = true := by
  have h := hall (.num 6 i 0) (mem_state hx (List.mem_cons_of_mem _ (List.mem_append_right _ (List.mem_cons_self ..))))
  have hv : wrI p (.num 6 i 0) = wNxI p x := by simp [wrI, wrN, hx]
  rw [hv] at h
  unfold wNxI at h
  rw [if_pos hk] at h
  split at h
  · assumption
  · cases h
end
end Go.Proofs.YtlmhldcebllckaaGreat
