/-
  WHAT IS PROVED HERE: plain: a table's listed actions are looked at ahead of its default; so a default that is looked at names an action, if it is listed.
-/
import Derived.Test.YtlmhldcebllckaaGreatRows
import Derived.Test.YtlmhldcebllckaaGreatZr
namespace Go.Proofs.YtlmhldcebllckaaGreat
open Go.RowKit Go.Shelf
def It.kd : It → Int
  | .num k _ _ => k
  | .st _ _ => 10
/-- Wherever v stands, u has stood. -/
def Bef (u v : It) (l : List It) : Prop := ∀ k : Nat, l[k]? = some v → ∃ j : Nat, j < k ∧ l[j]? = some u
theorem Bef.app {u v : It} {a b : List It} (ha : Bef u v a) (hb : Bef u v b) : Bef u v (a ++ b) := fun k hk => by
  by_cases h : k < a.length
  · rw [List.getElem?_append_left h] at hk
    obtain ⟨j, hj, e⟩ := ha k hk
    exact ⟨j, hj, by rw [List.getElem?_append_left (by omega)]; exact e⟩
  · rw [List.getElem?_append_right (by omega)] at hk
    obtain ⟨j, hj, e⟩ := hb _ hk
    exact ⟨a.length + j, by omega, by rw [List.getElem?_append_right (by omega)]; simpa using e⟩
theorem Bef.none {u v : It} {l : List It} (h : v ∉ l) : Bef u v l := fun _ hk => absurd (List.mem_of_getElem? hk) h
theorem Bef.last {u v : It} {c : List It} (hu : u ∈ c) (hv : v ∉ c) : Bef u v (c ++ [v]) := fun k hk => by
  by_cases h : k < c.length
  · rw [List.getElem?_append_left h] at hk
    exact absurd (List.mem_of_getElem? hk) hv
  · obtain ⟨j, hj, e⟩ := List.mem_iff_getElem.1 hu
    exact ⟨j, by omega, by rw [List.getElem?_append_left hj, List.getElem?_eq_getElem hj, e]⟩
theorem Bef.fl {α : Type} {u v : It} (f : Nat → α → List It) : ∀ (l : List α) (b : Nat), (∀ i x, l[i]? = some x → Bef u v (f (b + i) x)) → Bef u v (flI f b l)
  | [], _, _ => .none (by simp [flI])
  | x :: l, b, h => by
    unfold flI
    exact (h 0 x rfl).app (Bef.fl f l (b + 1) fun i y hy => by rw [show b + 1 + i = b + (i + 1) by omega]; exact h (i + 1) y (by simpa using hy))
theorem kd_stmts (a : Int) : ∀ s : St, ∀ z ∈ s.enc a, z.kd = 10 := fun s => St.ind (Q := fun s => ∀ z ∈ s.enc a, z.kd = 10) (fun s h1 h2 z hm => by
  rw [St.enc_eq] at hm
  rcases List.mem_cons.1 hm with rfl | hm
  · rfl
  rcases List.mem_append.1 hm with hm | hm
  · rw [St.encs_fl a _ 0] at hm
    obtain ⟨i, x, hx, hzx⟩ := mem_flI _ z _ 0 hm
    exact h1 x (List.mem_of_getElem? hx) z hzx
  · rw [St.encs_fl a _ 0] at hm
    obtain ⟨i, x, hx, hzx⟩ := mem_flI _ z _ 0 hm
    exact h2 x (List.mem_of_getElem? hx) z hzx) s
theorem kd_block (a : Int) (l : List St) : ∀ z ∈ St.encs a l, z.kd = 10 := fun z hm => by
  rw [St.encs_fl a _ 0] at hm
  obtain ⟨i, x, hx, hzx⟩ := mem_flI _ z _ 0 hm
  exact kd_stmts a x z hzx
theorem kd_pt {k : Int} {a n : Nat} {z : It} (h : z ∈ ptI k a n) : z.kd = k := by obtain ⟨j, _, rfl⟩ := mem_ptI h; rfl
theorem kd_fl {α : Type} {v : It} (f : Nat → α → List It) (l : List α) (b : Nat) (h : ∀ i x, ∀ z ∈ f i x, z.kd ≠ v.kd) : v ∉ flI f b l := fun hm => by
  obtain ⟨i, x, _, hz⟩ := mem_flI f v l b hm
  exact h _ x v hz rfl
theorem bef_listed (p : Pr) (a b : Nat) (x : Ta) (hx : p.tables.l[a]? = some x) (hb : b < x.actions.l.length) : Bef (.num 13 a b) (.num 14 a 0) (encP p) := by
  unfold encP
  refine .app (.none (kd_fl _ _ _ fun i x z hm => ?_)) (.app (.none (kd_fl _ _ _ fun i x z hm => ?_)) (.app (.none (kd_fl _ _ _ fun i x z hm => ?_)) (.app (.none (kd_fl _ _ _ fun i x z hm => ?_)) (.app (.fl _ _ _ fun i y hy => ?_) (.app (.none fun hm => ?_) (.none (kd_fl _ _ _ fun i x z hm => ?_)))))))
  · rcases List.mem_cons.1 hm with rfl | hm
    · simp [It.kd]
    · rw [kd_pt hm]; simp [It.kd]
  · obtain rfl := List.mem_singleton.1 hm
    simp [It.kd]
  · rcases List.mem_cons.1 hm with rfl | hm
    · simp [It.kd]
    rcases List.mem_append.1 hm with hm | hm
    · rw [kd_pt hm]; simp [It.kd]
    rcases List.mem_cons.1 hm with rfl | hm
    · simp [It.kd]
    · rw [kd_pt hm]; simp [It.kd]
  · rcases List.mem_cons.1 hm with rfl | hm
    · simp [It.kd]
    rcases List.mem_append.1 hm with hm | hm
    · rw [kd_pt hm]; simp [It.kd]
    · rw [kd_block _ _ z hm]; simp [It.kd]
  · rw [Nat.zero_add]
    by_cases e : i = a
    · subst e
      rw [hx] at hy
      obtain rfl := Option.some.inj hy
      have q : encT i x.keys.l.length x.actions.l.length = (.num 11 i 0 :: (ptI 12 i x.keys.l.length ++ ptI 13 i x.actions.l.length)) ++ [.num 14 i 0] := by simp [encT]
      rw [q]
      refine .last (List.mem_cons_of_mem _ (List.mem_append_right _ (List.mem_of_getElem? (ptI_at 13 i _ b hb)))) fun hm => ?_
      rcases List.mem_cons.1 hm with h | hm
      · cases h
      rcases List.mem_append.1 hm with hm | hm
      · have := kd_pt hm; cases this
      · have := kd_pt hm; cases this
    · refine .none fun hm => ?_
      rcases List.mem_cons.1 hm with h | hm
      · cases h
      rcases List.mem_append.1 hm with hm | hm
      · have := kd_pt hm; cases this
      rcases List.mem_append.1 hm with hm | hm
      · have := kd_pt hm; cases this
      · have h := List.mem_singleton.1 hm
        injection h with _ h2 _
        exact e h2.symm
  · have := kd_block _ _ _ hm; cases this
  · obtain rfl := List.mem_singleton.1 hm
    simp [It.kd]
theorem firstI_spec {α : Type} (q : α → Bool) : ∀ (l : List α) (k : Nat), firstI q l k ≠ -1 → ∃ (i : Nat) (x : α), l[i]? = some x ∧ q x = true
  | [], k, h => absurd rfl h
  | x :: l, k, h => by
    by_cases e : q x = true
    · exact ⟨0, x, rfl, e⟩
    · rw [firstI, if_neg e] at h
      obtain ⟨i, y, hi, hy⟩ := firstI_spec q l (k + 1) h
      exact ⟨i + 1, y, by simpa using hi, hy⟩
theorem safe_next (p : Pr) (k : Nat) (z : It) (hk : (encP p)[k]? = some z) (h : ∀ j y, j < k → (encP p)[j]? = some y → wrI p y = 0) : SafeD p z := by
  rintro a x rfl hx hn
  obtain ⟨b, y, hb, hy⟩ := firstI_spec (fun y : ByteArray => y.toList == x.dflt.name.toList) x.actions.l 0 hn
  have hlt := (List.getElem?_eq_some_iff.1 hb).1
  obtain ⟨j, hj, e⟩ := bef_listed p a b x hx hlt k hk
  have q := h j _ hj e
  have hv : wrI p (.num 13 a b) = if acI p.actions.l y = -1 then 7 else if nmI x.actions.l y = (b : Int) then 0 else 8 := by simp [wrI, wrN, hx, hb]
  rw [hv] at q
  have e2 : y.toList = x.dflt.name.toList := by simpa using hy
  have e3 : acI p.actions.l y = acI p.actions.l x.dflt.name := by unfold acI; rw [e2]
  rw [← e3]
  intro e4
  rw [if_pos e4] at q
  cases q
/-- The number of the first wrong item from the n-th on, and what is wrong; or how many there are. -/
def scanI (p : Pr) : List It → Nat → Nat × Int
  | [], n => (n, 0)
  | z :: l, n => if wrI p z = 0 then scanI p l (n + 1) else (n, wrI p z)
theorem scan_some (p : Pr) : ∀ (l : List It) (n k : Nat) (z : It), l[k]? = some z → (∀ j y, j < k → l[j]? = some y → wrI p y = 0) → wrI p z ≠ 0 → scanI p l n = (n + k, wrI p z)
  | x :: l, n, 0, z, hk, _, hz => by
    obtain rfl : x = z := by simpa using hk
    rw [scanI, if_neg hz]; rfl
  | x :: l, n, k + 1, z, hk, h, hz => by
    rw [scanI, if_pos (h 0 x (by omega) rfl), scan_some p l (n + 1) k z (by simpa using hk) (fun j y hj hy => h (j + 1) y (by omega) (by simpa using hy)) hz]
    congr 1
    omega
theorem scan_none (p : Pr) : ∀ (l : List It) (n : Nat), (∀ j y, j < l.length → l[j]? = some y → wrI p y = 0) → scanI p l n = (n + l.length, 0)
  | [], n, _ => rfl
  | x :: l, n, h => by
    rw [scanI, if_pos (h 0 x (by simp) rfl), scan_none p l (n + 1) (fun j y hj hy => h (j + 1) y (by simp; omega) (by simpa using hy))]
    congr 1
    simp only [List.length_cons]
    omega
end Go.Proofs.YtlmhldcebllckaaGreat
