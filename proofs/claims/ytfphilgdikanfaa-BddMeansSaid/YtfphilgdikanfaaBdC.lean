/-
  WHAT IS PROVED HERE: decision diagrams, plain: Ite with fuel enough (bdI) hangs on no more fuel; how many nodes it makes at most; which store is behind a row of calls.
-/
import Derived.Test.YtfphilgdikanfaaBdB
namespace Go.Proofs.Ytfphilgdikanfaa
theorem bdIte_fuel (cap : Nat) : ∀ (f g : Nat) (R : List Bd) (c a b : Nat), BdOk R → c < R.length → a < R.length → b < R.length → 65 ≤ f + bdTop R c a b → 65 ≤ g + bdTop R c a b → bdIte cap f R c a b = bdIte cap g R c a b := by
  intro f
  induction f with
  | zero => intro g R c a b h _ _ _ hf; have := bdTop_le h c a b; omega
  | succ f ih =>
    intro g R c a b h hc ha hb hf hg
    obtain ⟨g, rfl⟩ : ∃ k, g = k + 1 := ⟨g - 1, by have := bdTop_le h c a b; omega⟩
    by_cases h1 : c = 1 ∨ a = b
    · rw [bdIte, if_pos h1, bdIte, if_pos h1]
    by_cases h2 : c = 0
    · rw [bdIte, if_neg h1, if_pos h2, bdIte, if_neg h1, if_pos h2]
    by_cases h3 : a = 1 ∧ b = 0
    · rw [bdIte, if_neg h1, if_neg h2, if_pos h3, bdIte, if_neg h1, if_neg h2, if_pos h3]
    rw [bdIte_succ _ f _ c a b h1 h2 h3, bdIte_succ _ g _ c a b h1 h2 h3]
    have ht : bdTop R c a b < 64 := bdTop_lt h hc (fun e => h1 (.inl e)) h2
    have k0 := bdTop_half h hc ha hb ht false
    have k1 := bdTop_half h hc ha hb ht true
    have hcl := fun on => bdHalf_lt h hc (bdTop R c a b) on
    have hal := fun on => bdHalf_lt h ha (bdTop R c a b) on
    have hbl := fun on => bdHalf_lt h hb (bdTop R c a b) on
    generalize bdTop R c a b = t at *
    have G0 := bdIte_goes cap f R (bdHalf R c t false) (bdHalf R a t false) (bdHalf R b t false) h (hcl _) (hal _) (hbl _) (by omega)
    rw [← ih g R (bdHalf R c t false) (bdHalf R a t false) (bdHalf R b t false) h (hcl _) (hal _) (hbl _) (by omega) (by omega)]
    generalize bdIte cap f R (bdHalf R c t false) (bdHalf R a t false) (bdHalf R b t false) = r1 at G0 ⊢
    obtain ⟨R1, o1⟩ := r1
    cases o1 with
    | none => rfl
    | some lo =>
      obtain ⟨ok1, ⟨S1, e1⟩, _, _, _⟩ := G0
      simp only at ok1 e1 ⊢
      have hlen : R.length ≤ R1.length := by rw [e1]; simp
      have q1 : ∀ x, x < R.length → bdHalf R1 x t true = bdHalf R x t true := fun x hx => by rw [e1]; exact bdHalf_app S1 hx t true
      rw [q1 c hc, q1 a ha, q1 b hb]
      have tt : bdTop R1 (bdHalf R c t true) (bdHalf R a t true) (bdHalf R b t true) = bdTop R (bdHalf R c t true) (bdHalf R a t true) (bdHalf R b t true) := by rw [e1]; exact bdTop_app S1 (hcl _) (hal _) (hbl _)
      rw [ih g R1 (bdHalf R c t true) (bdHalf R a t true) (bdHalf R b t true) ok1 (by have := hcl true; omega) (by have := hal true; omega) (by have := hbl true; omega) (by rw [tt]; omega) (by rw [tt]; omega)]
/-- Ite, of proper rows. -/
def bdI (cap : Nat) (R : List Bd) (c a b : Nat) : List Bd × Option Nat := bdIte cap 65 R c a b
/-- All variables are below K. -/
def BdLow (K : Nat) (R : List Bd) : Prop := ∀ (i : Nat) (n : Bd), R[i]? = some n → 2 ≤ i → n.v < K
theorem bdNode_low {K cap : Nat} {R : List Bd} {v lo hi : Nat} (h : BdLow K R) (hv : v < K) : BdLow K (bdNode cap R v lo hi).1 ∧ (bdNode cap R v lo hi).1.length ≤ R.length + 1 ∧ (R.length < cap + 2 → (bdNode cap R v lo hi).2 ≠ none) := by
  unfold bdNode
  split
  · exact ⟨h, by simp, fun _ => by simp⟩
  · split
    · exact ⟨h, by simp, fun _ => by simp⟩
    · split
      · exact ⟨h, by simp, fun q => by omega⟩
      · refine ⟨fun i n e h2 => ?_, by simp, fun _ => by simp⟩
        by_cases q : i < R.length
        · exact h i n (by rw [← e]; exact (List.getElem?_append_left q).symm) h2
        · have e2 : (R ++ [(⟨v, lo, hi⟩ : Bd)])[i]? = some n := e
          rw [List.getElem?_append_right (by omega)] at e2
          obtain ⟨z, e3⟩ := List.getElem?_eq_some_iff.1 e2
          simp at e3
          rw [← e3]
          exact hv
theorem bdV_low {K : Nat} {R : List Bd} (ok : BdOk R) (h : BdLow K R) {a : Nat} (ha : a < R.length) (hv : bdV R a < 64) : bdV R a < K := by
  have e := List.getElem?_eq_getElem ha
  have h2 : 2 ≤ a := by
    match a with
    | 0 => rw [bdV_at ok.no] at hv; simp at hv
    | 1 => rw [bdV_at ok.yes] at hv; simp at hv
    | a + 2 => omega
  rw [bdV_at e]
  exact h _ _ e h2
theorem bdTop_low {K : Nat} {R : List Bd} (ok : BdOk R) (h : BdLow K R) {c a b : Nat} (hc : c < R.length) (ha : a < R.length) (hb : b < R.length) (hv : bdTop R c a b < 64) : bdTop R c a b < K := by
  have h1 := bdV_low ok h hc
  have h2 := bdV_low ok h ha
  have h3 := bdV_low ok h hb
  unfold bdTop at *
  omega
theorem pow_split {K t u w : Nat} (h1 : t < K) (h2 : t < u) (h3 : t < w) : (2 ^ (K - u) - 1) + (2 ^ (K - w) - 1) + 1 ≤ 2 ^ (K - t) - 1 := by
  have e : K - t = (K - t - 1) + 1 := by omega
  have p1 : 2 ^ (K - u) ≤ 2 ^ (K - t - 1) := Nat.pow_le_pow_right (by omega) (by omega)
  have p2 : 2 ^ (K - w) ≤ 2 ^ (K - t - 1) := Nat.pow_le_pow_right (by omega) (by omega)
  have p3 : 0 < 2 ^ (K - u) := Nat.pow_pos (by omega)
  have p4 : 0 < 2 ^ (K - w) := Nat.pow_pos (by omega)
  rw [e, Nat.pow_succ]
  omega
theorem bdIte_low (cap K : Nat) : ∀ (f : Nat) (R : List Bd) (c a b : Nat), BdOk R → BdLow K R → c < R.length → a < R.length → b < R.length → 65 ≤ f + bdTop R c a b →
    BdLow K (bdIte cap f R c a b).1 ∧ (bdIte cap f R c a b).1.length ≤ R.length + (2 ^ (K - bdTop R c a b) - 1) ∧ (R.length + (2 ^ (K - bdTop R c a b) - 1) ≤ cap + 2 → (bdIte cap f R c a b).2 ≠ none) := by
  intro f
  induction f with
  | zero => intro R c a b h _ _ _ _ hf; have := bdTop_le h c a b; omega
  | succ f ih =>
    intro R c a b h hK hc ha hb hf
    by_cases h1 : c = 1 ∨ a = b
    · rw [bdIte, if_pos h1]; exact ⟨hK, by simp, fun _ => by simp⟩
    by_cases h2 : c = 0
    · rw [bdIte, if_neg h1, if_pos h2]; exact ⟨hK, by simp, fun _ => by simp⟩
    by_cases h3 : a = 1 ∧ b = 0
    · rw [bdIte, if_neg h1, if_neg h2, if_pos h3]; exact ⟨hK, by simp, fun _ => by simp⟩
    rw [bdIte_succ _ f _ c a b h1 h2 h3]
    have ht : bdTop R c a b < 64 := bdTop_lt h hc (fun e => h1 (.inl e)) h2
    have htK := bdTop_low h hK hc ha hb ht
    have k0 := bdTop_half h hc ha hb ht false
    have k1 := bdTop_half h hc ha hb ht true
    have hcl := fun on => bdHalf_lt h hc (bdTop R c a b) on
    have hal := fun on => bdHalf_lt h ha (bdTop R c a b) on
    have hbl := fun on => bdHalf_lt h hb (bdTop R c a b) on
    generalize bdTop R c a b = t at *
    have hp := pow_split htK k0 k1
    have G0 := bdIte_goes cap f R (bdHalf R c t false) (bdHalf R a t false) (bdHalf R b t false) h (hcl _) (hal _) (hbl _) (by omega)
    have L0 := ih R (bdHalf R c t false) (bdHalf R a t false) (bdHalf R b t false) h hK (hcl _) (hal _) (hbl _) (by omega)
    generalize bdIte cap f R (bdHalf R c t false) (bdHalf R a t false) (bdHalf R b t false) = r1 at G0 L0 ⊢
    obtain ⟨R1, o1⟩ := r1
    obtain ⟨l1, l2, l3⟩ := L0
    cases o1 with
    | none =>
      simp only at l1 l2 l3 ⊢
      exact ⟨l1, by omega, fun q => absurd rfl (l3 (by omega))⟩
    | some lo =>
      obtain ⟨ok1, ⟨S1, e1⟩, _, _, _⟩ := G0
      simp only at ok1 e1 l1 l2 l3 ⊢
      have hlen : R.length ≤ R1.length := by rw [e1]; simp
      have q1 : ∀ x, x < R.length → bdHalf R1 x t true = bdHalf R x t true := fun x hx => by rw [e1]; exact bdHalf_app S1 hx t true
      rw [q1 c hc, q1 a ha, q1 b hb]
      have tt : bdTop R1 (bdHalf R c t true) (bdHalf R a t true) (bdHalf R b t true) = bdTop R (bdHalf R c t true) (bdHalf R a t true) (bdHalf R b t true) := by rw [e1]; exact bdTop_app S1 (hcl _) (hal _) (hbl _)
      have L1 := ih R1 (bdHalf R c t true) (bdHalf R a t true) (bdHalf R b t true) ok1 l1 (by have := hcl true; omega) (by have := hal true; omega) (by have := hbl true; omega) (by rw [tt]; omega)
      rw [tt] at L1
      generalize bdIte cap f R1 (bdHalf R c t true) (bdHalf R a t true) (bdHalf R b t true) = r2 at L1 ⊢
      obtain ⟨R2, o2⟩ := r2
      obtain ⟨m1, m2, m3⟩ := L1
      cases o2 with
      | none =>
        simp only at m1 m2 m3 ⊢
        exact ⟨m1, by omega, fun q => absurd rfl (m3 (by omega))⟩
      | some hi =>
        simp only at m1 m2 m3 ⊢
        have L2 := bdNode_low (cap := cap) (lo := lo) (hi := hi) m1 htK
        exact ⟨L2.1, by have := L2.2.1; omega, fun q => L2.2.2 (by omega)⟩
/-- No more rows than the cap lets. -/
theorem bdNode_cap {cap : Nat} {R : List Bd} (v lo hi : Nat) (h : R.length ≤ cap + 2) : (bdNode cap R v lo hi).1.length ≤ cap + 2 := by
  unfold bdNode
  split
  · exact h
  · split
    · exact h
    · split
      · exact h
      · simp; omega
theorem bdIte_cap (cap : Nat) : ∀ (f : Nat) (R : List Bd) (c a b : Nat), R.length ≤ cap + 2 → (bdIte cap f R c a b).1.length ≤ cap + 2 := by
  intro f
  induction f with
  | zero => intro R c a b h; exact h
  | succ f ih =>
    intro R c a b h
    by_cases h1 : c = 1 ∨ a = b
    · rw [bdIte, if_pos h1]; exact h
    by_cases h2 : c = 0
    · rw [bdIte, if_neg h1, if_pos h2]; exact h
    by_cases h3 : a = 1 ∧ b = 0
    · rw [bdIte, if_neg h1, if_neg h2, if_pos h3]; exact h
    rw [bdIte_succ cap f R c a b h1 h2 h3]
    generalize bdTop R c a b = t
    have k1 := ih R (bdHalf R c t false) (bdHalf R a t false) (bdHalf R b t false) h
    generalize bdIte cap f R (bdHalf R c t false) (bdHalf R a t false) (bdHalf R b t false) = r1 at k1 ⊢
    obtain ⟨R1, o1⟩ := r1
    cases o1 with
    | none => exact k1
    | some lo =>
      simp only at k1 ⊢
      have k2 := ih R1 (bdHalf R1 c t true) (bdHalf R1 a t true) (bdHalf R1 b t true) k1
      generalize bdIte cap f R1 (bdHalf R1 c t true) (bdHalf R1 a t true) (bdHalf R1 b t true) = r2 at k2 ⊢
      obtain ⟨R2, o2⟩ := r2
      cases o2 with
      | none => exact k2
      | some hi => exact bdNode_cap _ _ _ k2
theorem bdI_end1 (cap : Nat) (R : List Bd) {c a b : Nat} (h : c = 1 ∨ a = b) : bdI cap R c a b = (R, some a) := by unfold bdI; rw [bdIte, if_pos h]
theorem bdI_end2 (cap : Nat) (R : List Bd) {c a b : Nat} (h1 : ¬ (c = 1 ∨ a = b)) (h : c = 0) : bdI cap R c a b = (R, some b) := by unfold bdI; rw [bdIte, if_neg h1, if_pos h]
theorem bdI_end3 (cap : Nat) (R : List Bd) {c a b : Nat} (h1 : ¬ (c = 1 ∨ a = b)) (h2 : c ≠ 0) (h : a = 1 ∧ b = 0) : bdI cap R c a b = (R, some c) := by unfold bdI; rw [bdIte, if_neg h1, if_neg h2, if_pos h]
theorem bdI_step (cap : Nat) {R : List Bd} (ok : BdOk R) {c a b : Nat} (hc : c < R.length) (ha : a < R.length) (hb : b < R.length) (h1 : ¬ (c = 1 ∨ a = b)) (h2 : c ≠ 0) (h3 : ¬ (a = 1 ∧ b = 0)) : bdI cap R c a b =
    match bdI cap R (bdHalf R c (bdTop R c a b) false) (bdHalf R a (bdTop R c a b) false) (bdHalf R b (bdTop R c a b) false) with
    | (R1, none) => (R1, none)
    | (R1, some lo) =>
      match bdI cap R1 (bdHalf R1 c (bdTop R c a b) true) (bdHalf R1 a (bdTop R c a b) true) (bdHalf R1 b (bdTop R c a b) true) with
      | (R2, none) => (R2, none)
      | (R2, some hi) => bdNode cap R2 (bdTop R c a b) lo hi := by
  have ht : bdTop R c a b < 64 := bdTop_lt ok hc (fun e => h1 (.inl e)) h2
  have k0 := bdTop_half ok hc ha hb ht false
  have k1 := bdTop_half ok hc ha hb ht true
  have hcl := fun on => bdHalf_lt ok hc (bdTop R c a b) on
  have hal := fun on => bdHalf_lt ok ha (bdTop R c a b) on
  have hbl := fun on => bdHalf_lt ok hb (bdTop R c a b) on
  unfold bdI
  rw [bdIte_succ cap 64 R c a b h1 h2 h3]
  generalize bdTop R c a b = t at *
  have G0 := bdIte_goes cap 65 R (bdHalf R c t false) (bdHalf R a t false) (bdHalf R b t false) ok (hcl _) (hal _) (hbl _) (by omega)
  rw [bdIte_fuel cap 64 65 R _ _ _ ok (hcl _) (hal _) (hbl _) (by omega) (by omega)]
  generalize bdIte cap 65 R (bdHalf R c t false) (bdHalf R a t false) (bdHalf R b t false) = r1 at G0 ⊢
  obtain ⟨R1, o1⟩ := r1
  cases o1 with
  | none => rfl
  | some lo =>
    obtain ⟨ok1, ⟨S1, e1⟩, _, _, _⟩ := G0
    simp only at ok1 e1 ⊢
    have hlen : R.length ≤ R1.length := by rw [e1]; simp
    have q1 : ∀ x, x < R.length → bdHalf R1 x t true = bdHalf R x t true := fun x hx => by rw [e1]; exact bdHalf_app S1 hx t true
    rw [q1 c hc, q1 a ha, q1 b hb]
    have tt : bdTop R1 (bdHalf R c t true) (bdHalf R a t true) (bdHalf R b t true) = bdTop R (bdHalf R c t true) (bdHalf R a t true) (bdHalf R b t true) := by rw [e1]; exact bdTop_app S1 (hcl _) (hal _) (hbl _)
    rw [bdIte_fuel cap 64 65 R1 _ _ _ ok1 (by have := hcl true; omega) (by have := hal true; omega) (by have := hbl true; omega) (by rw [tt]; omega) (by rw [tt]; omega)]
    generalize bdIte cap 65 R1 (bdHalf R c t true) (bdHalf R a t true) (bdHalf R b t true) = r2
    obtain ⟨R2, o2⟩ := r2
    cases o2 <;> rfl
theorem bdI_goes (cap : Nat) {R : List Bd} {c a b : Nat} (ok : BdOk R) (hc : c < R.length) (ha : a < R.length) (hb : b < R.length) : BdGoes R (bdTop R c a b) (bdI cap R c a b) (fun bits => if bdEv R bits c then bdEv R bits a else bdEv R bits b) := bdIte_goes cap 65 R c a b ok hc ha hb (by omega)
theorem bdI_again (cap cap' : Nat) {R R' : List Bd} {c a b n : Nat} (S : List Bd) (ok : BdOk R) (hc : c < R.length) (ha : a < R.length) (hb : b < R.length) (h : bdI cap R c a b = (R', some n)) (ok' : BdOk (R' ++ S)) : bdI cap' (R' ++ S) c a b = (R' ++ S, some n) := bdIte_again cap cap' 65 R c a b R' n S ok hc ha hb (by omega) h ok'
/-- What stands behind the first half. -/
theorem bdI_half1 {cap : Nat} {R R1 : List Bd} {c a b t lo : Nat} (ok : BdOk R) (hc : c < R.length) (ha : a < R.length) (hb : b < R.length) (ht : bdTop R c a b = t) (h64 : t < 64) (h : bdI cap R (bdHalf R c t false) (bdHalf R a t false) (bdHalf R b t false) = (R1, some lo)) :
    BdOk R1 ∧ R.length ≤ R1.length ∧ lo < R1.length ∧ t < bdV R1 lo ∧ bdHalf R1 c t true < R1.length ∧ bdHalf R1 a t true < R1.length ∧ bdHalf R1 b t true < R1.length ∧ t < bdTop R1 (bdHalf R1 c t true) (bdHalf R1 a t true) (bdHalf R1 b t true) := by
  subst ht
  have k0 := bdTop_half ok hc ha hb h64 false
  have k1 := bdTop_half ok hc ha hb h64 true
  have hcl := fun on => bdHalf_lt ok hc (bdTop R c a b) on
  have hal := fun on => bdHalf_lt ok ha (bdTop R c a b) on
  have hbl := fun on => bdHalf_lt ok hb (bdTop R c a b) on
  have G := bdI_goes cap ok (hcl false) (hal false) (hbl false)
  rw [h] at G
  obtain ⟨ok1, ⟨S1, e1⟩, lt1, top1, _⟩ := G
  have lt1 := lt1 lo rfl
  have top1 := top1 lo rfl
  simp only at ok1 e1 lt1 top1
  have hlen : R.length ≤ R1.length := by rw [e1]; simp
  have q1 : ∀ x, x < R.length → bdHalf R1 x (bdTop R c a b) true = bdHalf R x (bdTop R c a b) true := fun x hx => by rw [e1]; exact bdHalf_app S1 hx _ true
  rw [q1 c hc, q1 a ha, q1 b hb]
  have tt : bdTop R1 (bdHalf R c (bdTop R c a b) true) (bdHalf R a (bdTop R c a b) true) (bdHalf R b (bdTop R c a b) true) = bdTop R (bdHalf R c (bdTop R c a b) true) (bdHalf R a (bdTop R c a b) true) (bdHalf R b (bdTop R c a b) true) := by
    rw [e1]; exact bdTop_app S1 (hcl _) (hal _) (hbl _)
  rw [tt]
  exact ⟨ok1, hlen, lt1, Nat.lt_of_lt_of_le k0 top1, Nat.lt_of_lt_of_le (hcl true) hlen, Nat.lt_of_lt_of_le (hal true) hlen, Nat.lt_of_lt_of_le (hbl true) hlen, k1⟩
/-- What stands behind a second one. -/
theorem bdI_half2 {cap : Nat} {R1 R2 : List Bd} {c a b t lo hi : Nat} (ok : BdOk R1) (hc : c < R1.length) (ha : a < R1.length) (hb : b < R1.length) (ht : t < bdTop R1 c a b) (hlo : lo < R1.length) (vlo : t < bdV R1 lo) (h : bdI cap R1 c a b = (R2, some hi)) :
    BdOk R2 ∧ R1.length ≤ R2.length ∧ lo < R2.length ∧ hi < R2.length ∧ t < bdV R2 lo ∧ t < bdV R2 hi := by
  have G := bdI_goes cap ok hc ha hb
  rw [h] at G
  obtain ⟨ok1, ⟨S1, e1⟩, lt1, top1, _⟩ := G
  have lt1 := lt1 hi rfl
  have top1 := top1 hi rfl
  simp only at ok1 e1 lt1 top1
  have hlen : R1.length ≤ R2.length := by rw [e1]; simp
  exact ⟨ok1, hlen, Nat.lt_of_lt_of_le hlo hlen, lt1, by rw [e1, bdV_app S1 hlo]; exact vlo, by omega⟩
/-- What is made is made again as the same. -/
theorem bdI_made {cap : Nat} {R R3 : List Bd} {c a b n : Nat} (ok : BdOk R) (hc : c < R.length) (ha : a < R.length) (hb : b < R.length) (h : bdI cap R c a b = (R3, some n)) : c < R3.length ∧ a < R3.length ∧ b < R3.length ∧ n < R3.length ∧ bdI cap R3 c a b = (R3, some n) := by
  have G := bdI_goes cap ok hc ha hb
  rw [h] at G
  obtain ⟨ok1, ⟨S1, e1⟩, lt1, _, _⟩ := G
  have lt1 := lt1 n rfl
  simp only at ok1 e1 lt1
  have hlen : R.length ≤ R3.length := by rw [e1]; simp
  have := bdI_again cap cap [] ok hc ha hb h (by simpa using ok1)
  simp only [List.append_nil] at this
  exact ⟨by omega, by omega, by omega, lt1, this⟩
end Go.Proofs.Ytfphilgdikanfaa
