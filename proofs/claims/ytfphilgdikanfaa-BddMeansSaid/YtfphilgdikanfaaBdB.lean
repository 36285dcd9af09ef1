/-
  WHAT IS PROVED HERE: decision diagrams, plain: the node of a variable, a lo and a hi (bdNode), Ite (bdIte): proper rows stay so and grow at their end alone; what is made is what it means; made again, or of more rows, it is the same; how many nodes it makes at most.
-/
import Derived.Test.YtfphilgdikanfaaBdA
namespace Go.Proofs.Ytfphilgdikanfaa
def bdFind (R : List Bd) (n : Bd) : Option Nat := R.findIdx? (fun m => decide (m = n))
theorem bdFind_some {R : List Bd} {n : Bd} {i : Nat} (h : bdFind R n = some i) : R[i]? = some n := by
  unfold bdFind at h
  rw [List.findIdx?_eq_some_iff_getElem] at h
  obtain ⟨h1, h2, _⟩ := h
  rw [List.getElem?_eq_getElem h1]
  exact congrArg some (of_decide_eq_true h2)
theorem bdFind_none {R : List Bd} {n : Bd} (h : bdFind R n = none) (i : Nat) : R[i]? ≠ some n := fun e => by
  unfold bdFind at h
  rw [List.findIdx?_eq_none_iff] at h
  have := h n (List.mem_of_getElem? e)
  simp at this
theorem bdFind_of {R : List Bd} (ho : BdOk R) {n : Bd} {i : Nat} (h : R[i]? = some n) : bdFind R n = some i := by
  cases e : bdFind R n with
  | none => exact absurd h (bdFind_none e i)
  | some j => rw [ho.once j i n (bdFind_some e) h]
def bdNode (cap : Nat) (R : List Bd) (v lo hi : Nat) : List Bd × Option Nat :=
  if lo = hi then (R, some lo) else match bdFind R ⟨v, lo, hi⟩ with
    | some i => (R, some i)
    | none => if cap + 2 ≤ R.length then (R, none) else (R ++ [⟨v, lo, hi⟩], some R.length)
def bdTop (R : List Bd) (c a b : Nat) : Nat := min (min (bdV R c) (bdV R a)) (bdV R b)
def bdIte (cap : Nat) : Nat → List Bd → Nat → Nat → Nat → List Bd × Option Nat
  | 0, R, _, _, _ => (R, none)
  | f + 1, R, c, a, b =>
    if c = 1 ∨ a = b then (R, some a) else if c = 0 then (R, some b) else if a = 1 ∧ b = 0 then (R, some c) else
    match bdIte cap f R (bdHalf R c (bdTop R c a b) false) (bdHalf R a (bdTop R c a b) false) (bdHalf R b (bdTop R c a b) false) with
    | (R1, none) => (R1, none)
    | (R1, some lo) =>
      match bdIte cap f R1 (bdHalf R1 c (bdTop R c a b) true) (bdHalf R1 a (bdTop R c a b) true) (bdHalf R1 b (bdTop R c a b) true) with
      | (R2, none) => (R2, none)
      | (R2, some hi) => bdNode cap R2 (bdTop R c a b) lo hi
/-- How making goes: proper rows, more of them at the end alone; what is made is there, has no variable ahead of v, and means F. -/
structure BdGoes (R : List Bd) (v : Nat) (r : List Bd × Option Nat) (F : (Nat → Bool) → Bool) : Prop where
  ok : BdOk r.1
  pre : ∃ S, r.1 = R ++ S
  lt : ∀ n, r.2 = some n → n < r.1.length
  top : ∀ n, r.2 = some n → v ≤ bdV r.1 n
  val : ∀ n, r.2 = some n → ∀ bits, bdEv r.1 bits n = F bits
theorem bdOk_snoc {R : List Bd} (h : BdOk R) {v lo hi : Nat} (hv : v < 64) (hl : lo < R.length) (hh : hi < R.length) (vl : v < bdV R lo) (vh : v < bdV R hi) (hne : lo ≠ hi) (hnew : ∀ i : Nat, R[i]? ≠ some ⟨v, lo, hi⟩) : BdOk (R ++ [⟨v, lo, hi⟩]) := by
  have h2 := h.two
  have cases : ∀ (i : Nat) (n : Bd), (R ++ [(⟨v, lo, hi⟩ : Bd)])[i]? = some n → R[i]? = some n ∨ i = R.length ∧ n = ⟨v, lo, hi⟩ := fun i n e => by
    by_cases q : i < R.length
    · rw [List.getElem?_append_left q] at e; exact .inl e
    · rw [List.getElem?_append_right (by omega)] at e
      obtain ⟨z, e2⟩ := List.getElem?_eq_some_iff.1 e
      simp at z
      have q2 : i = R.length := by omega
      subst q2
      simp at e2
      exact .inr ⟨rfl, e2.symm⟩
  refine ⟨bd_get_app h.no, bd_get_app h.yes, ?_, ?_, ?_, ?_, ?_, ?_, ?_⟩
  · intro i n e hi2
    rcases cases i n e with e | ⟨rfl, rfl⟩
    · exact h.low i n e hi2
    · exact hv
  · intro i n e hi2
    rcases cases i n e with e | ⟨rfl, rfl⟩
    · exact h.ne i n e hi2
    · exact hne
  · intro i n e hi2
    rcases cases i n e with e | ⟨rfl, rfl⟩
    · exact h.lo i n e hi2
    · exact hl
  · intro i n e hi2
    rcases cases i n e with e | ⟨rfl, rfl⟩
    · exact h.hi i n e hi2
    · exact hh
  · intro i n e hi2
    rcases cases i n e with e | ⟨rfl, rfl⟩
    · have := (List.getElem?_eq_some_iff.1 e).1
      have := h.lo i n e hi2
      rw [bdV_app _ (by omega)]
      exact h.vlo i n e hi2
    · show v < bdV _ lo; rw [bdV_app _ hl]; exact vl
  · intro i n e hi2
    rcases cases i n e with e | ⟨rfl, rfl⟩
    · have := (List.getElem?_eq_some_iff.1 e).1
      have := h.hi i n e hi2
      rw [bdV_app _ (by omega)]
      exact h.vhi i n e hi2
    · show v < bdV _ hi; rw [bdV_app _ hh]; exact vh
  · intro i j n ei ej
    rcases cases i n ei with ei | ⟨rfl, e1⟩ <;> rcases cases j n ej with ej | ⟨rfl, e2⟩
    · exact h.once i j n ei ej
    · subst e2; exact absurd ei (hnew i)
    · subst e1; exact absurd ej (hnew j)
    · rfl
theorem bdNode_goes (cap : Nat) {R : List Bd} (h : BdOk R) {v lo hi : Nat} (hv : v < 64) (hl : lo < R.length) (hh : hi < R.length) (vl : v < bdV R lo) (vh : v < bdV R hi) :
    BdGoes R v (bdNode cap R v lo hi) (fun bits => if bits v then bdEv R bits hi else bdEv R bits lo) := by
  have h2 := h.two
  unfold bdNode
  split
  · next q =>
    subst q
    exact ⟨h, ⟨[], by simp⟩, fun n e => by cases e; exact hl, fun n e => by cases e; exact Nat.le_of_lt vl, fun n e bits => by cases e; cases bits v <;> rfl⟩
  · next q =>
    split
    · next i hi' =>
      have e := bdFind_some hi'
      refine ⟨h, ⟨[], by simp⟩, fun n e' => by cases e'; exact (List.getElem?_eq_some_iff.1 e).1, fun n e' => by cases e'; rw [bdV_at e]; exact Nat.le_refl _, fun n e' bits => ?_⟩
      cases e'
      have hi2 : 2 ≤ i := by
        match i with
        | 0 => rw [h.no] at e; have := Option.some.inj e; injection this with p1 p2 p3; omega
        | 1 => rw [h.yes] at e; have := Option.some.inj e; injection this with p1 p2 p3; omega
        | i + 2 => omega
      exact bdEv_node h bits e hi2
    · next hn =>
      split
      · exact ⟨h, ⟨[], by simp⟩, fun n e => (by cases e), fun n e => (by cases e), fun n e => (by cases e)⟩
      · have ok := bdOk_snoc h hv hl hh vl vh q (bdFind_none hn)
        have e : (R ++ [(⟨v, lo, hi⟩ : Bd)])[R.length]? = some ⟨v, lo, hi⟩ := by simp
        refine ⟨ok, ⟨_, rfl⟩, fun n e' => by cases e'; simp, fun n e' => by cases e'; rw [bdV_at e]; exact Nat.le_refl _, fun n e' bits => ?_⟩
        cases e'
        rw [bdEv_node ok bits e h2]
        show (if bits v then bdEv _ bits hi else bdEv _ bits lo) = _
        rw [bdEv_app _ bits hl, bdEv_app _ bits hh]
theorem bdTop_le {R : List Bd} (h : BdOk R) (c a b : Nat) : bdTop R c a b ≤ 64 := by
  have := bdV_le h c
  unfold bdTop
  omega
theorem bdTop_app {R : List Bd} (S : List Bd) {c a b : Nat} (hc : c < R.length) (ha : a < R.length) (hb : b < R.length) : bdTop (R ++ S) c a b = bdTop R c a b := by
  unfold bdTop
  rw [bdV_app S hc, bdV_app S ha, bdV_app S hb]
/-- Where none of the ends is met the least variable is one. -/
theorem bdTop_lt {R : List Bd} (h : BdOk R) {c a b : Nat} (hc : c < R.length) (h1 : c ≠ 1) (h0 : c ≠ 0) : bdTop R c a b < 64 := by
  by_cases q : 64 ≤ bdV R c
  · rcases bdV_end h hc q with e | e
    · exact absurd e h0
    · exact absurd e h1
  · unfold bdTop; omega
theorem bdTop_half {R : List Bd} (h : BdOk R) {c a b : Nat} (hc : c < R.length) (ha : a < R.length) (hb : b < R.length) (ht : bdTop R c a b < 64) (on : Bool) :
    bdTop R c a b < bdTop R (bdHalf R c (bdTop R c a b) on) (bdHalf R a (bdTop R c a b) on) (bdHalf R b (bdTop R c a b) on) := by
  have h1 := bdHalf_v h hc (v := bdTop R c a b) (by unfold bdTop; omega) ht on
  have h2 := bdHalf_v h ha (v := bdTop R c a b) (by unfold bdTop; omega) ht on
  have h3 := bdHalf_v h hb (v := bdTop R c a b) (by unfold bdTop; omega) ht on
  revert h1 h2 h3
  generalize bdTop R c a b = t
  intro h1 h2 h3
  unfold bdTop
  omega
/-- One more round of Ite, where no end is met. -/
theorem bdIte_succ (cap f : Nat) (R : List Bd) (c a b : Nat) (h1 : ¬ (c = 1 ∨ a = b)) (h2 : c ≠ 0) (h3 : ¬ (a = 1 ∧ b = 0)) : bdIte cap (f + 1) R c a b =
    match bdIte cap f R (bdHalf R c (bdTop R c a b) false) (bdHalf R a (bdTop R c a b) false) (bdHalf R b (bdTop R c a b) false) with
    | (R1, none) => (R1, none)
    | (R1, some lo) =>
      match bdIte cap f R1 (bdHalf R1 c (bdTop R c a b) true) (bdHalf R1 a (bdTop R c a b) true) (bdHalf R1 b (bdTop R c a b) true) with
      | (R2, none) => (R2, none)
      | (R2, some hi) => bdNode cap R2 (bdTop R c a b) lo hi := by
  rw [bdIte, if_neg h1, if_neg h2, if_neg h3]
theorem bdIte_goes (cap : Nat) : ∀ (f : Nat) (R : List Bd) (c a b : Nat), BdOk R → c < R.length → a < R.length → b < R.length → 65 ≤ f + bdTop R c a b →
    BdGoes R (bdTop R c a b) (bdIte cap f R c a b) (fun bits => if bdEv R bits c then bdEv R bits a else bdEv R bits b) := by
  intro f
  induction f with
  | zero => intro R c a b h _ _ _ hf; have := bdTop_le h c a b; omega
  | succ f ih =>
    intro R c a b h hc ha hb hf
    have ends : ∀ n, n < R.length → bdTop R c a b ≤ bdV R n → (∀ bits, bdEv R bits n = if bdEv R bits c then bdEv R bits a else bdEv R bits b) → BdGoes R (bdTop R c a b) (R, some n) (fun bits => if bdEv R bits c then bdEv R bits a else bdEv R bits b) := fun n hn ht hv =>
      ⟨h, ⟨[], by simp⟩, fun m e => by cases e; exact hn, fun m e => by cases e; exact ht, fun m e bits => by cases e; exact hv bits⟩
    by_cases h1 : c = 1 ∨ a = b
    · rw [bdIte, if_pos h1]
      refine ends a ha (by unfold bdTop; omega) fun bits => ?_
      rcases h1 with rfl | rfl
      · rw [bdEv_yes h]; rfl
      · split <;> rfl
    by_cases h2 : c = 0
    · rw [bdIte, if_neg h1, if_pos h2]
      refine ends b hb (by unfold bdTop; omega) fun bits => ?_
      subst h2
      rw [bdEv_no h]; rfl
    by_cases h3 : a = 1 ∧ b = 0
    · rw [bdIte, if_neg h1, if_neg h2, if_pos h3]
      refine ends c hc (by unfold bdTop; omega) fun bits => ?_
      obtain ⟨rfl, rfl⟩ := h3
      rw [bdEv_no h, bdEv_yes h]; cases bdEv R bits c <;> rfl
    rw [bdIte_succ cap f R c a b h1 h2 h3]
    have ht : bdTop R c a b < 64 := bdTop_lt h hc (fun e => h1 (.inl e)) h2
    have k0 := bdTop_half h hc ha hb ht false
    have k1 := bdTop_half h hc ha hb ht true
    have g0 := ih R _ _ _ h (bdHalf_lt h hc (bdTop R c a b) false) (bdHalf_lt h ha (bdTop R c a b) false) (bdHalf_lt h hb (bdTop R c a b) false) (by omega)
    have hv := fun bits => bdEv_half h bits (v := bdTop R c a b) hc
    have hva := fun bits => bdEv_half h bits (v := bdTop R c a b) ha
    have hvb := fun bits => bdEv_half h bits (v := bdTop R c a b) hb
    generalize bdTop R c a b = t at ht k0 k1 g0 hv hva hvb hf ⊢
    generalize bdIte cap f R (bdHalf R c t false) (bdHalf R a t false) (bdHalf R b t false) = r1 at g0 ⊢
    obtain ⟨R1, o1⟩ := r1
    obtain ⟨ok1, ⟨S1, e1⟩, lt1, top1, val1⟩ := g0
    cases o1 with
    | none => exact ⟨ok1, ⟨S1, e1⟩, fun n e => (by cases e), fun n e => (by cases e), fun n e => (by cases e)⟩
    | some lo =>
      have lt1 := lt1 lo rfl
      have top1 := top1 lo rfl
      have val1 := val1 lo rfl
      simp only at ok1 e1 lt1 top1 val1
      have hlen : R.length ≤ R1.length := by rw [e1]; simp
      simp only
      have q1 : ∀ x, x < R.length → bdHalf R1 x t true = bdHalf R x t true := fun x hx => by rw [e1]; exact bdHalf_app S1 hx t true
      rw [q1 c hc, q1 a ha, q1 b hb]
      have hcl := bdHalf_lt h hc t true
      have hal := bdHalf_lt h ha t true
      have hbl := bdHalf_lt h hb t true
      have tt : bdTop R1 (bdHalf R c t true) (bdHalf R a t true) (bdHalf R b t true) = bdTop R (bdHalf R c t true) (bdHalf R a t true) (bdHalf R b t true) := by rw [e1]; exact bdTop_app S1 hcl hal hbl
      have g1 := ih R1 (bdHalf R c t true) (bdHalf R a t true) (bdHalf R b t true) ok1 (by omega) (by omega) (by omega) (by rw [tt]; omega)
      rw [tt] at g1
      generalize bdIte cap f R1 (bdHalf R c t true) (bdHalf R a t true) (bdHalf R b t true) = r2 at g1 ⊢
      obtain ⟨R2, o2⟩ := r2
      obtain ⟨ok2, ⟨S2, e2⟩, lt2, top2, val2⟩ := g1
      cases o2 with
      | none => exact ⟨ok2, ⟨S1 ++ S2, by simp only at e2; simp [e2, e1]⟩, fun n e => (by cases e), fun n e => (by cases e), fun n e => (by cases e)⟩
      | some hi =>
        have lt2 := lt2 hi rfl
        have top2 := top2 hi rfl
        have val2 := val2 hi rfl
        simp only at ok2 e2 lt2 top2 val2
        have hlen2 : R1.length ≤ R2.length := by rw [e2]; simp
        simp only
        have vl : bdV R2 lo = bdV R1 lo := by rw [e2]; exact bdV_app S2 lt1
        have g2 := bdNode_goes cap ok2 ht (show lo < R2.length by omega) lt2 (by rw [vl]; omega) (by omega)
        obtain ⟨ok3, ⟨S3, e3⟩, lt3, top3, val3⟩ := g2
        refine ⟨ok3, ⟨S1 ++ (S2 ++ S3), by rw [e3, e2, e1]; simp⟩, lt3, top3, fun n e bits => ?_⟩
        rw [val3 n e bits]
        have w1 : bdEv R2 bits lo = bdEv R1 bits lo := by rw [e2]; exact bdEv_app S2 bits lt1
        have w2 : ∀ x, x < R.length → bdEv R1 bits x = bdEv R bits x := fun x hx => by rw [e1]; exact bdEv_app S1 bits hx
        rw [w1, val1 bits, val2 bits, w2 _ hcl, w2 _ hal, w2 _ hbl, hv bits, hva bits, hvb bits]
        cases bits t <;> rfl
/-! ### Made again, or of more rows -/
theorem bdNode_pre (cap : Nat) (R : List Bd) (v lo hi : Nat) : ∃ S, (bdNode cap R v lo hi).1 = R ++ S := by
  unfold bdNode
  split
  · exact ⟨[], by simp⟩
  · split
    · exact ⟨[], by simp⟩
    · split
      · exact ⟨[], by simp⟩
      · exact ⟨_, rfl⟩
theorem bdNode_again {cap : Nat} {R R' : List Bd} {v lo hi n : Nat} (ok : BdOk R') (h : bdNode cap R v lo hi = (R', some n)) (S : List Bd) (ok' : BdOk (R' ++ S)) (cap' : Nat) : bdNode cap' (R' ++ S) v lo hi = (R' ++ S, some n) := by
  unfold bdNode at h ⊢
  split at h
  · next q => rw [if_pos q]; obtain ⟨-, h⟩ := Prod.mk.inj h; exact congrArg _ h
  · next q =>
    rw [if_neg q]
    have key : R'[n]? = some ⟨v, lo, hi⟩ := by
      split at h
      · next i hi' => obtain ⟨h1, h2⟩ := Prod.mk.inj h; cases h2; subst h1; exact bdFind_some hi'
      · split at h
        · cases (Prod.mk.inj h).2
        · obtain ⟨h1, h2⟩ := Prod.mk.inj h; cases h2; subst h1; simp
    rw [bdFind_of ok' (bd_get_app key)]
theorem bdIte_pre (cap : Nat) : ∀ (f : Nat) (R : List Bd) (c a b : Nat), ∃ S, (bdIte cap f R c a b).1 = R ++ S := by
  intro f
  induction f with
  | zero => intro R c a b; exact ⟨[], by simp [bdIte]⟩
  | succ f ih =>
    intro R c a b
    by_cases h1 : c = 1 ∨ a = b
    · rw [bdIte, if_pos h1]; exact ⟨[], by simp⟩
    by_cases h2 : c = 0
    · rw [bdIte, if_neg h1, if_pos h2]; exact ⟨[], by simp⟩
    by_cases h3 : a = 1 ∧ b = 0
    · rw [bdIte, if_neg h1, if_neg h2, if_pos h3]; exact ⟨[], by simp⟩
    rw [bdIte_succ cap f R c a b h1 h2 h3]
    generalize bdTop R c a b = t
    obtain ⟨S1, e1⟩ := ih R (bdHalf R c t false) (bdHalf R a t false) (bdHalf R b t false)
    generalize bdIte cap f R (bdHalf R c t false) (bdHalf R a t false) (bdHalf R b t false) = r1 at e1 ⊢
    obtain ⟨R1, o1⟩ := r1
    cases o1 with
    | none => exact ⟨S1, e1⟩
    | some lo =>
      simp only at e1 ⊢
      obtain ⟨S2, e2⟩ := ih R1 (bdHalf R1 c t true) (bdHalf R1 a t true) (bdHalf R1 b t true)
      generalize bdIte cap f R1 (bdHalf R1 c t true) (bdHalf R1 a t true) (bdHalf R1 b t true) = r2 at e2 ⊢
      obtain ⟨R2, o2⟩ := r2
      cases o2 with
      | none => exact ⟨S1 ++ S2, by simp only at e2; simp [e2, e1]⟩
      | some hi =>
        obtain ⟨S3, e3⟩ := bdNode_pre cap R2 t lo hi
        exact ⟨S1 ++ (S2 ++ S3), by simp only at e2 ⊢; rw [e3, e2, e1]; simp⟩
/-- What was made, made again of the rows behind it, or of more, is the same, and makes none. -/
theorem bdIte_again (cap cap' : Nat) : ∀ (f : Nat) (R : List Bd) (c a b : Nat) (R' : List Bd) (n : Nat) (S : List Bd), BdOk R → c < R.length → a < R.length → b < R.length → 65 ≤ f + bdTop R c a b → bdIte cap f R c a b = (R', some n) → BdOk (R' ++ S) →
    bdIte cap' f (R' ++ S) c a b = (R' ++ S, some n) := by
  intro f
  induction f with
  | zero => intro R c a b R' n S _ _ _ _ _ h; cases (Prod.mk.inj h).2
  | succ f ih =>
    intro R c a b R' n S ok hc ha hb hf h ok'
    by_cases h1 : c = 1 ∨ a = b
    · rw [bdIte, if_pos h1] at h ⊢; obtain ⟨-, h⟩ := Prod.mk.inj h; rw [h]
    by_cases h2 : c = 0
    · rw [bdIte, if_neg h1, if_pos h2] at h ⊢; obtain ⟨-, h⟩ := Prod.mk.inj h; rw [h]
    by_cases h3 : a = 1 ∧ b = 0
    · rw [bdIte, if_neg h1, if_neg h2, if_pos h3] at h ⊢; obtain ⟨-, h⟩ := Prod.mk.inj h; rw [h]
    rw [bdIte_succ _ f _ c a b h1 h2 h3] at h ⊢
    have ht : bdTop R c a b < 64 := bdTop_lt ok hc (fun e => h1 (.inl e)) h2
    have k0 := bdTop_half ok hc ha hb ht false
    have k1 := bdTop_half ok hc ha hb ht true
    have gtop : ∃ Z, R' ++ S = R ++ Z := by
      obtain ⟨Z, hZ⟩ := bdIte_pre cap (f + 1) R c a b
      rw [bdIte_succ cap f R c a b h1 h2 h3, h] at hZ
      exact ⟨Z ++ S, by simp only at hZ; rw [hZ]; simp⟩
    obtain ⟨Z, hZ⟩ := gtop
    have ett : bdTop (R' ++ S) c a b = bdTop R c a b := by rw [hZ]; exact bdTop_app Z hc ha hb
    rw [ett]
    have q0 : ∀ x (on : Bool), x < R.length → bdHalf (R' ++ S) x (bdTop R c a b) on = bdHalf R x (bdTop R c a b) on := fun x on hx => by rw [hZ]; exact bdHalf_app Z hx _ on
    rw [q0 c false hc, q0 a false ha, q0 b false hb]
    have hcl := fun on => bdHalf_lt ok hc (bdTop R c a b) on
    have hal := fun on => bdHalf_lt ok ha (bdTop R c a b) on
    have hbl := fun on => bdHalf_lt ok hb (bdTop R c a b) on
    generalize bdTop R c a b = t at *
    have G0 := bdIte_goes cap f R (bdHalf R c t false) (bdHalf R a t false) (bdHalf R b t false) ok (hcl _) (hal _) (hbl _) (by omega)
    have I0 := ih R (bdHalf R c t false) (bdHalf R a t false) (bdHalf R b t false)
    generalize bdIte cap f R (bdHalf R c t false) (bdHalf R a t false) (bdHalf R b t false) = r1 at G0 h I0
    obtain ⟨R1, o1⟩ := r1
    cases o1 with
    | none => cases (Prod.mk.inj h).2
    | some lo =>
      simp only at h
      obtain ⟨ok1, ⟨S1, e1⟩, lt1, top1, _⟩ := G0
      simp only at ok1 e1 lt1 top1
      have lt1 := lt1 lo rfl
      have top1 := top1 lo rfl
      have hlen : R.length ≤ R1.length := by rw [e1]; simp
      have q1 : ∀ x, x < R.length → bdHalf R1 x t true = bdHalf R x t true := fun x hx => by rw [e1]; exact bdHalf_app S1 hx t true
      rw [q1 c hc, q1 a ha, q1 b hb] at h
      have tt : bdTop R1 (bdHalf R c t true) (bdHalf R a t true) (bdHalf R b t true) = bdTop R (bdHalf R c t true) (bdHalf R a t true) (bdHalf R b t true) := by rw [e1]; exact bdTop_app S1 (hcl _) (hal _) (hbl _)
      have G1 := bdIte_goes cap f R1 (bdHalf R c t true) (bdHalf R a t true) (bdHalf R b t true) ok1 (by have := hcl true; omega) (by have := hal true; omega) (by have := hbl true; omega) (by rw [tt]; omega)
      have I1 := ih R1 (bdHalf R c t true) (bdHalf R a t true) (bdHalf R b t true)
      rw [tt] at I1
      generalize bdIte cap f R1 (bdHalf R c t true) (bdHalf R a t true) (bdHalf R b t true) = r2 at G1 h I1
      obtain ⟨R2, o2⟩ := r2
      cases o2 with
      | none => cases (Prod.mk.inj h).2
      | some hi =>
        simp only at h
        obtain ⟨ok2, ⟨S2, e2⟩, lt2, top2, _⟩ := G1
        simp only at ok2 e2 lt2 top2
        have top2 := top2 hi rfl
        obtain ⟨S3, e3⟩ := bdNode_pre cap R2 t lo hi
        have e3' : R' = R2 ++ S3 := by rw [h] at e3; exact e3
        have ok3 : BdOk R' := by
          have vl : bdV R2 lo = bdV R1 lo := by rw [e2]; exact bdV_app S2 lt1
          have g := (bdNode_goes cap ok2 ht (lo := lo) (hi := hi) (by rw [e2]; simp; omega) (lt2 hi rfl) (by rw [vl]; omega) (by omega)).ok
          rw [h] at g
          exact g
        have s1 : R' ++ S = R1 ++ (S2 ++ S3 ++ S) := by rw [e3', e2]; simp
        have s2 : R' ++ S = R2 ++ (S3 ++ S) := by rw [e3']; simp
        have r1 := I0 R1 lo (S2 ++ S3 ++ S) ok (hcl _) (hal _) (hbl _) (by omega) rfl (s1 ▸ ok')
        rw [← s1] at r1
        rw [r1]
        simp only
        rw [q0 c true hc, q0 a true ha, q0 b true hb]
        have r2 := I1 R2 hi (S3 ++ S) ok1 (by have := hcl true; omega) (by have := hal true; omega) (by have := hbl true; omega) (by omega) rfl (s2 ▸ ok')
        rw [← s2] at r2
        rw [r2]
        simp only
        exact bdNode_again ok3 h S ok' cap'
end Go.Proofs.Ytfphilgdikanfaa
