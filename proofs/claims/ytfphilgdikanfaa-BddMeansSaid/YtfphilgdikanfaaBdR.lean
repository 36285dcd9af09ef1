/-
  WHAT IS PROVED HERE: plain: what the calls of the law BddMeans make of a store, and what they mean by truths alone: they are the same; two diagrams are the same just if they mean the same under all bits of six variables.
-/
import Derived.Test.YtfphilgdikanfaaBdC
namespace Go.Proofs.Ytfphilgdikanfaa
/-- A call of the law: its kind, three numbers, a truth. -/
structure BOp where
  k : Int
  a : Int
  b : Int
  c : Int
  on : Bool
/-- What was told so far back; d, if there is none. -/
def opAt {α : Type} (d : α) (all : List α) (i : Int) : α := if i < 0 ∨ all.length = 0 then d else all.getD (all.length - 1 - i.toNat % all.length) d
def underOne (f : Nat → Bool) (all : List Bool) (o : BOp) : Bool :=
  if o.k = 1 then (decide (0 ≤ o.a) && decide (o.a < 6)) && f o.a.toNat
  else if o.k = 2 then (opAt false all o.a && opAt false all o.b) || (!opAt false all o.a && opAt false all o.c)
  else if o.k = 3 then !opAt false all o.a
  else if o.k = 4 then opAt false all o.a && opAt false all o.b
  else if o.k = 5 then opAt false all o.a || opAt false all o.b
  else if o.k = 6 then opAt false all o.a != opAt false all o.b
  else false
def underF (f : Nat → Bool) (l : List BOp) : List Bool := l.foldl (fun acc o => acc ++ [underOne f acc o]) []
def bdVarN (cap : Nat) (R : List Bd) (v : Int) : List Bd × Option Nat := if v < 0 ∨ 64 ≤ v then (R, some 0) else bdNode cap R v.toNat 0 1
/-- Xor: Not of b is made first. -/
def bdXorN (cap : Nat) (R : List Bd) (a b : Nat) : List Bd × Option Nat := match bdI cap R b 0 1 with | (R1, none) => (R1, none) | (R1, some n) => bdI cap R1 a n b
theorem bdXorN_of {cap : Nat} {R R1 : List Bd} {a b n : Nat} (h : bdI cap R b 0 1 = (R1, some n)) : bdXorN cap R a b = bdI cap R1 a n b := by unfold bdXorN; rw [h]
/-- A call of the law, of a store that is not full. -/
def doesOne (cap : Nat) (R : List Bd) (all : List Nat) (o : BOp) : List Bd × Option Nat :=
  if o.k = 1 then (if 5 < o.a then (R, some 0) else bdVarN cap R o.a)
  else if o.k = 2 then bdI cap R (opAt 0 all o.a) (opAt 0 all o.b) (opAt 0 all o.c)
  else if o.k = 3 then bdI cap R (opAt 0 all o.a) 0 1
  else if o.k = 4 then bdI cap R (opAt 0 all o.a) (opAt 0 all o.b) 0
  else if o.k = 5 then bdI cap R (opAt 0 all o.a) 1 (opAt 0 all o.b)
  else if o.k = 6 then bdXorN cap R (opAt 0 all o.a) (opAt 0 all o.b)
  else (R, some 0)
theorem opAt_map {α β : Type} (g : α → β) (d : α) (all : List α) (i : Int) : opAt (g d) (all.map g) i = g (opAt d all i) := by
  unfold opAt
  rw [List.length_map]
  split
  · rfl
  · rw [List.getD_eq_getElem?_getD, List.getD_eq_getElem?_getD, List.getElem?_map]
    cases all[all.length - 1 - i.toNat % all.length]? <;> rfl
theorem opAt_mem {α : Type} (d : α) (all : List α) (i : Int) : opAt d all i = d ∨ opAt d all i ∈ all := by
  unfold opAt
  split
  · exact .inl rfl
  · rw [List.getD_eq_getElem?_getD]
    cases e : all[all.length - 1 - i.toNat % all.length]? with
    | none => exact .inl rfl
    | some x => exact .inr (List.mem_of_getElem? e)
theorem underF_snoc (f : Nat → Bool) (l : List BOp) (o : BOp) : underF f (l ++ [o]) = underF f l ++ [underOne f (underF f l) o] := by unfold underF; rw [List.foldl_append]; rfl
theorem underF_take (f : Nat → Bool) (l : List BOp) (j : Nat) (o : BOp) (h : l[j]? = some o) : underF f (l.take (j + 1)) = underF f (l.take j) ++ [underOne f (underF f (l.take j)) o] := by
  rw [List.take_add_one, h, Option.toList_some, underF_snoc]
theorem underF_len (f : Nat → Bool) (l : List BOp) : (underF f l).length = l.length := by
  have key : ∀ (l : List BOp) (acc : List Bool), (l.foldl (fun acc o => acc ++ [underOne f acc o]) acc).length = acc.length + l.length := by
    intro l
    induction l with
    | nil => intro acc; rfl
    | cons o l ih => intro acc; rw [List.foldl_cons, ih]; simp; omega
  have := key l []
  rw [List.length_nil, Nat.zero_add] at this
  exact this
/-- The store behind j calls. -/
structure BdJ (cap : Nat) (l : List BOp) (j : Nat) (R : List Bd) (all : List Nat) : Prop where
  ok : BdOk R
  low : BdLow 6 R
  len : all.length = j
  size : R.length ≤ 2 + 126 * j
  lt : ∀ x ∈ all, x < R.length
  val : ∀ f, all.map (bdEv R f) = underF f (l.take j)
theorem bdJ_start (cap : Nat) (l : List BOp) : BdJ cap l 0 bd0 [] :=
  ⟨bdOk_0, fun i n h h2 => (by
    match i with
    | 0 => omega
    | 1 => omega
    | i + 2 => simp [bd0] at h), rfl, by simp [bd0], fun x hx => (by cases hx), fun f => rfl⟩
theorem pow6 (t : Nat) : 2 ^ (6 - t) - 1 ≤ 63 := by
  have : 2 ^ (6 - t) ≤ 2 ^ 6 := Nat.pow_le_pow_right (by omega) (by omega)
  omega
theorem bdI_one {cap : Nat} {R : List Bd} {c a b : Nat} (ok : BdOk R) (low : BdLow 6 R) (hc : c < R.length) (ha : a < R.length) (hb : b < R.length) (hr : R.length + 63 ≤ cap + 2) :
    ∃ R' n S, bdI cap R c a b = (R', some n) ∧ BdOk R' ∧ BdLow 6 R' ∧ R' = R ++ S ∧ n < R'.length ∧ R'.length ≤ R.length + 63 ∧ ∀ f, bdEv R' f n = if bdEv R f c then bdEv R f a else bdEv R f b := by
  have G := bdI_goes cap ok hc ha hb
  have L := bdIte_low cap 6 65 R c a b ok low hc ha hb (by omega)
  have hp := pow6 (bdTop R c a b)
  have L' : BdLow 6 (bdI cap R c a b).1 ∧ (bdI cap R c a b).1.length ≤ R.length + (2 ^ (6 - bdTop R c a b) - 1) ∧ (R.length + (2 ^ (6 - bdTop R c a b) - 1) ≤ cap + 2 → (bdI cap R c a b).2 ≠ none) := L
  generalize bdI cap R c a b = r at G L' ⊢
  obtain ⟨R', o⟩ := r
  cases o with
  | none => exact absurd rfl (L'.2.2 (by omega))
  | some n =>
    obtain ⟨S, hS⟩ := G.pre
    exact ⟨R', n, S, rfl, G.ok, L'.1, hS, G.lt n rfl, by have := L'.2.1; simp only at this; omega, G.val n rfl⟩
theorem bdVar_one {cap : Nat} {R : List Bd} {v : Nat} (ok : BdOk R) (low : BdLow 6 R) (hv : v < 6) (hr : R.length + 1 ≤ cap + 2) :
    ∃ R' n S, bdNode cap R v 0 1 = (R', some n) ∧ BdOk R' ∧ BdLow 6 R' ∧ R' = R ++ S ∧ n < R'.length ∧ R'.length ≤ R.length + 1 ∧ ∀ f, bdEv R' f n = f v := by
  have h2 := ok.two
  have G := bdNode_goes cap ok (v := v) (lo := 0) (hi := 1) (by omega) (by omega) (by omega) (by rw [bdV_at ok.no]; simp only; omega) (by rw [bdV_at ok.yes]; simp only; omega)
  have L := bdNode_low (cap := cap) (lo := 0) (hi := 1) low hv
  generalize bdNode cap R v 0 1 = r at G L ⊢
  obtain ⟨R', o⟩ := r
  cases o with
  | none => exact absurd rfl (L.2.2 (by omega))
  | some n =>
    obtain ⟨S, hS⟩ := G.pre
    refine ⟨R', n, S, rfl, G.ok, L.1, hS, G.lt n rfl, L.2.1, fun f => ?_⟩
    rw [G.val n rfl f, bdEv_no ok, bdEv_yes ok]
    cases f v <;> rfl
/-- One call more. -/
theorem bdJ_step {l : List BOp} {j : Nat} {R : List Bd} {all : List Nat} {o : BOp} (h : BdJ 1048576 l j R all) (ho : l[j]? = some o) (hj : j < 30) :
    ∃ R' n, doesOne 1048576 R all o = (R', some n) ∧ BdJ 1048576 l (j + 1) R' (all ++ [n]) := by
  have h2 := h.ok.two
  have hsz := h.size
  have at_lt : ∀ i, opAt 0 all i < R.length := fun i => by
    rcases opAt_mem 0 all i with e | e
    · rw [e]; omega
    · exact h.lt _ e
  have at_val : ∀ f i, bdEv R f (opAt 0 all i) = opAt false (underF f (l.take j)) i := fun f i => by
    rw [← h.val f, ← opAt_map (bdEv R f) 0 all i, bdEv_no h.ok]
  have fin : ∀ (R' : List Bd) (n : Nat) (S : List Bd), BdOk R' → BdLow 6 R' → R' = R ++ S → n < R'.length → R'.length ≤ R.length + 126 → (∀ f, bdEv R' f n = underOne f (underF f (l.take j)) o) → BdJ 1048576 l (j + 1) R' (all ++ [n]) := fun R' n S ok' low' e hn hs hv => by
    refine ⟨ok', low', by simp [h.len], by omega, fun x hx => ?_, fun f => ?_⟩
    · rcases List.mem_append.1 hx with hx | hx
      · have := h.lt x hx
        rw [e]; simp; omega
      · simp at hx; rw [hx]; exact hn
    · rw [underF_take f l j o ho, List.map_append, List.map_singleton, hv f, ← h.val f]
      congr 1
      refine List.map_congr_left fun x hx => ?_
      rw [e]
      exact bdEv_app S f (h.lt x hx)
  unfold doesOne
  by_cases k1 : o.k = 1
  · rw [if_pos k1]
    have u1 : ∀ f acc, underOne f acc o = ((decide (0 ≤ o.a) && decide (o.a < 6)) && f o.a.toNat) := fun f acc => by unfold underOne; rw [if_pos k1]
    by_cases q1 : 5 < o.a
    · rw [if_pos q1]
      refine ⟨R, 0, rfl, fin R 0 [] h.ok h.low (by simp) (by omega) (by omega) fun f => ?_⟩
      rw [u1, bdEv_no h.ok, decide_eq_false (show ¬ o.a < 6 by omega)]; simp
    · rw [if_neg q1]
      unfold bdVarN
      by_cases q2 : o.a < 0
      · rw [if_pos (.inl q2)]
        refine ⟨R, 0, rfl, fin R 0 [] h.ok h.low (by simp) (by omega) (by omega) fun f => ?_⟩
        rw [u1, bdEv_no h.ok, decide_eq_false (show ¬ 0 ≤ o.a by omega)]; simp
      · rw [if_neg (fun z => z.elim q2 (by omega))]
        obtain ⟨R', n, S, e, ok', low', hS, hn, hs, hv⟩ := bdVar_one (cap := 1048576) (v := o.a.toNat) h.ok h.low (by omega) (by omega)
        refine ⟨R', n, e, fin R' n S ok' low' hS hn (by omega) fun f => ?_⟩
        rw [u1, hv f, decide_eq_true (show 0 ≤ o.a by omega), decide_eq_true (show o.a < 6 by omega)]; simp
  rw [if_neg k1]
  by_cases k2 : o.k = 2
  · rw [if_pos k2]
    obtain ⟨R', n, S, e, ok', low', hS, hn, hs, hv⟩ := bdI_one (cap := 1048576) h.ok h.low (at_lt o.a) (at_lt o.b) (at_lt o.c) (by omega)
    refine ⟨R', n, e, fin R' n S ok' low' hS hn (by omega) fun f => ?_⟩
    rw [hv f, at_val, at_val, at_val]
    unfold underOne
    rw [if_neg k1, if_pos k2]
    cases opAt false (underF f (l.take j)) o.a <;> simp
  rw [if_neg k2]
  by_cases k3 : o.k = 3
  · rw [if_pos k3]
    obtain ⟨R', n, S, e, ok', low', hS, hn, hs, hv⟩ := bdI_one (cap := 1048576) h.ok h.low (at_lt o.a) (show 0 < R.length by omega) (show 1 < R.length by omega) (by omega)
    refine ⟨R', n, e, fin R' n S ok' low' hS hn (by omega) fun f => ?_⟩
    rw [hv f, at_val, bdEv_no h.ok, bdEv_yes h.ok]
    unfold underOne
    rw [if_neg k1, if_neg k2, if_pos k3]
    cases opAt false (underF f (l.take j)) o.a <;> simp
  rw [if_neg k3]
  by_cases k4 : o.k = 4
  · rw [if_pos k4]
    obtain ⟨R', n, S, e, ok', low', hS, hn, hs, hv⟩ := bdI_one (cap := 1048576) h.ok h.low (at_lt o.a) (at_lt o.b) (show 0 < R.length by omega) (by omega)
    refine ⟨R', n, e, fin R' n S ok' low' hS hn (by omega) fun f => ?_⟩
    rw [hv f, at_val, at_val, bdEv_no h.ok]
    unfold underOne
    rw [if_neg k1, if_neg k2, if_neg k3, if_pos k4]
    cases opAt false (underF f (l.take j)) o.a <;> simp
  rw [if_neg k4]
  by_cases k5 : o.k = 5
  · rw [if_pos k5]
    obtain ⟨R', n, S, e, ok', low', hS, hn, hs, hv⟩ := bdI_one (cap := 1048576) h.ok h.low (at_lt o.a) (show 1 < R.length by omega) (at_lt o.b) (by omega)
    refine ⟨R', n, e, fin R' n S ok' low' hS hn (by omega) fun f => ?_⟩
    rw [hv f, at_val, at_val, bdEv_yes h.ok]
    unfold underOne
    rw [if_neg k1, if_neg k2, if_neg k3, if_neg k4, if_pos k5]
    cases opAt false (underF f (l.take j)) o.a <;> simp
  rw [if_neg k5]
  by_cases k6 : o.k = 6
  · rw [if_pos k6]
    obtain ⟨R1, n1, S1, e1, ok1, low1, hS1, hn1, hs1, hv1⟩ := bdI_one (cap := 1048576) h.ok h.low (at_lt o.b) (show 0 < R.length by omega) (show 1 < R.length by omega) (by omega)
    rw [bdXorN_of e1]
    have hlen : R.length ≤ R1.length := by rw [hS1]; simp
    have la := at_lt o.a
    have lb := at_lt o.b
    obtain ⟨R', n, S, e, ok', low', hS, hn, hs, hv⟩ := bdI_one (cap := 1048576) (c := opAt 0 all o.a) (a := n1) (b := opAt 0 all o.b) ok1 low1 (by omega) hn1 (by omega) (by omega)
    refine ⟨R', n, e, fin R' n (S1 ++ S) ok' low' (by rw [hS, hS1]; simp) hn (by omega) fun f => ?_⟩
    have g1 : ∀ i, bdEv R1 f (opAt 0 all i) = bdEv R f (opAt 0 all i) := fun i => by rw [hS1]; exact bdEv_app S1 f (at_lt i)
    rw [hv f, hv1 f, g1, g1, at_val, at_val, bdEv_no h.ok, bdEv_yes h.ok]
    unfold underOne
    rw [if_neg k1, if_neg k2, if_neg k3, if_neg k4, if_neg k5, if_pos k6]
    cases opAt false (underF f (l.take j)) o.a <;> cases opAt false (underF f (l.take j)) o.b <;> rfl
  · rw [if_neg k6]
    refine ⟨R, 0, rfl, fin R 0 [] h.ok h.low (by simp) (by omega) (by omega) fun f => ?_⟩
    rw [bdEv_no h.ok]
    unfold underOne
    rw [if_neg k1, if_neg k2, if_neg k3, if_neg k4, if_neg k5, if_neg k6]
/-! ### The same just if they mean the same -/
theorem bdEv_low {K : Nat} {R : List Bd} (h : BdOk R) (hK : BdLow K R) {f f' : Nat → Bool} (hf : ∀ v, v < K → f v = f' v) : ∀ (k a : Nat), a < k → a < R.length → bdEv R f a = bdEv R f' a := by
  intro k
  induction k with
  | zero => intro a ha; omega
  | succ k ih =>
    intro a hk ha
    match a with
    | 0 => rw [bdEv_no h, bdEv_no h]
    | 1 => rw [bdEv_yes h, bdEv_yes h]
    | a + 2 =>
      have e := List.getElem?_eq_getElem ha
      have h1 := h.lo _ _ e (by omega)
      have h2 := h.hi _ _ e (by omega)
      rw [bdEv_node h f e (by omega), bdEv_node h f' e (by omega), hf _ (hK _ _ e (by omega)), ih _ (by omega) (by omega), ih _ (by omega) (by omega)]
theorem six_bits (f : Nat → Bool) : ∃ b, b < 64 ∧ ∀ v, v < 6 → f v = b.testBit v := by
  have key : ∀ a0 a1 a2 a3 a4 a5 : Bool, ∃ b : Fin 64, b.val.testBit 0 = a0 ∧ b.val.testBit 1 = a1 ∧ b.val.testBit 2 = a2 ∧ b.val.testBit 3 = a3 ∧ b.val.testBit 4 = a4 ∧ b.val.testBit 5 = a5 := by
    intro a0 a1 a2 a3 a4 a5
    cases a0 <;> cases a1 <;> cases a2 <;> cases a3 <;> cases a4 <;> cases a5 <;> decide +kernel
  obtain ⟨b, h0, h1, h2, h3, h4, h5⟩ := key (f 0) (f 1) (f 2) (f 3) (f 4) (f 5)
  refine ⟨b.val, b.isLt, fun v hv => ?_⟩
  match v with
  | 0 => exact h0.symm
  | 1 => exact h1.symm
  | 2 => exact h2.symm
  | 3 => exact h3.symm
  | 4 => exact h4.symm
  | 5 => exact h5.symm
  | v + 6 => omega
theorem bd_same_low {R : List Bd} (h : BdOk R) (hK : BdLow 6 R) {x y : Nat} (hx : x < R.length) (hy : y < R.length) (hall : ∀ b, b < 64 → bdEv R (fun v => b.testBit v) x = bdEv R (fun v => b.testBit v) y) : x = y := by
  refine bd_same h (x + y + 1) x y (by omega) (by omega) hx hy fun f => ?_
  obtain ⟨b, hb, hf⟩ := six_bits f
  rw [bdEv_low h hK hf (x + 1) x (by omega) hx, bdEv_low h hK hf (y + 1) y (by omega) hy]
  exact hall b hb
end Go.Proofs.Ytfphilgdikanfaa
