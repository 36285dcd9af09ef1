/-
  WHAT IS PROVED HERE: decision diagrams, plain: rows of nodes (the first two are false and true); what a diagram is under bits (bdEv); the node of a variable, a lo and a hi (bdNode); Ite (bdIte); two diagrams of proper rows are the same just if they are so under all bits (bd_same).
-/
namespace Go.Proofs.Ytfphilgdikanfaa
/-- A node: its variable, its lo, its hi. -/
structure Bd where
  v : Nat
  lo : Nat
  hi : Nat
  deriving DecidableEq, Inhabited
/-- False and true: their own halves, behind all variables. -/
def bd0 : List Bd := [⟨64, 0, 0⟩, ⟨64, 1, 1⟩]
def bdV (R : List Bd) (a : Nat) : Nat := match R[a]? with | some n => n.v | none => 64
def bdHalf (R : List Bd) (a v : Nat) (on : Bool) : Nat := match R[a]? with | some n => if n.v = v then (if on then n.hi else n.lo) else a | none => a
/-- Proper rows. -/
structure BdOk (R : List Bd) : Prop where
  no : R[0]? = some ⟨64, 0, 0⟩
  yes : R[1]? = some ⟨64, 1, 1⟩
  low : ∀ (i : Nat) (n : Bd), R[i]? = some n → 2 ≤ i → n.v < 64
  ne : ∀ (i : Nat) (n : Bd), R[i]? = some n → 2 ≤ i → n.lo ≠ n.hi
  lo : ∀ (i : Nat) (n : Bd), R[i]? = some n → 2 ≤ i → n.lo < i
  hi : ∀ (i : Nat) (n : Bd), R[i]? = some n → 2 ≤ i → n.hi < i
  vlo : ∀ (i : Nat) (n : Bd), R[i]? = some n → 2 ≤ i → n.v < bdV R n.lo
  vhi : ∀ (i : Nat) (n : Bd), R[i]? = some n → 2 ≤ i → n.v < bdV R n.hi
  once : ∀ (i j : Nat) (n : Bd), R[i]? = some n → R[j]? = some n → i = j
theorem bdV_at {R : List Bd} {i : Nat} {n : Bd} (h : R[i]? = some n) : bdV R i = n.v := by unfold bdV; rw [h]
theorem bd_get_app {R S : List Bd} {i : Nat} {n : Bd} (h : R[i]? = some n) : (R ++ S)[i]? = some n := by
  have := (List.getElem?_eq_some_iff.1 h).1
  rw [List.getElem?_append_left this]; exact h
theorem bdV_app {R : List Bd} (S : List Bd) {a : Nat} (h : a < R.length) : bdV (R ++ S) a = bdV R a := by unfold bdV; rw [List.getElem?_append_left h]
theorem bdHalf_app {R : List Bd} (S : List Bd) {a : Nat} (h : a < R.length) (v : Nat) (on : Bool) : bdHalf (R ++ S) a v on = bdHalf R a v on := by unfold bdHalf; rw [List.getElem?_append_left h]
theorem BdOk.two {R : List Bd} (h : BdOk R) : 2 ≤ R.length := by have := (List.getElem?_eq_some_iff.1 h.yes).1; omega
theorem bdOk_0 : BdOk bd0 := by
  have key : ∀ i n, bd0[i]? = some n → ¬ 2 ≤ i := fun i n h h2 => by
    have := (List.getElem?_eq_some_iff.1 h).1
    simp [bd0] at this; omega
  refine ⟨rfl, rfl, fun i n h h2 => absurd h2 (key i n h), fun i n h h2 => absurd h2 (key i n h), fun i n h h2 => absurd h2 (key i n h), fun i n h h2 => absurd h2 (key i n h), fun i n h h2 => absurd h2 (key i n h), fun i n h h2 => absurd h2 (key i n h), fun i j n hi hj => ?_⟩
  match i, j with
  | 0, 0 => rfl
  | 1, 1 => rfl
  | 0, 1 => simp [bd0] at hi hj; rw [← hi] at hj; cases hj
  | 1, 0 => simp [bd0] at hi hj; rw [← hi] at hj; cases hj
  | i + 2, _ => exact absurd (Nat.le_add_left 2 i) (key _ n hi)
  | _, j + 2 => exact absurd (Nat.le_add_left 2 j) (key _ n hj)
theorem bdV_le {R : List Bd} (h : BdOk R) (a : Nat) : bdV R a ≤ 64 := by
  unfold bdV
  cases e : R[a]? with
  | none => exact Nat.le_refl _
  | some n =>
    show n.v ≤ 64
    match a with
    | 0 => rw [h.no] at e; cases e; exact Nat.le_refl _
    | 1 => rw [h.yes] at e; cases e; exact Nat.le_refl _
    | a + 2 => exact Nat.le_of_lt (h.low _ n e (by omega))
theorem bdV_end {R : List Bd} (h : BdOk R) {a : Nat} (ha : a < R.length) (hv : 64 ≤ bdV R a) : a = 0 ∨ a = 1 := by
  match a with
  | 0 => exact .inl rfl
  | 1 => exact .inr rfl
  | a + 2 =>
    have e := List.getElem?_eq_getElem ha
    have := h.low _ _ e (by omega)
    rw [bdV_at e] at hv
    omega
theorem bdHalf_lt {R : List Bd} (h : BdOk R) {a : Nat} (ha : a < R.length) (v : Nat) (on : Bool) : bdHalf R a v on < R.length := by
  have e := List.getElem?_eq_getElem ha
  unfold bdHalf
  rw [e]
  show (if _ = v then _ else _) < _
  split
  · match a with
    | 0 => have q := Option.some.inj (h.no.symm.trans e); rw [← q]; cases on <;> exact ha
    | 1 => have q := Option.some.inj (h.yes.symm.trans e); rw [← q]; cases on <;> exact ha
    | a + 2 =>
      have h1 := h.lo _ _ e (by omega)
      have h2 := h.hi _ _ e (by omega)
      cases on
      · show R[a + 2].lo < _; omega
      · show R[a + 2].hi < _; omega
  · exact ha
/-- A half under a variable that is not behind its own has a greater one. -/
theorem bdHalf_v {R : List Bd} (h : BdOk R) {a v : Nat} (ha : a < R.length) (hv : v ≤ bdV R a) (hv' : v < 64) (on : Bool) : v < bdV R (bdHalf R a v on) := by
  have e := List.getElem?_eq_getElem ha
  have hb : bdHalf R a v on = if R[a].v = v then (if on then R[a].hi else R[a].lo) else a := by unfold bdHalf; rw [e]
  rw [hb]
  rw [bdV_at e] at hv
  split
  · next q =>
    match a with
    | 0 => rw [h.no] at e; have := Option.some.inj e; rw [← this] at q; simp at q; omega
    | 1 => rw [h.yes] at e; have := Option.some.inj e; rw [← this] at q; simp at q; omega
    | a + 2 =>
      have h1 := h.vlo _ _ e (by omega)
      have h2 := h.vhi _ _ e (by omega)
      cases on
      · show v < bdV R R[a + 2].lo; omega
      · show v < bdV R R[a + 2].hi; omega
  · next q => rw [bdV_at e]; omega
/-! ### What a diagram is under bits -/
def bdStep (bits : Nat → Bool) (t : List Bool) (n : Bd) : Bool := if n.lo = n.hi then n.lo == 1 else if bits n.v then t.getD n.hi false else t.getD n.lo false
def bdT (bits : Nat → Bool) (R : List Bd) : List Bool := R.foldl (fun t n => t ++ [bdStep bits t n]) []
def bdEv (R : List Bd) (bits : Nat → Bool) (a : Nat) : Bool := (bdT bits R).getD a false
theorem bdT_snoc (bits : Nat → Bool) (R : List Bd) (n : Bd) : bdT bits (R ++ [n]) = bdT bits R ++ [bdStep bits (bdT bits R) n] := by unfold bdT; rw [List.foldl_append]; rfl
theorem bdT_app (bits : Nat → Bool) (R S : List Bd) : ∃ t, bdT bits (R ++ S) = bdT bits R ++ t ∧ t.length = S.length := by
  induction S generalizing R with
  | nil => exact ⟨[], by simp, rfl⟩
  | cons n S ih =>
    obtain ⟨t, h1, h2⟩ := ih (R ++ [n])
    rw [bdT_snoc] at h1
    refine ⟨bdStep bits (bdT bits R) n :: t, ?_, by simp [h2]⟩
    rw [show R ++ n :: S = R ++ [n] ++ S by simp, h1]
    simp
theorem bdT_len (bits : Nat → Bool) (R : List Bd) : (bdT bits R).length = R.length := by
  obtain ⟨t, h1, h2⟩ := bdT_app bits [] R
  have : bdT bits [] = [] := rfl
  rw [List.nil_append, this, List.nil_append] at h1
  rw [h1, h2]
theorem bdEv_app {R : List Bd} (S : List Bd) (bits : Nat → Bool) {a : Nat} (h : a < R.length) : bdEv (R ++ S) bits a = bdEv R bits a := by
  obtain ⟨t, h1, _⟩ := bdT_app bits R S
  unfold bdEv
  rw [h1, List.getD_eq_getElem?_getD, List.getD_eq_getElem?_getD, List.getElem?_append_left (by rw [bdT_len]; exact h)]
theorem bdEv_at {R : List Bd} (bits : Nat → Bool) {i : Nat} {n : Bd} (h : R[i]? = some n) : bdEv R bits i = bdStep bits (bdT bits (R.take i)) n := by
  obtain ⟨hi, e⟩ := List.getElem?_eq_some_iff.1 h
  have hR : R = R.take i ++ [n] ++ R.drop (i + 1) := by
    rw [← e, List.append_assoc]
    simp
  have hl : (R.take i).length = i := by simp; omega
  have h1 : bdEv R bits i = bdEv (R.take i ++ [n]) bits i := by
    conv => lhs; rw [hR]
    exact bdEv_app _ bits (by simp; omega)
  rw [h1]
  unfold bdEv
  rw [bdT_snoc, List.getD_eq_getElem?_getD, List.getElem?_append_right (by rw [bdT_len, hl]; exact Nat.le_refl _), bdT_len, hl, Nat.sub_self]
  rfl
theorem bdEv_no {R : List Bd} (h : BdOk R) (bits : Nat → Bool) : bdEv R bits 0 = false := by rw [bdEv_at bits h.no]; rfl
theorem bdEv_yes {R : List Bd} (h : BdOk R) (bits : Nat → Bool) : bdEv R bits 1 = true := by rw [bdEv_at bits h.yes]; rfl
theorem bdEv_take {R : List Bd} (bits : Nat → Bool) {a i : Nat} (ha : a < i) (hi : i ≤ R.length) : (bdT bits (R.take i)).getD a false = bdEv R bits a := by
  have := bdEv_app (R := R.take i) (R.drop i) bits (a := a) (by simp; omega)
  rw [List.take_append_drop] at this
  exact this.symm
theorem bdEv_node {R : List Bd} (h : BdOk R) (bits : Nat → Bool) {i : Nat} {n : Bd} (e : R[i]? = some n) (h2 : 2 ≤ i) : bdEv R bits i = if bits n.v then bdEv R bits n.hi else bdEv R bits n.lo := by
  have hi := (List.getElem?_eq_some_iff.1 e).1
  rw [bdEv_at bits e]
  unfold bdStep
  rw [if_neg (h.ne _ _ e h2), bdEv_take bits (h.hi _ _ e h2) (by omega), bdEv_take bits (h.lo _ _ e h2) (by omega)]
/-- Under a variable that is not behind its own a diagram is its half. -/
theorem bdEv_half {R : List Bd} (h : BdOk R) (bits : Nat → Bool) {a v : Nat} (ha : a < R.length) : bdEv R bits a = bdEv R bits (bdHalf R a v (bits v)) := by
  have e := List.getElem?_eq_getElem ha
  have hb : bdHalf R a v (bits v) = if R[a].v = v then (if bits v then R[a].hi else R[a].lo) else a := by unfold bdHalf; rw [e]
  rw [hb]
  split
  · next q =>
    match a with
    | 0 => rw [h.no] at e; have := Option.some.inj e; rw [← this]; cases bits v <;> rfl
    | 1 => rw [h.yes] at e; have := Option.some.inj e; rw [← this]; cases bits v <;> rfl
    | a + 2 =>
      rw [bdEv_node h bits e (by omega), q]
      cases bits v <;> rfl
  · rfl
/-- It hangs on no variable ahead of its own. -/
theorem bdEv_free {R : List Bd} (h : BdOk R) {bits bits' : Nat → Bool} : ∀ (k a : Nat), a < k → a < R.length → (∀ v, bdV R a ≤ v → bits v = bits' v) → bdEv R bits a = bdEv R bits' a := by
  intro k
  induction k with
  | zero => intro a ha; omega
  | succ k ih =>
    intro a hk ha hb
    match a with
    | 0 => rw [bdEv_no h, bdEv_no h]
    | 1 => rw [bdEv_yes h, bdEv_yes h]
    | a + 2 =>
      have e := List.getElem?_eq_getElem ha
      have h1 := h.lo _ _ e (by omega)
      have h2 := h.hi _ _ e (by omega)
      have h3 := h.vlo _ _ e (by omega)
      have h4 := h.vhi _ _ e (by omega)
      rw [bdV_at e] at hb
      rw [bdEv_node h bits e (by omega), bdEv_node h bits' e (by omega), hb _ (Nat.le_refl _), ih _ (by omega) (by omega) (fun v hv => hb v (by omega)), ih _ (by omega) (by omega) (fun v hv => hb v (by omega))]
/-- Bits with one told. -/
def bdSet (bits : Nat → Bool) (v : Nat) (x : Bool) : Nat → Bool := fun u => if u = v then x else bits u
theorem bdEv_set {R : List Bd} (h : BdOk R) (bits : Nat → Bool) {a v : Nat} (x : Bool) (ha : a < R.length) (hv : v < bdV R a) : bdEv R (bdSet bits v x) a = bdEv R bits a :=
  bdEv_free h (a + 1) a (Nat.lt_succ_self a) ha (fun u hu => by unfold bdSet; rw [if_neg (by omega)])
/-- Two diagrams are the same, if they are so under all bits. -/
theorem bd_same {R : List Bd} (h : BdOk R) : ∀ (k a b : Nat), a < k → b < k → a < R.length → b < R.length → (∀ bits, bdEv R bits a = bdEv R bits b) → a = b := by
  intro k
  induction k with
  | zero => intro a b ha; omega
  | succ k ih =>
    have half : ∀ a b, a < k + 1 → 2 ≤ a → a < R.length → b < R.length → (bdV R a < bdV R b) → (∀ bits, bdEv R bits a = bdEv R bits b) → False := fun a b ha h2 hl hbl hv hall => by
      have e := List.getElem?_eq_getElem hl
      rw [bdV_at e] at hv
      have h1 := h.lo _ _ e h2
      have h3 := h.hi _ _ e h2
      refine h.ne _ _ e h2 (ih _ _ (by omega) (by omega) (by omega) (by omega) fun bits => ?_)
      have p := hall (bdSet bits R[a].v false)
      have q := hall (bdSet bits R[a].v true)
      rw [bdEv_node h _ e h2, bdEv_set h bits _ hbl hv] at p q
      simp only [bdSet, if_true, Bool.false_eq_true, if_false] at p q
      have p' : bdEv R (bdSet bits R[a].v false) R[a].lo = bdEv R bits b := p
      have q' : bdEv R (bdSet bits R[a].v true) R[a].hi = bdEv R bits b := q
      rw [bdEv_set h bits _ (by omega) (h.vlo _ _ e h2)] at p'
      rw [bdEv_set h bits _ (by omega) (h.vhi _ _ e h2)] at q'
      rw [p', q']
    intro a b ha hb hal hbl hall
    rcases Nat.lt_trichotomy (bdV R a) (bdV R b) with hv | hv | hv
    · have hb64 := bdV_le h b
      have h2 : 2 ≤ a := by
        match a with
        | 0 => rw [bdV_at h.no] at hv; simp at hv; omega
        | 1 => rw [bdV_at h.yes] at hv; simp at hv; omega
        | a + 2 => omega
      exact (half a b ha h2 hal hbl hv hall).elim
    · by_cases h64 : 64 ≤ bdV R a
      · rcases bdV_end h hal h64 with rfl | rfl <;> rcases bdV_end h hbl (hv ▸ h64) with rfl | rfl
        · rfl
        · have := hall fun _ => false; rw [bdEv_no h, bdEv_yes h] at this; cases this
        · have := hall fun _ => false; rw [bdEv_no h, bdEv_yes h] at this; cases this
        · rfl
      · have two : ∀ c, c < R.length → ¬ 64 ≤ bdV R c → 2 ≤ c := fun c hc hn => by
          match c with
          | 0 => rw [bdV_at h.no] at hn; simp at hn
          | 1 => rw [bdV_at h.yes] at hn; simp at hn
          | c + 2 => omega
        have h2 := two a hal h64
        have h2' := two b hbl (by rw [← hv]; exact h64)
        have e := List.getElem?_eq_getElem hal
        have e' := List.getElem?_eq_getElem hbl
        rw [bdV_at e, bdV_at e'] at hv
        have a1 := h.lo _ _ e h2
        have a2 := h.hi _ _ e h2
        have b1 := h.lo _ _ e' h2'
        have b2 := h.hi _ _ e' h2'
        have key : ∀ (bits : Nat → Bool) (x : Bool), (if x then bdEv R bits R[a].hi else bdEv R bits R[a].lo) = if x then bdEv R bits R[b].hi else bdEv R bits R[b].lo := fun bits x => by
          have p := hall (bdSet bits R[a].v x)
          rw [bdEv_node h _ e h2, bdEv_node h _ e' h2', ← hv] at p
          have g1 : bdEv R (bdSet bits R[a].v x) R[a].lo = bdEv R bits R[a].lo := bdEv_set h bits _ (by omega) (h.vlo _ _ e h2)
          have g2 : bdEv R (bdSet bits R[a].v x) R[a].hi = bdEv R bits R[a].hi := bdEv_set h bits _ (by omega) (h.vhi _ _ e h2)
          have g3 : bdEv R (bdSet bits R[a].v x) R[b].lo = bdEv R bits R[b].lo := bdEv_set h bits _ (by omega) (hv ▸ h.vlo _ _ e' h2')
          have g4 : bdEv R (bdSet bits R[a].v x) R[b].hi = bdEv R bits R[b].hi := bdEv_set h bits _ (by omega) (hv ▸ h.vhi _ _ e' h2')
          have p' : (if x then bdEv R (bdSet bits R[a].v x) R[a].hi else bdEv R (bdSet bits R[a].v x) R[a].lo) = if x then bdEv R (bdSet bits R[a].v x) R[b].hi else bdEv R (bdSet bits R[a].v x) R[b].lo := by
            have q : bdSet bits R[a].v x R[a].v = x := by simp [bdSet]
            rw [q] at p
            exact p
          rw [g1, g2, g3, g4] at p'
          exact p'
        have l1 := ih R[a].lo R[b].lo (by omega) (by omega) (by omega) (by omega) fun bits => by simpa using key bits false
        have l2 := ih R[a].hi R[b].hi (by omega) (by omega) (by omega) (by omega) fun bits => by simpa using key bits true
        have : R[a] = R[b] := by
          have : ∀ x y : Bd, x.v = y.v → x.lo = y.lo → x.hi = y.hi → x = y := fun x y p q r => by
            cases x; cases y; simp only at p q r; subst p; subst q; subst r; rfl
          exact this _ _ hv l1 l2
        exact h.once a b _ e (this ▸ e')
    · have h2 : 2 ≤ b := by
        have ha64 := bdV_le h a
        match b with
        | 0 => rw [bdV_at h.no] at hv; simp at hv; omega
        | 1 => rw [bdV_at h.yes] at hv; simp at hv; omega
        | b + 2 => omega
      exact (half b a hb h2 hbl hal hv fun bits => (hall bits).symm).elim
end Go.Proofs.Ytfphilgdikanfaa
