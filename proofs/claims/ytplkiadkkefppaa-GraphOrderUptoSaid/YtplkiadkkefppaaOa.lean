/-
  WHAT IS PROVED HERE: plain: who is reached in a graph (dfs), and the order of its states (ordF): each is ahead of those it goes to; where there is no order, one is reached from those it goes to.
-/
namespace Go.Proofs.Ytplkiadkkefppaa
/-- Who is told. -/
def OnB (S : List Bool) (i : Nat) : Prop := S[i]? = some true
def falses (S : List Bool) : Nat := S.countP (fun b => !b)
/-- From one state on, as the landed closure goes. -/
def dfs (g : List (List Nat)) : Nat → List Bool → Nat → List Bool
  | 0, S, _ => S
  | f + 1, S, n => if S.getD n true = true then S else (g.getD n []).foldl (dfs g f) (S.set n true)
theorem falses_set {S : List Bool} {n : Nat} (h : S.getD n true = false) : falses (S.set n true) + 1 = falses S := by
  induction S generalizing n with
  | nil => simp at h
  | cons b S ih =>
    cases n with
    | zero => simp at h; subst h; simp [falses]
    | succ n =>
      have := ih (n := n) (by simpa using h)
      simp only [falses, List.set_cons_succ, List.countP_cons] at this ⊢
      omega
theorem falses_pos {S : List Bool} {n : Nat} (h : S.getD n true = false) : 0 < falses S := by have := falses_set h; omega
theorem on_getD {S : List Bool} {i : Nat} : OnB S i ↔ S.getD i false = true := by
  unfold OnB
  rw [List.getD_eq_getElem?_getD]
  cases S[i]? <;> simp
theorem on_lt {S : List Bool} {i : Nat} (h : OnB S i) : i < S.length := (List.getElem?_eq_some_iff.1 h).1
theorem on_of {S : List Bool} {i : Nat} (hi : i < S.length) (h : S.getD i true = true) : OnB S i := by
  unfold OnB
  rw [List.getD_eq_getElem?_getD, List.getElem?_eq_getElem hi] at h
  rw [List.getElem?_eq_getElem hi]
  simpa using h
theorem on_set {S : List Bool} {n i : Nat} (hn : n < S.length) : OnB (S.set n true) i ↔ i = n ∨ OnB S i := by
  unfold OnB
  rw [List.getElem?_set]
  by_cases e : n = i
  · subst e; simp [hn]
  · rw [if_neg e]
    exact ⟨.inr, fun h => h.resolve_left fun x => e x.symm⟩
/-- What is known of a way from S to T. -/
structure Way (g : List (List Nat)) (S T : List Bool) : Prop where
  len : T.length = S.length
  up : ∀ i, OnB S i → OnB T i
  fewer : falses T ≤ falses S
  shut : ∀ k, OnB T k → OnB S k ∨ ∀ m ∈ g.getD k [], OnB T m
theorem Way.refl (g : List (List Nat)) (S : List Bool) : Way g S S := ⟨rfl, fun _ h => h, Nat.le_refl _, fun _ h => .inl h⟩
theorem Way.trans {g : List (List Nat)} {S T U : List Bool} (a : Way g S T) (b : Way g T U) : Way g S U :=
  ⟨b.len.trans a.len, fun i h => b.up i (a.up i h), Nat.le_trans b.fewer a.fewer, fun k h => by
    rcases b.shut k h with h1 | h1
    · rcases a.shut k h1 with h2 | h2
      · exact .inl h2
      · exact .inr fun m hm => b.up m (h2 m hm)
    · exact .inr h1⟩
theorem fold_way {g : List (List Nat)} {f N : Nat} (hd : ∀ S n, S.length = N → n < N → falses S ≤ f → Way g S (dfs g f S n) ∧ OnB (dfs g f S n) n) :
    ∀ (l : List Nat) (S : List Bool), S.length = N → (∀ x ∈ l, x < N) → falses S ≤ f → Way g S (l.foldl (dfs g f) S) ∧ ∀ x ∈ l, OnB (l.foldl (dfs g f) S) x
  | [], S, _, _, _ => ⟨Way.refl g S, fun x h => by cases h⟩
  | y :: l, S, hS, hl, hf => by
    obtain ⟨a, ha⟩ := hd S y hS (hl y (by simp)) hf
    obtain ⟨b, hb⟩ := fold_way hd l (dfs g f S y) (a.len.trans hS) (fun x hx => hl x (by simp [hx])) (Nat.le_trans a.fewer hf)
    refine ⟨a.trans b, fun x hx => ?_⟩
    rcases List.mem_cons.1 hx with rfl | hx
    · exact b.up _ ha
    · exact hb x hx
theorem dfs_way {g : List (List Nat)} {N : Nat} (hg : ∀ k, ∀ m ∈ g.getD k [], m < N) : ∀ (f : Nat) (S : List Bool) (n : Nat), S.length = N → n < N → falses S ≤ f → Way g S (dfs g f S n) ∧ OnB (dfs g f S n) n
  | 0, S, n, hS, hn, hf => by
    refine ⟨Way.refl g S, ?_⟩
    by_cases h : S.getD n true = true
    · exact on_of (hS ▸ hn) h
    · exact absurd (falses_pos (S := S) (n := n) (by simpa using h)) (by omega)
  | f + 1, S, n, hS, hn, hf => by
    unfold dfs
    split
    · next h => exact ⟨Way.refl g S, on_of (by omega) h⟩
    · next h =>
      have h0 : S.getD n true = false := by simpa using h
      have h1 := falses_set h0
      have hlen : (S.set n true).length = N := by simp [hS]
      obtain ⟨a, ha⟩ := fold_way (f := f) (N := N) (dfs_way hg f) (g.getD n []) (S.set n true) hlen (hg n) (by omega)
      have hup : ∀ i, OnB S i → OnB (S.set n true) i := fun i hi => (on_set (by omega)).2 (.inr hi)
      refine ⟨⟨a.len.trans (by simp), fun i hi => a.up i (hup i hi), by have := a.fewer; omega, fun k hk => ?_⟩, a.up n ((on_set (by omega)).2 (.inl rfl))⟩
      rcases a.shut k hk with h2 | h2
      · rcases (on_set (by omega)).1 h2 with rfl | h3
        · exact .inr ha
        · exact .inl h3
      · exact .inr h2
/-- Who is reached from some. -/
def reachF (g : List (List Nat)) (l : List Nat) : List Bool := l.foldl (dfs g g.length) (List.replicate g.length false)
theorem falses_replicate (n : Nat) : falses (List.replicate n false) = n := by
  induction n with
  | zero => rfl
  | succ n ih => simpa [falses, List.replicate_succ] using ih
/-- A graph whose ways lead to its own states. -/
def Fits (g : List (List Nat)) : Prop := ∀ k, ∀ m ∈ g.getD k [], m < g.length
theorem reach_is {g : List (List Nat)} (hg : Fits g) {l : List Nat} (hl : ∀ x ∈ l, x < g.length) :
    (reachF g l).length = g.length ∧ (∀ x ∈ l, OnB (reachF g l) x) ∧ ∀ k, OnB (reachF g l) k → ∀ m ∈ g.getD k [], OnB (reachF g l) m := by
  obtain ⟨a, b⟩ := fold_way (dfs_way hg g.length) l (List.replicate g.length false) (by simp) hl (by rw [falses_replicate]; exact Nat.le_refl _)
  refine ⟨a.len.trans (by simp), b, fun k hk => ?_⟩
  rcases a.shut k hk with h | h
  · exfalso
    have h1 := on_getD.1 h
    rw [List.getD_eq_getElem?_getD, List.getElem?_replicate] at h1
    split at h1 <;> simp at h1
  · exact h
/-- A list without twins is no longer than one that has all of it. -/
theorem nodup_sub : ∀ (A B : List Nat), A.Nodup → (∀ x ∈ A, x ∈ B) → A.length ≤ B.length
  | [], _, _, _ => by simp
  | a :: A, B, hd, h => by
    obtain ⟨h1, h2⟩ := List.nodup_cons.1 hd
    have h3 := nodup_sub A (B.erase a) h2 fun x hx => (List.mem_erase_of_ne (fun e : x = a => h1 (e ▸ hx))).2 (h x (by simp [hx]))
    have h4 := List.length_erase_of_mem (h a (by simp))
    have h5 := List.length_pos_of_mem (h a (by simp))
    simp only [List.length_cons]
    omega
/-- Numbers below n, none twice, are at most n. -/
theorem nodup_le (n : Nat) (l : List Nat) (hd : l.Nodup) (h : ∀ x ∈ l, x < n) : l.length ≤ n := by
  have := nodup_sub l (List.range n) hd fun x hx => List.mem_range.2 (h x hx)
  simpa using this
theorem nodup_all {n : Nat} {l : List Nat} (hd : l.Nodup) (h : ∀ x ∈ l, x < n) (hl : l.length = n) {s : Nat} (hs : s < n) : s ∈ l := by
  refine Classical.byContradiction fun hn => ?_
  have := nodup_le n (s :: l) (List.nodup_cons.2 ⟨hn, hd⟩) fun x hx => by
    rcases List.mem_cons.1 hx with rfl | hx
    · exact hs
    · exact h x hx
  simp at this
  omega
/-- The first state that is on a cycle. -/
def cycleF (g : List (List Nat)) : Option Nat := (List.range g.length).find? fun n => (reachF g (g.getD n [])).getD n false
/-- Where each of some has one of them ahead of it, one is reached from those it goes to. -/
theorem cycle_in {g : List (List Nat)} (hg : Fits g) (U : Nat → Prop) (hU : ∀ u, U u → u < g.length) (hp : ∀ u, U u → ∃ k, U k ∧ u ∈ g.getD k []) {u0 : Nat} (h0 : U u0) :
    ∃ n, n < g.length ∧ OnB (reachF g (g.getD n [])) n := by
  refine Classical.byContradiction fun hno => ?_
  have key : ∀ (j : Nat) (h : Nat) (t : List Nat), (h :: t).Nodup → (∀ x ∈ h :: t, U x) → (∀ S : List Bool, (∀ k, OnB S k → ∀ m ∈ g.getD k [], OnB S m) → OnB S h → ∀ x ∈ t, OnB S x) → g.length < (h :: t).length + j → False := by
    intro j
    induction j with
    | zero =>
      intro h t hd hu _ hj
      have := nodup_le g.length (h :: t) hd fun x hx => hU x (hu x hx)
      omega
    | succ j ih =>
      intro h t hd hu hc hj
      obtain ⟨k, hk, hkh⟩ := hp h (hu h (by simp))
      obtain ⟨_, r2, r3⟩ := reach_is hg (l := g.getD k []) (hg k)
      have hnk : ¬ OnB (reachF g (g.getD k [])) k := fun h1 => hno ⟨k, hU k hk, h1⟩
      by_cases hm : k ∈ h :: t
      · rcases List.mem_cons.1 hm with rfl | hm
        · exact hnk (r2 _ hkh)
        · exact hnk (hc _ r3 (r2 _ hkh) k hm)
      · refine ih k (h :: t) (List.nodup_cons.2 ⟨hm, hd⟩) (fun x hx => ?_) (fun S hS hkS x hx => ?_) (by simp at hj ⊢; omega)
        · rcases List.mem_cons.1 hx with rfl | hx
          · exact hk
          · exact hu x hx
        · rcases List.mem_cons.1 hx with rfl | hx
          · exact hS k hkS _ hkh
          · exact hc S hS (hS k hkS _ hkh) x hx
  exact key g.length u0 [] (by simp) (by simpa using h0) (fun _ _ _ x hx => by cases hx) (by simp)
theorem cycle_some {g : List (List Nat)} (h : ∃ n, n < g.length ∧ OnB (reachF g (g.getD n [])) n) : (cycleF g).isSome = true := by
  obtain ⟨n, hn, h1⟩ := h
  unfold cycleF
  rw [List.find?_isSome]
  exact ⟨n, by simpa using hn, on_getD.1 h1⟩
/-- What each waits for: counts by a map; none where a state is no longer in it. -/
def addW (d : Int) (W : List (Option Int)) (m : Nat) : List (Option Int) := W.set m (some ((W.getD m none).getD 0 + d))
def waitF (g : List (List Nat)) : List (Option Int) := g.foldl (fun W l => l.foldl (addW 1) W) (List.replicate g.length (some 0))
/-- The least one that waits for none. -/
def freeF (W : List (Option Int)) : Option Nat := (List.range W.length).find? fun n => W.getD n none == some 0
def stepF (g : List (List Nat)) (W : List (Option Int)) (n : Nat) : List (Option Int) := (g.getD n []).foldl (addW (-1)) (W.set n none)
/-- The order, or none, as the landed loop makes it. -/
def ordF (g : List (List Nat)) : Nat → List (Option Int) → List Nat → Option (List Nat)
  | 0, _, l => some l
  | f + 1, W, l => match freeF W with
    | none => none
    | some n => ordF g f (stepF g W n) (l ++ [n])
def orderF (g : List (List Nat)) : Option (List Nat) := ordF g g.length (waitF g) []
/-- The edges to m from those that are not in l. -/
def inS (g : List (List Nat)) (l : List Nat) (m : Nat) : Int := ((List.range g.length).map fun k => if k ∈ l then (0 : Int) else ((g.getD k []).count m : Int)).sum
theorem sum_turn {α : Type} (f f' : Nat → Int) (n : Nat) : ∀ N, n < N → (∀ k, k < N → k ≠ n → f' k = f k) → ((List.range N).map f').sum = ((List.range N).map f).sum - f n + f' n
  | 0, h, _ => absurd h (by omega)
  | N + 1, h, he => by
    rw [List.range_succ, List.map_append, List.map_append, List.sum_append, List.sum_append]
    simp only [List.map_cons, List.map_nil, List.sum_cons, List.sum_nil]
    by_cases e : n = N
    · subst e
      have : (List.range n).map f' = (List.range n).map f := List.map_congr_left fun k hk => he k (by have := List.mem_range.1 hk; omega) (by have := List.mem_range.1 hk; omega)
      rw [this]
      omega
    · have h1 := sum_turn (α := α) f f' n N (by omega) fun k hk hne => he k (by omega) hne
      have h2 := he N (by omega) fun x => e x.symm
      rw [h1, h2]
      omega
theorem in_next {g : List (List Nat)} {l : List Nat} {n : Nat} (hn : n < g.length) (hl : n ∉ l) (m : Nat) : inS g (l ++ [n]) m = inS g l m - ((g.getD n []).count m : Int) := by
  unfold inS
  rw [sum_turn (α := Nat) (fun k => if k ∈ l then (0 : Int) else ((g.getD k []).count m : Int)) (fun k => if k ∈ l ++ [n] then (0 : Int) else ((g.getD k []).count m : Int)) n g.length hn fun k _ hne => by simp [hne]]
  simp [hl]
theorem sum_pos (f : Nat → Int) : ∀ (L : List Nat), (∀ k, 0 ≤ f k) → (L.map f).sum ≠ 0 → ∃ k ∈ L, 0 < f k
  | [], _, h => absurd rfl h
  | x :: L, h0, h => by
    by_cases e : f x = 0
    · simp only [List.map_cons, List.sum_cons, e] at h
      obtain ⟨k, hk, h1⟩ := sum_pos f L h0 (by simpa using h)
      exact ⟨k, by simp [hk], h1⟩
    · exact ⟨x, by simp, by have := h0 x; omega⟩
theorem sum_nought (f : Nat → Int) : ∀ (L : List Nat), (∀ k, 0 ≤ f k) → (L.map f).sum = 0 → ∀ k ∈ L, f k = 0
  | [], _, _ => fun k hk => by cases hk
  | x :: L, h0, h => fun k hk => by
    simp only [List.map_cons, List.sum_cons] at h
    have h1 := h0 x
    have h2 : 0 ≤ (L.map f).sum := by
      clear h hk
      induction L with
      | nil => simp
      | cons y L ih => simp only [List.map_cons, List.sum_cons]; have := h0 y; omega
    rcases List.mem_cons.1 hk with rfl | hk
    · omega
    · exact sum_nought f L h0 (by omega) k hk
theorem fold_addW (d : Int) : ∀ (l : List Nat) (W : List (Option Int)), (∀ x ∈ l, ∃ c, W[x]? = some (some c)) →
    (l.foldl (addW d) W).length = W.length ∧ ∀ m : Nat, (l.foldl (addW d) W)[m]? = (W[m]?).map fun (o : Option Int) => o.map fun c => c + d * (l.count m : Int)
  | [], W, _ => ⟨rfl, fun m => by
    simp only [List.foldl_nil, List.count_nil]
    cases W[m]? with
    | none => rfl
    | some o => cases o <;> simp⟩
  | x :: l, W, h => by
    obtain ⟨c, hc⟩ := h x (by simp)
    have hx : x < W.length := (List.getElem?_eq_some_iff.1 hc).1
    have e : addW d W x = W.set x (some (c + d)) := by
      unfold addW
      rw [List.getD_eq_getElem?_getD, hc]
      rfl
    obtain ⟨h1, h2⟩ := fold_addW d l (addW d W x) fun y hy => by
      rw [e, List.getElem?_set]
      by_cases q : x = y
      · subst q; simp [hx]
      · rw [if_neg q]; exact h y (by simp [hy])
    refine ⟨by rw [List.foldl_cons, h1, e]; simp, fun m => ?_⟩
    rw [List.foldl_cons, h2, e, List.getElem?_set]
    by_cases q : x = m
    · subst q
      rw [if_pos rfl, if_pos hx, hc]
      simp only [Option.map_some, List.count_cons_self]
      congr 2
      rw [Int.natCast_add, Int.mul_add]
      omega
    · rw [if_neg q, List.count_cons_of_ne q]
theorem wait_fold : ∀ (G : List (List Nat)) (W : List (Option Int)), (∀ l ∈ G, ∀ x ∈ l, x < W.length) → (∀ x, x < W.length → ∃ c, W[x]? = some (some c)) →
    (G.foldl (fun W l => l.foldl (addW 1) W) W).length = W.length ∧ ∀ m : Nat, (G.foldl (fun W l => l.foldl (addW 1) W) W)[m]? = (W[m]?).map fun (o : Option Int) => o.map fun c => c + (G.map fun l => (l.count m : Int)).sum
  | [], W, _, _ => ⟨rfl, fun m => by
    simp only [List.foldl_nil, List.map_nil, List.sum_nil]
    cases W[m]? with
    | none => rfl
    | some o => cases o <;> simp⟩
  | l :: G, W, h, hs => by
    obtain ⟨a1, a2⟩ := fold_addW 1 l W fun x hx => hs x (h l (by simp) x hx)
    obtain ⟨b1, b2⟩ := wait_fold G (l.foldl (addW 1) W) (fun l' hl' x hx => by rw [a1]; exact h l' (by simp [hl']) x hx) fun x hx => by
      rw [a1] at hx
      obtain ⟨c, hc⟩ := hs x hx
      rw [a2, hc]
      exact ⟨_, rfl⟩
    refine ⟨by rw [List.foldl_cons, b1, a1], fun m => ?_⟩
    rw [List.foldl_cons, b2, a2]
    cases W[m]? with
    | none => rfl
    | some o =>
      cases o with
      | none => rfl
      | some c => simp; omega
/-- What holds while the order is made. -/
structure OrdI (g : List (List Nat)) (W : List (Option Int)) (l : List Nat) : Prop where
  len : W.length = g.length
  nodup : l.Nodup
  low : ∀ x ∈ l, x < g.length
  gone : ∀ m ∈ l, W[m]? = some none
  left : ∀ m, m < g.length → m ∉ l → W[m]? = some (some (inS g l m))
  ahead : ∀ i m, l[i]? = some m → ∀ k, m ∈ g.getD k [] → k ∈ l.take i
theorem getD_lt {g : List (List Nat)} {k m : Nat} (h : m ∈ g.getD k []) : k < g.length := by
  refine Classical.byContradiction fun hn => ?_
  rw [List.getD_eq_getElem?_getD, List.getElem?_eq_none (by omega)] at h
  simp at h
theorem mem_fits {g : List (List Nat)} (hg : Fits g) {l : List Nat} (hl : l ∈ g) {x : Nat} (hx : x ∈ l) : x < g.length := by
  obtain ⟨k, hk, rfl⟩ := List.mem_iff_getElem.1 hl
  exact hg k x (by rw [List.getD_eq_getElem?_getD, List.getElem?_eq_getElem hk]; exact hx)
theorem ord_start {g : List (List Nat)} (hg : Fits g) : OrdI g (waitF g) [] := by
  obtain ⟨h1, h2⟩ := wait_fold g (List.replicate g.length (some 0)) (fun l hl x hx => by simpa using mem_fits hg hl hx) fun x hx => ⟨0, by rw [List.getElem?_replicate]; simp at hx; simp [hx]⟩
  refine ⟨h1.trans (by simp), by simp, fun x hx => (by cases hx), fun x hx => (by cases hx), fun m hm _ => ?_, fun i m h => (by simp at h)⟩
  unfold waitF
  rw [h2, List.getElem?_replicate, if_pos hm]
  simp only [Option.map_some, Int.zero_add]
  congr 2
  unfold inS
  simp only [List.not_mem_nil, if_false]
  congr 1
  refine List.ext_getElem? fun i => ?_
  rw [List.getElem?_map, List.getElem?_map]
  by_cases hi : i < g.length
  · rw [List.getElem?_range hi, List.getElem?_eq_getElem hi]
    simp [List.getD_eq_getElem?_getD, List.getElem?_eq_getElem hi]
  · rw [List.getElem?_eq_none (by omega), List.getElem?_eq_none (by simp; omega)]
    rfl
theorem in_ge (g : List (List Nat)) (l : List Nat) (m k : Nat) : (0 : Int) ≤ (if k ∈ l then (0 : Int) else ((g.getD k []).count m : Int)) := by split <;> omega
theorem ord_next {g : List (List Nat)} (_hg : Fits g) {W : List (Option Int)} {l : List Nat} (h : OrdI g W l) {n : Nat} (hf : freeF W = some n) : OrdI g (stepF g W n) (l ++ [n]) := by
  unfold freeF at hf
  have hn : n < g.length := by have := List.mem_of_find?_eq_some hf; rw [h.len] at this; simpa using this
  have h0 : W.getD n none = some 0 := by simpa using List.find?_some hf
  have hnl : n ∉ l := fun e => by
    have := h.gone n e
    rw [List.getD_eq_getElem?_getD, this] at h0
    cases h0
  have hin : inS g l n = 0 := by
    have := h.left n hn hnl
    rw [List.getD_eq_getElem?_getD, this] at h0
    simpa using h0
  have hp : ∀ k, n ∈ g.getD k [] → k ∈ l := fun k hk => by
    refine Classical.byContradiction fun hkl => ?_
    have := sum_nought _ _ (in_ge g l n) hin k (by simpa using getD_lt hk)
    rw [if_neg hkl] at this
    have h2 := List.count_pos_iff.2 hk
    omega
  have hm : ∀ m ∈ g.getD n [], m ∉ l ∧ m ≠ n := fun m hm => by
    refine ⟨fun e => ?_, fun e => hnl (hp n (e ▸ hm))⟩
    obtain ⟨i, hi, e2⟩ := List.mem_iff_getElem.1 e
    have h1 := h.ahead i m (by rw [List.getElem?_eq_getElem hi, e2]) n hm
    exact hnl (List.mem_of_mem_take h1)
  obtain ⟨f1, f2⟩ := fold_addW (-1) (g.getD n []) (W.set n none) fun x hx => by
    obtain ⟨q1, q2⟩ := hm x hx
    rw [List.getElem?_set_ne (fun e => q2 e.symm)]
    exact ⟨_, h.left x (_hg n x hx) q1⟩
  refine ⟨by unfold stepF; rw [f1]; simpa using h.len, ?_, fun x hx => ?_, fun x hx => ?_, fun x hx hxl => ?_, fun i x hx k hk => ?_⟩
  · rw [List.nodup_append]
    exact ⟨h.nodup, by simp, fun a ha b hb => by simp at hb; subst hb; exact fun e => hnl (e ▸ ha)⟩
  · rcases List.mem_append.1 hx with hx | hx
    · exact h.low x hx
    · simp at hx; subst hx; exact hn
  · unfold stepF
    rw [f2]
    by_cases e : x = n
    · subst e
      rw [List.getElem?_set_self (by rw [h.len]; exact hn)]
      rfl
    · rw [List.getElem?_set_ne (fun q => e q.symm), h.gone x (by simpa [e] using hx)]
      rfl
  · have e1 : x ∉ l := fun e => hxl (by simp [e])
    have e2 : x ≠ n := fun e => hxl (by simp [e])
    unfold stepF
    rw [f2, List.getElem?_set_ne (fun q => e2 q.symm), h.left x hx e1, in_next hn hnl]
    simp only [Option.map_some]
    congr 2
    omega
  · by_cases hi : i < l.length
    · rw [List.getElem?_append_left hi] at hx
      rw [List.take_append_of_le_length (by omega)]
      exact h.ahead i x hx k hk
    · rw [List.getElem?_append_right (by omega)] at hx
      obtain ⟨rfl, rfl⟩ : i = l.length ∧ x = n := by
        by_cases e : i - l.length = 0
        · rw [e] at hx
          simp at hx
          exact ⟨by omega, hx.symm⟩
        · rw [List.getElem?_eq_none (by simp; omega)] at hx
          cases hx
      rw [List.take_append_of_le_length (by omega), List.take_length]
      exact hp k hk
/-- What an order is. -/
structure IsOrd (g : List (List Nat)) (l : List Nat) : Prop where
  len : l.length = g.length
  nodup : l.Nodup
  low : ∀ x ∈ l, x < g.length
  ahead : ∀ i m, l[i]? = some m → ∀ k, m ∈ g.getD k [] → k ∈ l.take i
theorem ord_is {g : List (List Nat)} (hg : Fits g) : ∀ (f : Nat) (W : List (Option Int)) (l : List Nat), OrdI g W l → f + l.length = g.length →
    match ordF g f W l with
    | some o => IsOrd g o
    | none => (cycleF g).isSome = true
  | 0, W, l, h, hl => ⟨by omega, h.nodup, h.low, h.ahead⟩
  | f + 1, W, l, h, hl => by
    unfold ordF
    cases hf : freeF W with
    | some n => exact ord_is hg f (stepF g W n) (l ++ [n]) (ord_next hg h hf) (by simp; omega)
    | none =>
      simp only
      obtain ⟨u, hu, hul⟩ : ∃ u, u < g.length ∧ u ∉ l := by
        refine Classical.byContradiction fun hno => ?_
        have := nodup_sub (List.range g.length) l List.nodup_range fun x hx => Classical.byContradiction fun hx2 => hno ⟨x, by simpa using hx, hx2⟩
        simp at this
        omega
      refine cycle_some (cycle_in hg (fun x => x < g.length ∧ x ∉ l) (fun x hx => hx.1) (fun x hx => ?_) ⟨hu, hul⟩)
      have h1 := h.left x hx.1 hx.2
      have h2 : inS g l x ≠ 0 := fun e => by
        have h3 := List.find?_eq_none.1 hf x (by rw [h.len]; simpa using hx.1)
        rw [List.getD_eq_getElem?_getD, h1, e] at h3
        simp at h3
      obtain ⟨k, hk, h3⟩ := sum_pos _ _ (in_ge g l x) h2
      have hk' : k < g.length := by simpa using hk
      by_cases hkl : k ∈ l
      · rw [if_pos hkl] at h3; omega
      · rw [if_neg hkl] at h3
        exact ⟨k, ⟨hk', hkl⟩, List.count_pos_iff.1 (by omega)⟩
theorem order_is {g : List (List Nat)} (hg : Fits g) :
    match orderF g with
    | some o => IsOrd g o
    | none => (cycleF g).isSome = true := ord_is hg g.length (waitF g) [] (ord_start hg) (by simp)
end Go.Proofs.Ytplkiadkkefppaa
