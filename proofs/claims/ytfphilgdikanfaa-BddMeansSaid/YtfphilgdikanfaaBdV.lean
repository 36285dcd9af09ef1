/-
  WHAT IS PROVED HERE: what the law BddMeans wants, round by round: the store and the numbers that were told; the masks of what calls mean.
-/
import Derived.Test.YtfphilgdikanfaaBdU
import Derived.Test.YtfphilgdikanfaaBdP
import Derived.Laws.Bits64b
namespace Go.Proofs.Ytfphilgdikanfaa
open Go.RowKit
def numV (x : Nat) : Value := .int .i64 (x : Int)
/-- Between two calls of the law. -/
structure MnI (w W : World) (bs : Nat) (L : BdL) (R : List Bd) (v : Value) (all : List Nat) : Prop where
  below : Below w.heap.size w W
  st : StAt W bs L 1048576 false R
  lb : ∀ k, L.has k → w.heap.size ≤ k
  bsb : w.heap.size ≤ bs
  own : W.ownsRow w.heap.size 3 1 v all.length (all.map numV)
theorem bd_own_keep {w w' : World} {base : Nat} {e : TypeId} {C : Nat} {v : Value} {n : Nat} {xs : List Value} (h : w.ownsRow base e C v n xs) (hk : ∀ (g : Nat) (cur : Array Value), w.heap[g]? = some (Obj.cells cur e (0, 0)) → w'.heap[g]? = w.heap[g]?) : w'.ownsRow base e C v n xs := by
  obtain ⟨hl, h2⟩ := h
  refine ⟨hl, ?_⟩
  rcases h2 with h2 | ⟨g, cap, cur, hv, hg, hh, r⟩
  · exact .inl h2
  · exact .inr ⟨g, cap, cur, hv, hg, (hk g cur hh).trans hh, r⟩
theorem MnI.grow {w W X : World} {bs : Nat} {L : BdL} {R : List Bd} {v : Value} {all : List Nat} (h : MnI w W bs L R v all) (hB : Below W.heap.size W X) : MnI w X bs L R v all :=
  ⟨h.below.trans (hB.mono h.below.size), h.st.below hB, h.lb, h.bsb, bd_own_keep h.own fun g cur hg => hB.block g (Array.getElem?_eq_some_iff.1 hg).1⟩
theorem MnI.go {w W X : World} {bs : Nat} {L L' : BdL} {R R' : List Bd} {v : Value} {all : List Nat} (h : MnI w W bs L R v all) (hG : BdGo W L X L') (hS : StAt X bs L' 1048576 false R') : MnI w X bs L' R' v all := by
  obtain ⟨h1, h2⟩ := hG.above h.below.size h.lb
  exact ⟨h.below.trans h1, hS, h2, h.bsb, bd_own_keep h.own fun g cur hg => (hG.cells h.st.nodes hg (by decide) (by decide)).trans hg.symm⟩
theorem MnI.nums {w W : World} {bs : Nat} {L : BdL} {R : List Bd} {p : Option Addr} {c : Nat} {all : List Nat} (h : MnI w W bs L R (.slice p all.length c) all) : BdNums W p all := fun i x hx => by
  obtain ⟨_, ⟨h1, h2⟩ | ⟨g, cap, cur, hv, hg, hh, h3, h4, h5, h6⟩⟩ := h.own
  · have := (List.getElem?_eq_some_iff.1 hx).1; omega
  · cases hv
    refine ⟨_, rfl, ?_⟩
    have hlt := (List.getElem?_eq_some_iff.1 hx).1
    have e : (all.map numV)[i]? = some (.int .i64 (x : Int)) := by rw [List.getElem?_map, hx]; rfl
    rw [← h6, List.getElem?_take_of_lt (by omega)] at e
    rw [Addr.add_lit, Nat.zero_add]
    exact bd_cell hh _ _ (by simpa using e)
/-- A number more. -/
theorem MnI.push {w W w' : World} {bs n : Nat} {L : BdL} {R : List Bd} {v v' : Value} {all : List Nat} (h : MnI w W bs L R v all) (hg : (W.alloc (.cells #[.int .i64 (n : Int)] 3)).grownBy w' v.ownBlock) (ho : w'.ownsRow w.heap.size 3 1 v' (all.length + 1) (all.map numV ++ [.int .i64 (n : Int)])) : MnI w w' bs L R v' (all ++ [n]) := by
  have hs := h.below.size
  have hv : ∀ k, some k = v.ownBlock → w.heap.size ≤ k ∧ ∃ cur, W.heap[k]? = some (.cells cur 3 (0, 0)) := fun k e => by
    obtain ⟨_, ⟨rfl, _⟩ | ⟨g, cap, cur, rfl, hg2, hh, _⟩⟩ := h.own
    · cases e
    · have := Option.some.inj e
      simp only at this
      subst this
      exact ⟨hg2, cur, hh⟩
  have up : ∀ k, k < W.heap.size → some k ≠ v.ownBlock → w'.heap[k]? = W.heap[k]? := fun k hk hn => (hg.block k (by simp; omega) hn).trans (Below.heap_alloc _ _ _ hk)
  have hnb : ∀ (k : Nat) (cs : Array Value) (t : TypeId) (z : Nat × Nat), W.heap[k]? = some (Obj.cells cs t z) → t ≠ 3 → some k ≠ v.ownBlock := fun k cs t z hk ht e => by
    obtain ⟨_, cur, e2⟩ := hv k e
    rw [hk] at e2; cases e2; exact ht rfl
  have hnL : ∀ k, L.has k → some k ≠ v.ownBlock := fun k hk e => by
    obtain ⟨_, cur, e2⟩ := hv k e
    exact h.st.nodes.other e2 (by decide) (by decide) hk
  refine ⟨⟨hg.os.trans h.below.os, hg.tape.trans h.below.tape, hg.output.trans h.below.output, by have h1 := hg.size; simp at h1; omega, fun k hk => ?_⟩, ⟨?_, ?_⟩, h.lb, h.bsb, ?_⟩
  · exact (up k (by omega) (fun e => by have := (hv k e).1; omega)).trans (h.below.block k hk)
  · exact (up _ (Array.getElem?_eq_some_iff.1 h.st.head).1 (hnb _ _ _ _ h.st.head (by decide))).trans h.st.head
  · exact h.st.nodes.of_heap fun k hk => up k (h.st.nodes.lt hk) (hnL k hk)
  · have e : (all ++ [n]).length = all.length + 1 := by simp
    rw [e, List.map_append, List.map_singleton]
    exact ho
/-! ### Masks -/
/-- The number whose bits are these. -/
def maskN (g : Nat → Bool) : Nat → Nat
  | 0 => 0
  | t + 1 => maskN g t + (if g t then 2 ^ t else 0)
theorem maskN_lt (g : Nat → Bool) : ∀ t, maskN g t < 2 ^ t
  | 0 => by show 0 < 1; omega
  | t + 1 => by
    have := maskN_lt g t
    rw [maskN, Nat.pow_succ]
    split <;> omega
theorem maskN_bit (g : Nat → Bool) : ∀ (t b : Nat), b < t → (maskN g t).testBit b = g b := by
  intro t
  induction t with
  | zero => intro b hb; omega
  | succ t ih =>
    intro b hb
    have hlt := maskN_lt g t
    rw [maskN]
    by_cases q : b = t
    · subst q
      cases hg : g b with
      | true => rw [if_pos rfl, Nat.add_comm, Nat.testBit_two_pow_add_eq, Nat.testBit_lt_two_pow hlt]; rfl
      | false => rw [if_neg (by decide), Nat.add_zero, Nat.testBit_lt_two_pow hlt]
    · have hbt : b < t := by omega
      cases hg : g t with
      | true =>
        rw [if_pos rfl, Nat.add_comm, Nat.testBit_two_pow_add_gt hbt]
        exact ih b hbt
      | false => rw [if_neg (by decide), Nat.add_zero]; exact ih b hbt
theorem maskN_inj {g g' : Nat → Bool} (h : maskN g 64 = maskN g' 64) : ∀ b, b < 64 → g b = g' b := fun b hb => by rw [← maskN_bit g 64 b hb, h, maskN_bit g' 64 b hb]
theorem maskN_same {g g' : Nat → Bool} : ∀ (t : Nat), (∀ b, b < t → g b = g' b) → maskN g t = maskN g' t := by
  intro t
  induction t with
  | zero => intro _; rfl
  | succ t ih => intro h; rw [maskN, maskN, ih (fun b hb => h b (by omega)), h t (by omega)]
/-- What calls mean under the bits of a number. -/
def meanB (l : List BOp) (i b : Nat) : Bool := (underF (fun v => b.testBit v) l).getD i false
/-- Numbers are the same just if their masks are. -/
theorem mean_same {l : List BOp} {R : List Bd} {all : List Nat} (h : BdJ 1048576 l l.length R all) {i k x y : Nat} (hi : all[i]? = some x) (hk : all[k]? = some y) : (x = y) ↔ (maskN (meanB l i) 64 = maskN (meanB l k) 64) := by
  have hv : ∀ (b j z : Nat), all[j]? = some z → bdEv R (fun v => b.testBit v) z = meanB l j b := fun b j z hz => by
    have := h.val (fun v => b.testBit v)
    rw [List.take_length] at this
    unfold meanB
    rw [← this, List.getD_eq_getElem?_getD, List.getElem?_map, hz]
    rfl
  constructor
  · rintro rfl
    exact maskN_same 64 fun b _ => by rw [← hv b i x hi, ← hv b k x hk]
  · intro e
    have e2 := maskN_inj e
    exact bd_same_low h.ok h.low (h.lt x (List.mem_of_getElem? hi)) (h.lt y (List.mem_of_getElem? hk)) fun b hb => by rw [hv b i x hi, hv b k y hk, e2 b hb]
/-- What Holds says of a number is what its calls mean. -/
theorem mean_holds {l : List BOp} {R : List Bd} {all : List Nat} (h : BdJ 1048576 l l.length R all) {i x : Nat} (hi : all[i]? = some x) (b : Nat) (bits : List Bool) (hb : ∀ v, v < 6 → bdF bits v = b.testBit v) : bdEv R (bdF bits) x = meanB l i b := by
  rw [bdEv_low h.ok h.low (f' := fun v => b.testBit v) hb (x + 1) x (by omega) (h.lt x (List.mem_of_getElem? hi))]
  have := h.val (fun v => b.testBit v)
  rw [List.take_length] at this
  unfold meanB
  rw [← this, List.getD_eq_getElem?_getD, List.getElem?_map, hi]
  rfl
theorem bd_made_one (z : Value) (n : Nat) (hz : z.cells = #[z]) : madeCells z.cells (n * 1) = Array.replicate n z := by
  rw [hz, Nat.mul_one]
  apply Array.ext'
  simp only [madeCells, Array.toList_ofFn, Array.toList_replicate]
  rw [List.eq_replicate_iff]
  exact ⟨by simp, fun b hb => by obtain ⟨i, hi, rfl⟩ := List.mem_iff_getElem.1 hb; simp [Nat.mod_one]⟩
theorem bd_u64_info : (Try.prog.info? 36).map (fun i => (i.zero, i.size, i.bytes)) = some (some (.int .u64 0), 1, 8) := by kernel_rfl
theorem bd_make_u64 (n : Nat) (hn : n ≤ 1048576) (w : World) : (Instr.makeSlice 32 (.int .i64 (n : Int)) (.int .i64 (n : Int))).run Try.prog w = .ok (.slice (some ⟨w.heap.size, 0, none⟩) n n) (w.alloc (.cells ((List.replicate n (.int .u64 0)).toArray) 36)) := by
  obtain ⟨i0, hi0, hi1, hi2, hi3⟩ := info_parts bd_u64_info
  have := run_make (P := Try.prog) w 32 36 i0 _ Try.underlying32 hi0 hi1 .i64 .i64 (n : Int) (n : Int) (by omega) (by omega) (by rw [hi3]; omega) (by omega)
  rw [hi2, Int.toNat_natCast, bd_made_one _ _ rfl] at this
  rw [this]
  congr 3
theorem bd_make_six (w : World) : (Instr.makeSlice 33 (.int .i64 6) (.int .i64 6)).run Try.prog w = .ok (.slice (some ⟨w.heap.size, 0, none⟩) 6 6) (w.alloc (.cells #[.bool false, .bool false, .bool false, .bool false, .bool false, .bool false] 4)) := by
  obtain ⟨i0, hi0, hi1, hi2, hi3⟩ := info_parts bd_bool_info
  have := run_make (P := Try.prog) w 33 4 i0 _ Try.underlying33 hi0 hi1 .i64 .i64 6 6 (by omega) (by omega) (by rw [hi3]; omega) (by omega)
  rw [hi2, bd_made_one _ _ rfl] at this
  rw [this]
  rfl
theorem mask_or (m t : Nat) (hm : m < 2 ^ t) (ht : t < 64) : bits BinOp.or IntKind.u64 (m : Int) (IntKind.u64.wrap (2 ^ t)) = ((m + 2 ^ t : Nat) : Int) := by
  have hp : (2 : Nat) ^ t ≤ 2 ^ 63 := Nat.pow_le_pow_right (by omega) (by omega)
  have hw : IntKind.u64.wrap ((2 : Int) ^ t) = ((2 ^ t : Nat) : Int) := by
    have e : ((2 : Int) ^ t) = ((2 ^ t : Nat) : Int) := by simp
    rw [e]
    exact IntWalk.u64_in _ (by omega)
  rw [hw, bits_or_u64_nat m (2 ^ t) (by omega) (by omega)]
  congr 1
  have := Nat.two_pow_add_eq_or_of_lt hm 1
  rw [Nat.mul_one] at this
  rw [Nat.or_comm, ← this, Nat.add_comm]
/-- The masks behind t rounds, the first i behind one more. -/
def meansA (l : List BOp) (i t n : Nat) : Array Value := ((List.range n).map fun j => Value.int .u64 ((maskN (meanB l j) (if j < i then t + 1 else t) : Nat) : Int)).toArray
theorem meansA_0 (l : List BOp) (n : Nat) : meansA l 0 0 n = (List.replicate n (Value.int .u64 0)).toArray := by
  unfold meansA
  congr 1
  rw [List.eq_replicate_iff]
  refine ⟨by simp, fun b hb => ?_⟩
  obtain ⟨j, _, rfl⟩ := List.mem_map.1 hb
  rw [if_neg (by omega)]
  rfl
theorem meansA_next (l : List BOp) (t n : Nat) : meansA l n t n = meansA l 0 (t + 1) n := by
  unfold meansA
  congr 1
  refine List.map_congr_left fun j hj => ?_
  have := List.mem_range.1 hj
  rw [if_pos this, if_neg (by omega)]
theorem meansA_at (l : List BOp) (i t n j : Nat) (hj : j < n) : (meansA l i t n)[j]? = some (.int .u64 ((maskN (meanB l j) (if j < i then t + 1 else t) : Nat) : Int)) := by
  unfold meansA
  simp [hj]
theorem meansA_set (l : List BOp) (i t n : Nat) (hm : meanB l i t = true) : (meansA l i t n).setIfInBounds i (.int .u64 ((maskN (meanB l i) t + 2 ^ t : Nat) : Int)) = meansA l (i + 1) t n := by
  apply Array.ext'
  unfold meansA
  simp only [List.setIfInBounds_toArray]
  refine List.ext_getElem? fun j => ?_
  rw [List.getElem?_set, List.getElem?_map, List.getElem?_map, List.length_map, List.length_range]
  by_cases q : i = j
  · subst q
    rw [if_pos rfl]
    by_cases h : i < n
    · rw [if_pos h, List.getElem?_range h]
      simp only [Option.map_some]
      rw [if_pos (by omega), maskN, if_pos hm]
    · rw [if_neg h, List.getElem?_eq_none (by simp; omega)]
      rfl
  · rw [if_neg q]
    by_cases h : j < n
    · rw [List.getElem?_range h]
      simp only [Option.map_some]
      by_cases h2 : j < i
      · rw [if_pos h2, if_pos (by omega)]
      · rw [if_neg h2, if_neg (by omega)]
    · rw [List.getElem?_eq_none (by simp; omega)]
      rfl
theorem meansA_skip (l : List BOp) (i t n : Nat) (hm : meanB l i t = false) : meansA l i t n = meansA l (i + 1) t n := by
  unfold meansA
  congr 1
  refine List.map_congr_left fun j hj => ?_
  by_cases q : i = j
  · subst q
    rw [if_neg (by omega), if_pos (by omega), maskN, hm, if_neg (by decide), Nat.add_zero]
  · by_cases h2 : j < i
    · rw [if_pos h2, if_pos (by omega)]
    · rw [if_neg h2, if_neg (by omega)]
theorem meansA_int (l : List BOp) (i t n o : Nat) (u : Value) (h : (meansA l i t n)[o]? = some u) : ∃ x, u = .int .u64 x := by
  unfold meansA at h
  rw [List.getElem?_toArray, List.getElem?_map] at h
  cases e : (List.range n)[o]? with
  | none => rw [e] at h; cases h
  | some j => rw [e] at h; cases h; exact ⟨_, rfl⟩
/-- The store, the numbers that were told, and a row of masks. -/
structure MwI (w V : World) (bs : Nat) (L : BdL) (R : List Bd) (v : Value) (all : List Nat) (mb : Nat) (cs : Array Value) : Prop where
  mn : MnI w V bs L R v all
  arr : V.heap[mb]? = some (.cells cs 36 (0, 0))
  mbw : w.heap.size ≤ mb
theorem MwI.grow {w V X : World} {bs mb : Nat} {L : BdL} {R : List Bd} {v : Value} {all : List Nat} {cs : Array Value} (h : MwI w V bs L R v all mb cs) (hB : Below V.heap.size V X) : MwI w X bs L R v all mb cs :=
  ⟨h.mn.grow hB, (hB.block _ (Array.getElem?_eq_some_iff.1 h.arr).1).trans h.arr, h.mbw⟩
theorem MwI.start {w V : World} {bs : Nat} {L : BdL} {R : List Bd} {v : Value} {all : List Nat} (h : MnI w V bs L R v all) (cs : Array Value) : MwI w (V.alloc (.cells cs 36)) bs L R v all V.heap.size cs :=
  ⟨h.grow ((Below.refl _ _).alloc (Nat.le_refl _) _), heap_alloc_new _ _, h.below.size⟩
theorem MwI.set {w V : World} {bs mb : Nat} {L : BdL} {R : List Bd} {v : Value} {all : List Nat} {cs : Array Value} (h : MwI w V bs L R v all mb cs) (i : Nat) (u : Value) : MwI w (V.setCell ⟨mb, i, none⟩ u) bs L R v all mb (cs.setIfInBounds i u) := by
  have hnL : ¬ L.has mb := h.mn.st.nodes.other h.arr (by decide) (by decide)
  have hnb : bs ≠ mb := fun e => by have := h.mn.st.head; rw [e, h.arr] at this; cases this
  refine ⟨⟨h.mn.below.setCell h.mbw _, ⟨?_, ?_⟩, h.mn.lb, h.mn.bsb, bd_own_keep h.mn.own fun g cur hg => Below.heap_setCell _ _ _ _ fun e => ?_⟩, heap_setCell_same _ _ _ _ _ _ h.arr, h.mbw⟩
  · rw [Below.heap_setCell _ _ _ _ hnb]; exact h.mn.st.head
  · exact h.mn.st.nodes.of_heap fun k hk => Below.heap_setCell _ _ _ _ (fun e => hnL (by simp only at e; exact e ▸ hk))
  · simp only at e
    rw [e, h.arr] at hg
    cases hg
/-- Bits stand where no number is written. -/
theorem BdBits.set {V : World} {p : Option Addr} {bl : List Bool} (h : BdBits V p bl) {mb : Nat} {cs : Array Value} {t : TypeId} (hm : V.heap[mb]? = some (.cells cs t (0, 0))) (hi : ∀ (o : Nat) (u : Value), cs[o]? = some u → ∃ x, u = Value.int .u64 x) (i : Nat) (u : Value) : BdBits (V.setCell ⟨mb, i, none⟩ u) p bl := fun j x hx => by
  obtain ⟨pa, h1, h2⟩ := h j x hx
  refine ⟨pa, h1, ?_⟩
  have hn : (pa.add j).block ≠ mb := fun e => by
    unfold World.cell? at h2
    rw [e, hm] at h2
    simp only at h2
    split at h2
    · cases h2
    · obtain ⟨y, hy⟩ := hi _ _ h2
      cases hy
  exact (World.cell?_of_block (Below.heap_setCell _ _ _ _ hn)).trans h2
/-- Six bits of a number, the first j of them. -/
def bits6 (t j : Nat) : Array Value := #[.bool (decide (0 < j) && t.testBit 0), .bool (decide (1 < j) && t.testBit 1), .bool (decide (2 < j) && t.testBit 2), .bool (decide (3 < j) && t.testBit 3), .bool (decide (4 < j) && t.testBit 4), .bool (decide (5 < j) && t.testBit 5)]
theorem bits6_set (t j : Nat) (hj : j < 6) : (bits6 t j).setIfInBounds j (.bool (t.testBit j)) = bits6 t (j + 1) := by
  match j with
  | 0 => simp [bits6]
  | 1 => simp [bits6]
  | 2 => simp [bits6]
  | 3 => simp [bits6]
  | 4 => simp [bits6]
  | 5 => simp [bits6]
  | j + 6 => omega
theorem bits6_at (t j : Nat) (hj : j < 6) : ∃ u, (bits6 t j)[j]? = some u := by
  have : j < (bits6 t j).size := by simp [bits6]; exact hj
  exact ⟨_, Array.getElem?_eq_getElem this⟩
def six (t : Nat) : List Bool := [t.testBit 0, t.testBit 1, t.testBit 2, t.testBit 3, t.testBit 4, t.testBit 5]
theorem six_F (t : Nat) (v : Nat) (hv : v < 6) : bdF (six t) v = t.testBit v := by
  match v with
  | 0 => rfl
  | 1 => rfl
  | 2 => rfl
  | 3 => rfl
  | 4 => rfl
  | 5 => rfl
  | v + 6 => omega
theorem six_bits_of {U : World} {lb t : Nat} (h : U.heap[lb]? = some (.cells (bits6 t 6) 4 (0, 0))) : BdBits U (some ⟨lb, 0, none⟩) (six t) := fun i x hx => by
  refine ⟨_, rfl, ?_⟩
  rw [Addr.add_lit, Nat.zero_add]
  refine bd_cell h _ _ ?_
  have hi := (List.getElem?_eq_some_iff.1 hx).1
  simp only [six, List.length_cons, List.length_nil] at hi
  match i with
  | 0 => simp [six] at hx; simp [bits6, hx]
  | 1 => simp [six] at hx; simp [bits6, hx]
  | 2 => simp [six] at hx; simp [bits6, hx]
  | 3 => simp [six] at hx; simp [bits6, hx]
  | 4 => simp [six] at hx; simp [bits6, hx]
  | 5 => simp [six] at hx; simp [bits6, hx]
  | i + 6 => omega
/-- What At tells of a half of a node. -/
theorem at_half {R : List Bd} (ok : BdOk R) {a x vn : Nat} {n : Bd} (hn : R[a]? = some n) (h2 : 2 ≤ a) (hx : x = n.lo ∨ x = n.hi) (hvn : n.v = vn) : ∃ (u0 u1 u2 : Nat) (B : Bool), bdAtV R (bdKnown R (x : Int)) = .tuple #[.agg #[.int .i64 (u0 : Int), .int .i64 (u1 : Int), .int .i64 (u2 : Int)], .bool B] ∧ (B = true → vn < u0) := by
  have ha := (List.getElem?_eq_some_iff.1 hn).1
  have hlo := ok.lo _ _ hn h2
  have hhi := ok.hi _ _ hn h2
  have hxl : x < R.length := by rcases hx with rfl | rfl <;> omega
  have hv : vn < bdV R x := by
    rw [← hvn]
    rcases hx with rfl | rfl
    · exact ok.vlo _ _ hn h2
    · exact ok.vhi _ _ hn h2
  rw [bdKnown_of hxl]
  obtain ⟨m, hm⟩ : ∃ m, R[x]? = some m := ⟨_, List.getElem?_eq_getElem hxl⟩
  unfold bdAtV
  rw [hm]
  simp only
  by_cases q : 1 < x
  · rw [if_pos q]
    exact ⟨_, _, _, true, rfl, fun _ => by rw [← bdV_at hm]; exact hv⟩
  · rw [if_neg q]
    exact ⟨0, 0, 0, false, rfl, fun e => by cases e⟩
end Go.Proofs.Ytfphilgdikanfaa
