/-
  WHAT IS PROVED HERE: a number's bytes and digits, there and back; the worlds in the loops of Bytes and From; nothing of any program.
-/
import Derived.Test.YtdngncblilkchaaPlain4
import Derived.Test.YtdngncblilkchaaPlain5
namespace Go.Proofs.Ytdngncblilkchaa
open Go.RowKit
/-- The byte i, the lowest one first. -/
def byteV (n i : Nat) : Int := ((n / 2 ^ (8 * i) % 256 : Nat) : Int)
theorem byte_wrap (n i : Nat) (hi : i < 16) : IntKind.u8.wrap (lo (n / 2 ^ hw ((i : Int) * 8))) = byteV n i := by
  have : hw ((i : Int) * 8) = 8 * i := by unfold hw heldZ; omega
  rw [this, IntKind.wrap_u8]
  unfold lo byteV
  omega
theorem byteV_bounds (n i : Nat) : 0 ≤ byteV n i ∧ byteV n i ≤ 255 := by unfold byteV; omega
/-- A byte more. -/
theorem cat_byte (n k x : Nat) (hn : n < B128) (hk : k < 16) (hx : x = n / 2 ^ (8 * (15 - k)) % 256) : catN (n / 2 ^ (8 * (16 - k))) x 8 = n / 2 ^ (8 * (16 - (k + 1))) := by
  have e : n / 2 ^ (8 * (16 - k)) = n / 2 ^ (8 * (15 - k)) / 2 ^ 8 := by rw [Nat.div_div_eq_div_mul, ← Nat.pow_add]; congr 2; omega
  have h8 : hw 8 = 8 := rfl
  have e2 : n / 2 ^ (8 * (16 - (k + 1))) = n / 2 ^ (8 * (15 - k)) := by congr 2; omega
  rw [e, e2, hx]
  have hN : n / 2 ^ (8 * (15 - k)) < B128 := Nat.lt_of_le_of_lt (Nat.div_le_self _ _) hn
  generalize n / 2 ^ (8 * (15 - k)) = N at hN
  have := cat_back N 8 (by decide) hN
  unfold catN at this ⊢
  rw [show ((8 : Nat) : Int) = 8 from rfl, h8] at this
  rw [h8]
  exact this
/-- What Bytes' array holds behind k bytes. -/
def bcell (n k i : Nat) : Int := if 15 < i + k then byteV n (15 - i) else 0
theorem bcell_new (n k p : Nat) (h : p + k = 15) : bcell n (k + 1) p = byteV n k := by unfold bcell; rw [if_pos (by omega), show 15 - p = k by omega]
theorem bcell_old (n k p i : Nat) (h : p + k = 15) (hi : i ≠ p) : bcell n (k + 1) i = bcell n k i := by
  unfold bcell
  by_cases h1 : 15 < i + k
  · rw [if_pos h1, if_pos (by omega)]
  · rw [if_neg h1, if_neg (by omega)]
theorem bcell_all (n i : Nat) (h : i < 16) : bcell n 16 i = byteV n (15 - i) := if_pos (by omega)
/-- The world in Bytes' loop: the number's block, the bytes' block. -/
structure BInv (w : World) (n k : Nat) (wr : World) : Prop where
  below : Below w.heap.size w wr
  size : w.heap.size + 1 + 1 ≤ wr.heap.size
  n0 : wr.cell? ⟨w.heap.size, 0, none⟩ = some (.int .u64 (hi n))
  n1 : wr.cell? ⟨w.heap.size, 1, none⟩ = some (.int .u64 (lo n))
  fb : ∀ o, wr.frozen? ⟨w.heap.size + 1, o, none⟩ = false
  b : ∀ i, i < 16 → wr.cell? ⟨w.heap.size + 1, i, none⟩ = some (.int .u8 (bcell n k i))
theorem BInv.plus {w wr : World} {n k : Nat} (h : BInv w n k wr) (x : Ext) : BInv w n k (plus wr x) := by
  have hs := h.size
  have bp := below_plus wr x
  exact ⟨h.below.trans (bp.mono (by omega)), Nat.le_trans h.size bp.size, (cell_plus wr x _ _ (by omega)).trans h.n0, (cell_plus wr x _ _ (by omega)).trans h.n1,
    fun o => (frozen_plus wr x _ _ (by omega)).trans (h.fb o), fun i hi => (cell_plus wr x _ _ (by omega)).trans (h.b i hi)⟩
theorem BInv.store {w wr : World} {n k p : Nat} (h : BInv w n k wr) (hp : p + k = 15) : BInv w n (k + 1) (wr.setCell ⟨w.heap.size + 1, p, none⟩ (.int .u8 (byteV n k))) := by
  have hs := h.size
  refine ⟨h.below.setCell (Nat.le_add_right _ 1) _, by simp [World.setCell]; omega, ?_, ?_, ?_, fun i hi => ?_⟩
  · rw [World.cell?_setCell_other _ _ _ _ (by simp)]; exact h.n0
  · rw [World.cell?_setCell_other _ _ _ _ (by simp)]; exact h.n1
  · intro o; simp only [World.frozen?_setCell]; exact h.fb o
  · by_cases hip : i = p
    · subst hip
      rw [bcell_new n k i hp]
      exact World.cell?_setCell_same _ _ _ (h.b i hi)
    · rw [World.cell?_setCell_other _ _ _ _ (by simp <;> omega), bcell_old n k p i hp hip]
      exact h.b i hi
/-- The world in From's loop: the result's block, the number's; the bytes are there. -/
structure FInv (w : World) (g n N : Nat) (wr : World) : Prop where
  below : Below w.heap.size w wr
  size : w.heap.size + 1 + 1 ≤ wr.heap.size
  n0 : wr.cell? ⟨w.heap.size + 1, 0, none⟩ = some (.int .u64 (hi N))
  n1 : wr.cell? ⟨w.heap.size + 1, 1, none⟩ = some (.int .u64 (lo N))
  r0 : wr.cell? ⟨w.heap.size, 0, none⟩ = some (.int .u64 0)
  r1 : wr.cell? ⟨w.heap.size, 1, none⟩ = some (.int .u64 0)
  fn : ∀ o, wr.frozen? ⟨w.heap.size + 1, o, none⟩ = false
  fr : ∀ o, wr.frozen? ⟨w.heap.size, o, none⟩ = false
  b : ∀ i, i < 16 → wr.cell? ⟨g, i, none⟩ = some (.int .u8 (byteV n (15 - i)))
theorem FInv.plus {w wr : World} {g n N : Nat} (h : FInv w g n N wr) (hg : g < w.heap.size) (x : Ext) : FInv w g n N (plus wr x) := by
  have hs := h.size
  have bp := below_plus wr x
  exact ⟨h.below.trans (bp.mono (by omega)), Nat.le_trans h.size bp.size, (cell_plus wr x _ _ (by omega)).trans h.n0, (cell_plus wr x _ _ (by omega)).trans h.n1, (cell_plus wr x _ _ (by omega)).trans h.r0, (cell_plus wr x _ _ (by omega)).trans h.r1,
    fun o => (frozen_plus wr x _ _ (by omega)).trans (h.fn o), fun o => (frozen_plus wr x _ _ (by omega)).trans (h.fr o), fun i hi => (cell_plus wr x _ _ (by omega)).trans (h.b i hi)⟩
theorem FInv.store {w wr : World} {g n N : Nat} (h : FInv w g n N wr) (hg : g < w.heap.size) (M : Nat) : FInv w g n M ((wr.setCell ⟨w.heap.size + 1, 0, none⟩ (.int .u64 (hi M))).setCell ⟨w.heap.size + 1, 1, none⟩ (.int .u64 (lo M))) := by
  have hs := h.size
  refine ⟨(h.below.setCell (Nat.le_add_right _ 1) _).setCell (Nat.le_add_right _ 1) _, by simp [World.setCell]; omega, ?_, ?_, ?_, ?_, ?_, ?_, fun i hi => ?_⟩
  · rw [World.cell?_setCell_other _ _ _ _ (by simp)]; exact World.cell?_setCell_same _ _ _ h.n0
  · refine World.cell?_setCell_same _ _ _ (u := .int .u64 (lo N)) ?_
    rw [World.cell?_setCell_other _ _ _ _ (by simp)]; exact h.n1
  · rw [World.cell?_setCell_other _ _ _ _ (by simp), World.cell?_setCell_other _ _ _ _ (by simp)]; exact h.r0
  · rw [World.cell?_setCell_other _ _ _ _ (by simp), World.cell?_setCell_other _ _ _ _ (by simp)]; exact h.r1
  · intro o; simp only [World.frozen?_setCell]; exact h.fn o
  · intro o; simp only [World.frozen?_setCell]; exact h.fr o
  · rw [World.cell?_setCell_other _ _ _ _ (by simp <;> omega), World.cell?_setCell_other _ _ _ _ (by simp <;> omega)]; exact h.b i hi
/-! ### Digits there and back -/
theorem digB_zero (n : Nat) : digB n 0 = [UInt8.ofNat (48 + n % 10)] := by simp [digB]
theorem digB_succ (n j : Nat) : digB n (j + 1) = digB (n / 10) j ++ [UInt8.ofNat (48 + n % 10)] := by
  unfold digB
  rw [List.range_succ, List.map_append]
  congr 1
  · apply List.map_congr_left
    intro i hi
    have hi' : i < j + 1 := by simpa using hi
    rw [show j + 1 - i = (j - i) + 1 by omega, Nat.div_div_eq_div_mul, Nat.pow_succ, Nat.mul_comm 10]
  · simp
theorem byte_toNat (d : Nat) (h : d < 10) : (UInt8.ofNat (48 + d)).toNat = 48 + d := by simp; omega
theorem dig_of (d : Nat) (h : d < 10) : digV ((UInt8.ofNat (48 + d)).toNat : Int) 10 = d := by
  rw [byte_toNat d h]; unfold digV; rw [if_pos (by omega)]; omega
theorem digB_digs : ∀ (j n : Nat), digs 10 (digB n j)
  | 0, n => by
    rw [digB_zero]
    intro c hc
    rw [List.mem_singleton.1 hc]
    rw [show ((10 : Nat) : Int) = 10 from rfl, dig_of _ (Nat.mod_lt _ (by decide))]
    omega
  | j + 1, n => by
    rw [digB_succ]
    refine digs_snoc _ _ _ (digB_digs j (n / 10)) ?_
    rw [show ((10 : Nat) : Int) = 10 from rfl, dig_of _ (Nat.mod_lt _ (by decide))]
    omega
theorem digB_val : ∀ (j n : Nat), valOf 10 (digB n j) = n % 10 ^ (j + 1)
  | 0, n => by
    rw [digB_zero, show [UInt8.ofNat (48 + n % 10)] = [] ++ [UInt8.ofNat (48 + n % 10)] from rfl, valOf_snoc, show ((10 : Nat) : Int) = 10 from rfl, dig_of _ (Nat.mod_lt _ (by decide))]
    simp [valOf]; omega
  | j + 1, n => by
    rw [digB_succ, valOf_snoc, digB_val j (n / 10), show ((10 : Nat) : Int) = 10 from rfl, dig_of _ (Nat.mod_lt _ (by decide)), Nat.pow_succ 10 (j + 1), Nat.mul_comm (10 ^ (j + 1)) 10, Nat.mod_mul, Int.toNat_natCast]
    omega
theorem digB_ne (n j : Nat) : digB n j ≠ [] := by cases j <;> simp [digB_zero, digB_succ]
/-- A number has so many digits. -/
theorem ndig (n : Nat) : ∃ J, n / 10 ^ (J + 1) = 0 ∧ ∀ j, j < J → n / 10 ^ (j + 1) ≠ 0 := by
  induction n using Nat.strongRecOn with
  | _ n ih =>
    by_cases h : n < 10
    · exact ⟨0, by simp [Nat.div_eq_of_lt h], fun j hj => by omega⟩
    · obtain ⟨J, h1, h2⟩ := ih (n / 10) (by omega)
      refine ⟨J + 1, ?_, fun j hj => ?_⟩
      · rw [Nat.pow_succ, Nat.mul_comm, ← Nat.div_div_eq_div_mul]; exact h1
      · rw [Nat.pow_succ, Nat.mul_comm, ← Nat.div_div_eq_div_mul]
        cases j with
        | zero => simp; omega
        | succ j => exact h2 j (by omega)
theorem ndig_le (n J : Nat) (hn : n < B128) (h : ∀ j, j < J → n / 10 ^ (j + 1) ≠ 0) : J ≤ 38 := by
  cases J with
  | zero => omega
  | succ J => exact div_ne n (J + 1) hn (h J (by omega))
theorem digB_mod (n J : Nat) (h : n / 10 ^ (J + 1) = 0) : n % 10 ^ (J + 1) = n := Nat.mod_eq_of_lt ((Nat.div_eq_zero_iff_lt (Nat.pow_pos (by decide))).1 h)
/-- A digit's sign and its number. -/
theorem dig_sign (c : UInt8) (h : digV (c.toNat : Int) 10 < 10) : UInt8.ofNat (48 + (digV (c.toNat : Int) 10).toNat) = c ∧ (digV (c.toNat : Int) 10).toNat < 10 := by
  have hc : 48 ≤ c.toNat ∧ c.toNat ≤ 57 := by
    unfold digV at h
    split at h
    · omega
    · split at h
      · omega
      · split at h <;> omega
  have e : digV (c.toNat : Int) 10 = (c.toNat : Int) - 48 := by unfold digV; rw [if_pos (by omega)]
  rw [e]
  refine ⟨?_, by omega⟩
  apply UInt8.toNat_inj.1
  rw [byte_toNat _ (by omega)]
  omega
/-- Digits are those of their number. -/
theorem back_digits : ∀ (k : Nat) (l : List UInt8), l.length = k + 1 → digs 10 l → digB (valOf 10 l) k = l ∧ valOf 10 l < 10 ^ (k + 1) := by
  intro k
  induction k with
  | zero =>
    intro l hl hd
    obtain ⟨c, rfl⟩ : ∃ c, l = [c] := by
      match l, hl with
      | [c], _ => exact ⟨c, rfl⟩
    obtain ⟨h1, h2⟩ := dig_sign c (hd c (by simp))
    have e : valOf 10 [c] = (digV (c.toNat : Int) 10).toNat := by simp [valOf]
    rw [e, digB_zero, Nat.mod_eq_of_lt h2, h1]
    exact ⟨rfl, by omega⟩
  | succ k ih =>
    intro l hl hd
    obtain ⟨l', c, rfl⟩ : ∃ l' c, l = l' ++ [c] := ⟨l.dropLast, l.getLast (by intro e; rw [e] at hl; simp at hl), (List.dropLast_concat_getLast _).symm⟩
    obtain ⟨g1, g2⟩ := ih l' (by simpa using hl) (fun x hx => hd x (by simp [hx]))
    obtain ⟨h1, h2⟩ := dig_sign c (hd c (by simp))
    rw [valOf_snoc, digB_succ]
    have e1 : (valOf 10 l' * 10 + (digV (c.toNat : Int) ((10 : Nat) : Int)).toNat) / 10 = valOf 10 l' := by
      rw [show ((10 : Nat) : Int) = 10 from rfl]; omega
    have e2 : (valOf 10 l' * 10 + (digV (c.toNat : Int) ((10 : Nat) : Int)).toNat) % 10 = (digV (c.toNat : Int) 10).toNat := by
      rw [show ((10 : Nat) : Int) = 10 from rfl]; omega
    rw [e1, e2, g1, h1]
    refine ⟨rfl, ?_⟩
    rw [show ((10 : Nat) : Int) = 10 from rfl, Nat.pow_succ]
    omega
end Go.Proofs.Ytdngncblilkchaa
