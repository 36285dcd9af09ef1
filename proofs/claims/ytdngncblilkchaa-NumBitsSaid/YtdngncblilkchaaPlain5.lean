/-
  WHAT IS PROVED HERE: sums, differences, slices of numbers of at most 128 bits, cut to a width; nothing of any program.
-/
import Derived.Test.YtdngncblilkchaaPlain2
import Derived.Test.YtdngncblilkchaaNb
namespace Go.Proofs.Ytdngncblilkchaa
open Go.RowKit
theorem hw_nat (k : Nat) (h : k ≤ 128) : hw (k : Int) = k := by unfold hw heldZ; omega
/-- A sum, a difference, cut to a width. -/
def addN (a b m : Nat) : Nat := (a + b) % 2 ^ 128 % 2 ^ m
def subN (a b m : Nat) : Nat := (a + (B128 - b)) % 2 ^ 128 % 2 ^ m
theorem dvd128 {m : Nat} (hm : m ≤ 128) : 2 ^ m ∣ 2 ^ 128 := Nat.pow_dvd_pow 2 hm
theorem addN_eq (a b : Nat) {m : Nat} (hm : m ≤ 128) : addN a b m = (a + b) % 2 ^ m := Nat.mod_mod_of_dvd _ (dvd128 hm)
theorem addN_lt (a b : Nat) {m : Nat} : addN a b m < B128 := by
  rw [b128]; unfold addN
  exact Nat.lt_of_le_of_lt (Nat.mod_le _ _) (Nat.mod_lt _ (Nat.two_pow_pos _))
theorem subN_lt (a b : Nat) {m : Nat} : subN a b m < B128 := by
  rw [b128]; unfold subN
  exact Nat.lt_of_le_of_lt (Nat.mod_le _ _) (Nat.mod_lt _ (Nat.two_pow_pos _))
theorem addN_comm (a b m : Nat) : addN a b m = addN b a m := by unfold addN; rw [Nat.add_comm]
theorem addN_assoc (a b c : Nat) {m : Nat} (hm : m ≤ 128) : addN (addN a b m) c m = addN a (addN b c m) m := by
  rw [addN_eq _ _ hm, addN_eq _ _ hm, addN_eq _ _ hm, addN_eq _ _ hm, Nat.mod_add_mod, Nat.add_mod_mod, Nat.add_assoc]
theorem subN_eq (a b : Nat) {m : Nat} (hm : m ≤ 128) : subN a b m = (a + (B128 - b)) % 2 ^ m := Nat.mod_mod_of_dvd _ (dvd128 hm)
theorem add_sub (a b : Nat) {m : Nat} (hm : m ≤ 128) (hb : b < B128) (ha : a < 2 ^ m) : addN (subN a b m) b m = a := by
  rw [addN_eq _ _ hm, subN_eq _ _ hm, Nat.mod_add_mod, show a + (B128 - b) + b = a + B128 by omega, b128]
  obtain ⟨c, hc⟩ := dvd128 hm
  rw [hc, Nat.add_mul_mod_self_left, Nat.mod_eq_of_lt ha]
theorem not_eq (b : Nat) {m : Nat} (hb : b < 2 ^ m) : b % 2 ^ m ^^^ (2 ^ m - 1) = 2 ^ m - 1 - b := by
  rw [Nat.mod_eq_of_lt hb]
  apply Nat.eq_of_testBit_eq
  intro i
  rw [Nat.testBit_xor, Nat.testBit_two_pow_sub_one, show 2 ^ m - 1 - b = 2 ^ m - (b + 1) by omega, Nat.testBit_two_pow_sub_succ hb]
  by_cases h : i < m
  · simp [h]
  · have : b.testBit i = false := Nat.testBit_lt_two_pow (Nat.lt_of_lt_of_le hb (Nat.pow_le_pow_right (by decide) (by omega)))
    simp [h, this]
theorem sub_not (a b : Nat) {m : Nat} (hm : m ≤ 128) (hb : b < 2 ^ m) : subN a b m = addN a (addN (b % 2 ^ m ^^^ (2 ^ m - 1)) 1 m) m := by
  have h128 : 2 ^ m ≤ 2 ^ 128 := Nat.pow_le_pow_right (by decide) hm
  rw [not_eq b hb, addN_eq _ _ hm, addN_eq _ _ hm, subN_eq _ _ hm, Nat.add_mod_mod, b128]
  obtain ⟨c, hc⟩ := dvd128 hm
  have hp := Nat.two_pow_pos m
  have e : 2 ^ 128 - b = (2 ^ m - 1 - b + 1) + 2 ^ m * (c - 1) := by
    have hc1 : 1 ≤ c := by
      apply Classical.byContradiction
      intro h
      have : c = 0 := by omega
      rw [this] at hc; simp at hc
    rw [Nat.mul_sub, Nat.mul_one, ← hc]
    omega
  rw [e, ← Nat.add_assoc, Nat.add_mul_mod_self_left]
theorem addN_mod (a b m : Nat) : addN a b m % 2 ^ m = addN a b m := Nat.mod_mod _ _
theorem cmp_turned (a b : Nat) : decide (cmpN a b < 0) = decide (0 < cmpN b a) := by
  unfold cmpN
  rw [decide_eq_decide]
  split <;> split <;> (try split) <;> (try split) <;> omega
theorem slice_hi (a m k : Nat) (hm : m ≤ 128) (hk : 1 ≤ k) (hkm : k < m) (ha : a < 2 ^ m) : sliceN a ((m : Int) - 1) (k : Int) = a / 2 ^ k := by
  unfold sliceN
  rw [if_neg (by omega), hw_nat k (by omega)]
  have : hw (min ((m : Int) - 1 - k) 128 + 1) = m - k := by unfold hw heldZ; omega
  rw [this]
  apply Nat.mod_eq_of_lt
  rw [Nat.div_lt_iff_lt_mul (Nat.two_pow_pos _), ← Nat.pow_add, show m - k + k = m by omega]
  exact ha
theorem slice_lo (a k : Nat) (hk : 1 ≤ k) (hk' : k ≤ 128) : sliceN a ((k : Int) - 1) 0 = a % 2 ^ k := by
  unfold sliceN
  rw [if_neg (by omega)]
  have h1 : hw 0 = 0 := rfl
  have : hw (min ((k : Int) - 1 - 0) 128 + 1) = k := by unfold hw heldZ; omega
  rw [this, h1, Nat.pow_zero, Nat.div_one]
theorem cat_back (a k : Nat) (hk : k ≤ 128) (ha : a < B128) : catN (a / 2 ^ k) (a % 2 ^ k) (k : Int) = a := by
  unfold catN
  rw [hw_nat k hk, Nat.mod_mod]
  have h1 : a / 2 ^ k * 2 ^ k ≤ a := Nat.div_mul_le_self _ _
  rw [Nat.mod_eq_of_lt (by rw [← b128]; omega), Nat.mul_comm, ← Nat.two_pow_add_eq_or_of_lt (Nat.mod_lt _ (Nat.two_pow_pos _)), Nat.div_add_mod]

/-- Three numbers' variables, the call's own first blocks. -/
structure Three (w : World) (a b c : Nat) (W : World) : Prop where
  below : Below w.heap.size w W
  size : w.heap.size + 1 + 1 + 1 ≤ W.heap.size
  a0 : W.cell? ⟨w.heap.size, 0, none⟩ = some (.int .u64 (hi a))
  a1 : W.cell? ⟨w.heap.size, 1, none⟩ = some (.int .u64 (lo a))
  b0 : W.cell? ⟨w.heap.size + 1, 0, none⟩ = some (.int .u64 (hi b))
  b1 : W.cell? ⟨w.heap.size + 1, 1, none⟩ = some (.int .u64 (lo b))
  c0 : W.cell? ⟨w.heap.size + 1 + 1, 0, none⟩ = some (.int .u64 (hi c))
  c1 : W.cell? ⟨w.heap.size + 1 + 1, 1, none⟩ = some (.int .u64 (lo c))
  fa : ∀ o, W.frozen? ⟨w.heap.size, o, none⟩ = false
  fb : ∀ o, W.frozen? ⟨w.heap.size + 1, o, none⟩ = false
  fc : ∀ o, W.frozen? ⟨w.heap.size + 1 + 1, o, none⟩ = false
theorem Three.start (w : World) (a b c : Nat) (T : TypeId) : Three w a b c (((w.alloc (.cells #[.int .u64 (hi a), .int .u64 (lo a)] T)).alloc (.cells #[.int .u64 (hi b), .int .u64 (lo b)] T)).alloc (.cells #[.int .u64 (hi c), .int .u64 (lo c)] T)) := by
  have h1 : (w.alloc (.cells #[.int .u64 (hi a), .int .u64 (lo a)] T)).heap.size = w.heap.size + 1 := by simp
  have h2 : ((w.alloc (.cells #[.int .u64 (hi a), .int .u64 (lo a)] T)).alloc (.cells #[.int .u64 (hi b), .int .u64 (lo b)] T)).heap.size = w.heap.size + 1 + 1 := by simp
  exact ⟨(((Below.refl _ _).alloc (Nat.le_refl _) _).alloc (by omega) _).alloc (by omega) _, by simp,
    (cell_old _ _ _ 0 (by omega)).trans ((cell_old _ _ _ 0 (by omega)).trans (cell_new w _ T _ 0 rfl)), (cell_old _ _ _ 1 (by omega)).trans ((cell_old _ _ _ 1 (by omega)).trans (cell_new w _ T _ 1 rfl)),
    (cell_old _ _ _ 0 (by omega)).trans (cell_new _ _ T _ 0 h1.symm), (cell_old _ _ _ 1 (by omega)).trans (cell_new _ _ T _ 1 h1.symm),
    cell_new _ _ T _ 0 h2.symm, cell_new _ _ T _ 1 h2.symm,
    fun o => (frozen_old _ _ _ o (by omega)).trans ((frozen_old _ _ _ o (by omega)).trans (frozen_new w _ T _ o rfl)), fun o => (frozen_old _ _ _ o (by omega)).trans (frozen_new _ _ T _ o h1.symm), fun o => frozen_new _ _ T _ o h2.symm⟩
theorem Three.plus {w W : World} {a b c : Nat} (h : Three w a b c W) (x : Ext) : Three w a b c (plus W x) := by
  have hs := h.size
  have bp := below_plus W x
  exact ⟨h.below.trans (bp.mono (by omega)), Nat.le_trans h.size bp.size, (cell_plus W x _ _ (by omega)).trans h.a0, (cell_plus W x _ _ (by omega)).trans h.a1, (cell_plus W x _ _ (by omega)).trans h.b0, (cell_plus W x _ _ (by omega)).trans h.b1,
    (cell_plus W x _ _ (by omega)).trans h.c0, (cell_plus W x _ _ (by omega)).trans h.c1, fun o => (frozen_plus W x _ _ (by omega)).trans (h.fa o), fun o => (frozen_plus W x _ _ (by omega)).trans (h.fb o), fun o => (frozen_plus W x _ _ (by omega)).trans (h.fc o)⟩
theorem Three.store {w W : World} {a b c : Nat} (h : Three w a b c W) (A B C : Nat) : Three w A B C ((((((W.setCell ⟨w.heap.size, 0, none⟩ (.int .u64 (hi A))).setCell ⟨w.heap.size, 1, none⟩ (.int .u64 (lo A))).setCell ⟨w.heap.size + 1, 0, none⟩ (.int .u64 (hi B))).setCell ⟨w.heap.size + 1, 1, none⟩ (.int .u64 (lo B))).setCell ⟨w.heap.size + 1 + 1, 0, none⟩ (.int .u64 (hi C))).setCell ⟨w.heap.size + 1 + 1, 1, none⟩ (.int .u64 (lo C))) := by
  refine ⟨((((((h.below.setCell (Nat.le_refl _) _).setCell (Nat.le_refl _) _).setCell (Nat.le_add_right _ 1) _).setCell (Nat.le_add_right _ 1) _).setCell (Nat.le_add_right _ 2) _).setCell (Nat.le_add_right _ 2) _), ?_, ?_, ?_, ?_, ?_, ?_, ?_, ?_, ?_, ?_⟩
  · have := h.size; simp [World.setCell]; omega
  · rw [World.cell?_setCell_other _ _ _ _ (by simp), World.cell?_setCell_other _ _ _ _ (by simp), World.cell?_setCell_other _ _ _ _ (by simp), World.cell?_setCell_other _ _ _ _ (by simp), World.cell?_setCell_other _ _ _ _ (by simp)]
    exact World.cell?_setCell_same _ _ _ h.a0
  · rw [World.cell?_setCell_other _ _ _ _ (by simp), World.cell?_setCell_other _ _ _ _ (by simp), World.cell?_setCell_other _ _ _ _ (by simp), World.cell?_setCell_other _ _ _ _ (by simp)]
    refine World.cell?_setCell_same _ _ _ (u := .int .u64 (lo a)) ?_
    rw [World.cell?_setCell_other _ _ _ _ (by simp)]
    exact h.a1
  · rw [World.cell?_setCell_other _ _ _ _ (by simp), World.cell?_setCell_other _ _ _ _ (by simp), World.cell?_setCell_other _ _ _ _ (by simp)]
    refine World.cell?_setCell_same _ _ _ (u := .int .u64 (hi b)) ?_
    rw [World.cell?_setCell_other _ _ _ _ (by simp), World.cell?_setCell_other _ _ _ _ (by simp)]
    exact h.b0
  · rw [World.cell?_setCell_other _ _ _ _ (by simp), World.cell?_setCell_other _ _ _ _ (by simp)]
    refine World.cell?_setCell_same _ _ _ (u := .int .u64 (lo b)) ?_
    rw [World.cell?_setCell_other _ _ _ _ (by simp), World.cell?_setCell_other _ _ _ _ (by simp), World.cell?_setCell_other _ _ _ _ (by simp)]
    exact h.b1
  · rw [World.cell?_setCell_other _ _ _ _ (by simp)]
    refine World.cell?_setCell_same _ _ _ (u := .int .u64 (hi c)) ?_
    rw [World.cell?_setCell_other _ _ _ _ (by simp), World.cell?_setCell_other _ _ _ _ (by simp), World.cell?_setCell_other _ _ _ _ (by simp), World.cell?_setCell_other _ _ _ _ (by simp)]
    exact h.c0
  · refine World.cell?_setCell_same _ _ _ (u := .int .u64 (lo c)) ?_
    rw [World.cell?_setCell_other _ _ _ _ (by simp), World.cell?_setCell_other _ _ _ _ (by simp), World.cell?_setCell_other _ _ _ _ (by simp), World.cell?_setCell_other _ _ _ _ (by simp), World.cell?_setCell_other _ _ _ _ (by simp)]
    exact h.c1
  · intro o; simp only [World.frozen?_setCell]; exact h.fa o
  · intro o; simp only [World.frozen?_setCell]; exact h.fb o
  · intro o; simp only [World.frozen?_setCell]; exact h.fc o
end Go.Proofs.Ytdngncblilkchaa
