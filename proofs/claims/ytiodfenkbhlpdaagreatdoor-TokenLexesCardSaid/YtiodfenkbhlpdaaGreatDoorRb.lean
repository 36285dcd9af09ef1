/-
  WHAT IS PROVED HERE: the document's Num hands back the number of bits, in whatever world.
-/
import Derived.Test.YtiodfenkbhlpdaaGreatDoorRa
namespace Go.Proofs.YtiodfenkbhlpdaaGreatDoor
open Go.RowKit
/-- So many of the highest of 64 bits from b on. -/
def accF (f : Nat → Bool) (b : Nat) : Nat → Nat
  | 0 => 0
  | k + 1 => 2 * accF f b k + (f (b + 63 - k)).toNat
theorem accF_lt (f : Nat → Bool) (b : Nat) : ∀ k, accF f b k < 2 ^ k
  | 0 => by simp [accF]
  | k + 1 => by
    have := accF_lt f b k
    have h2 : (f (b + 63 - k)).toNat ≤ 1 := by cases f (b + 63 - k) <;> simp
    rw [accF, Nat.pow_succ]; omega
theorem accF_bit (f : Nat → Bool) (b : Nat) : ∀ k i, k ≤ 64 → (accF f b k).testBit i = (decide (i < k) && f (b + (64 - k) + i))
  | 0, i, _ => by simp [accF]
  | k + 1, 0, hk => by
    rw [accF, Nat.testBit_zero]
    cases h : f (b + 63 - k) <;> rw [show b + (64 - (k + 1)) + 0 = b + 63 - k by omega, h] <;> simp
  | k + 1, i + 1, hk => by
    rw [accF, Nat.testBit_succ]
    have : (2 * accF f b k + (f (b + 63 - k)).toNat) / 2 = accF f b k := by
      have h2 : (f (b + 63 - k)).toNat ≤ 1 := by cases f (b + 63 - k) <;> simp
      omega
    rw [this, accF_bit f b k i (by omega), show b + (64 - (k + 1)) + (i + 1) = b + (64 - k) + i by omega]
    simp
/-- The number of a row's bits. -/
def numF (f : Nat → Bool) : Nat := accF f 64 64 * 2 ^ 64 + accF f 0 64
theorem numF_lt (f : Nat → Bool) : numF f < B128 := by
  have h1 := accF_lt f 64 64
  have h2 := accF_lt f 0 64
  unfold numF; rw [b128]; omega
theorem numF_hi (f : Nat → Bool) : hi (numF f) = (accF f 64 64 : Nat) := by
  have h2 := accF_lt f 0 64
  unfold hi numF; omega
theorem numF_lo (f : Nat → Bool) : lo (numF f) = (accF f 0 64 : Nat) := by
  have h2 := accF_lt f 0 64
  unfold lo numF; omega
theorem numF_bit (f : Nat → Bool) (i : Nat) : (numF f).testBit i = (decide (i < 128) && f i) := by
  have h2 := accF_lt f 0 64
  unfold numF
  rw [Nat.mul_comm, Nat.testBit_two_pow_mul_add _ h2]
  split
  · rename_i h
    rw [accF_bit f 0 64 i (by omega), show 0 + (64 - 64) + i = i by omega]
    simp [h, show i < 128 by omega]
  · rename_i h
    rw [accF_bit f 64 64 (i - 64) (by omega), show 64 + (64 - 64) + (i - 64) = i by omega]
    congr 1
    rw [decide_eq_decide]; omega
/-- A number whose bits are a row's is the row's. -/
theorem numF_eq (f : Nat → Bool) (n : Nat) (hn : n < B128) (h : ∀ i, i < 128 → f i = n.testBit i) : numF f = n := by
  apply Nat.eq_of_testBit_eq
  intro i
  rw [numF_bit]
  by_cases hi : i < 128
  · simp [hi, h i hi]
  · rw [b128] at hn
    have : n.testBit i = false := Nat.testBit_lt_two_pow (Nat.lt_of_lt_of_le hn (Nat.pow_le_pow_right (by decide) (by omega)))
    simp [hi, this]
/-- The world in Num's loop: the row's block, the result's, the number's, these its halves. -/
structure N2 (w : World) (f : Nat → Bool) (h l : Int) (V : World) : Prop where
  below : Below w.heap.size w V
  size : w.heap.size + 1 + 1 + 1 ≤ V.heap.size
  n0 : V.cell? ⟨w.heap.size + 1 + 1, 0, none⟩ = some (.int .u64 h)
  n1 : V.cell? ⟨w.heap.size + 1 + 1, 1, none⟩ = some (.int .u64 l)
  r0 : V.cell? ⟨w.heap.size + 1, 0, none⟩ = some (.int .u64 0)
  r1 : V.cell? ⟨w.heap.size + 1, 1, none⟩ = some (.int .u64 0)
  fn : ∀ o, V.frozen? ⟨w.heap.size + 1 + 1, o, none⟩ = false
  fr : ∀ o, V.frozen? ⟨w.heap.size + 1, o, none⟩ = false
  row : RowAt V w.heap.size f
theorem N2.set0 {w V : World} {f : Nat → Bool} {h l : Int} (H : N2 w f h l V) (v : Int) : N2 w f v l (V.setCell ⟨w.heap.size + 1 + 1, 0, none⟩ (.int .u64 v)) :=
  ⟨H.below.setCell (Nat.le_add_right _ 2) _, by have := H.size; simp [World.setCell]; omega, World.cell?_setCell_same _ _ _ H.n0, (World.cell?_setCell_other _ _ _ _ (by simp)).trans H.n1, (World.cell?_setCell_other _ _ _ _ (by simp)).trans H.r0, (World.cell?_setCell_other _ _ _ _ (by simp)).trans H.r1,
    fun o => by rw [World.frozen?_setCell]; exact H.fn o, fun o => by rw [World.frozen?_setCell]; exact H.fr o, H.row.other _ (by simp <;> omega) _⟩
theorem N2.set1 {w V : World} {f : Nat → Bool} {h l : Int} (H : N2 w f h l V) (v : Int) : N2 w f h v (V.setCell ⟨w.heap.size + 1 + 1, 1, none⟩ (.int .u64 v)) :=
  ⟨H.below.setCell (Nat.le_add_right _ 2) _, by have := H.size; simp [World.setCell]; omega, (World.cell?_setCell_other _ _ _ _ (by simp)).trans H.n0, World.cell?_setCell_same _ _ _ H.n1, (World.cell?_setCell_other _ _ _ _ (by simp)).trans H.r0, (World.cell?_setCell_other _ _ _ _ (by simp)).trans H.r1,
    fun o => by rw [World.frozen?_setCell]; exact H.fn o, fun o => by rw [World.frozen?_setCell]; exact H.fr o, H.row.other _ (by simp <;> omega) _⟩
theorem N2.cast {w V : World} {f : Nat → Bool} {h l h' l' : Int} (H : N2 w f h l V) (e : h = h') (e' : l = l') : N2 w f h' l' V := by subst e e'; exact H
theorem N2.start (w : World) (f : Nat → Bool) (T : TypeId) : N2 w f 0 0 (((w.alloc (.cells (rowL f).toArray 95)).alloc (.cells #[.int .u64 0, .int .u64 0] T)).alloc (.cells #[.int .u64 0, .int .u64 0] T)) := by
  have h1 : (w.alloc (.cells (rowL f).toArray 95)).heap.size = w.heap.size + 1 := by simp
  have h2 : ((w.alloc (.cells (rowL f).toArray 95)).alloc (.cells #[.int .u64 0, .int .u64 0] T)).heap.size = w.heap.size + 1 + 1 := by simp
  exact ⟨(((Below.refl _ _).alloc (Nat.le_refl _) _).alloc (by omega) _).alloc (by omega) _, by simp, cell_new _ _ T _ 0 h2.symm, cell_new _ _ T _ 1 h2.symm,
    (cell_old _ _ _ 0 (by omega)).trans (cell_new _ _ T _ 0 h1.symm), (cell_old _ _ _ 1 (by omega)).trans (cell_new _ _ T _ 1 h1.symm), fun o => frozen_new _ _ T _ o h2.symm, fun o => (frozen_old _ _ _ o (by omega)).trans (frozen_new _ _ T _ o h1.symm),
    ((RowAt.new w f 95).old (by simp) _).old (by omega) _⟩
set_option maxRecDepth 100000 in
set_option maxHeartbeats 4000000 in
theorem ref_num (f : Nat → Bool) : Pure Tryz.prog 65 #[rowV f] (nv (numF f)) := by
  intro w
  have hb := box_run f
  go_enter Tryz.func65, Tryz.ntmps65
  go_wp2
  go_loopw [4] (fun kk V => ∃ j : Nat, j ≤ 64 ∧ kk = .int .i64 (63 - (j : Int)) ∧ N2 w f ((accF f 64 j : Nat) : Int) ((accF f 0 j : Nat) : Int) V) (fun kk _ => (1 + intOf kk).toNat)
  case atStart => exact ⟨0, Nat.zero_le _, rfl, N2.start w f _⟩
  case round =>
    obtain ⟨j, hj, rfl, hT⟩ := hrel
    by_cases hlt : j < 64
    · obtain ⟨i, hi⟩ : ∃ i : Nat, i + j = 63 := ⟨63 - j, by omega⟩
      have e63 : (63 : Int) - (j : Int) = (i : Int) := by omega
      rw [e63]
      have n0 := hT.n0
      have n1 := hT.n1
      have fn := hT.fn
      have c1 := hT.row.c i (by omega)
      have c2 := hT.row.c (64 + i) (by omega)
      have u0 : ((accF f 64 j : Nat) : Int) ≤ 9223372036854775807 := by
        have := accF_lt f 64 j
        have h2 : 2 ^ j ≤ 2 ^ 63 := Nat.pow_le_pow_right (by decide) (by omega)
        omega
      have u1 : ((accF f 0 j : Nat) : Int) ≤ 9223372036854775807 := by
        have := accF_lt f 0 j
        have h2 : 2 ^ j ≤ 2 ^ 63 := Nat.pow_le_pow_right (by decide) (by omega)
        omega
      have s0 : Hid (accF f 64 (j + 1) = 2 * accF f 64 j + (f (64 + i)).toNat) := by
        show _ = _
        rw [accF, show 64 + 63 - j = 64 + i by omega]
      have s1 : Hid (accF f 0 (j + 1) = 2 * accF f 0 j + (f i).toNat) := by
        show _ = _
        rw [accF, show 0 + 63 - j = i by omega]
      have hi' := Lib.hid hi
      have hib : i ≤ 63 := by omega
      have e63' := Lib.hid e63
      have hT' := Lib.hid hT
      clear hT hi e63
      generalize accF f 64 j = H at *
      generalize accF f 0 j = L at *
      cases hf1 : f i <;> cases hf2 : f (64 + i) <;> rw [hf1] at c1 s1 <;> rw [hf2] at c2 s0 <;> clear hf1 hf2
      · go_wp2
        go_roundw
        case rel =>
          refine ⟨j + 1, by omega, by congr 1; have := hi'.out; omega, ?_⟩
          rw [s0.out, s1.out]
          exact ((hT'.out.set1 _).set0 _).cast (by simp; omega) (by simp; omega)
        case measure => simp [intOf]; omega
      · go_wp2
        go_roundw
        case rel =>
          refine ⟨j + 1, by omega, by congr 1; have := hi'.out; omega, ?_⟩
          rw [s0.out, s1.out]
          exact (((hT'.out.set1 _).set0 _).set0 _).cast (by simp; omega) (by simp; omega)
        case measure => simp [intOf]; omega
      · go_wp2
        go_roundw
        case rel =>
          refine ⟨j + 1, by omega, by congr 1; have := hi'.out; omega, ?_⟩
          rw [s0.out, s1.out]
          exact (((hT'.out.set1 _).set0 _).set1 _).cast (by simp; omega) (by simp; omega)
        case measure => simp [intOf]; omega
      · go_wp2
        go_roundw
        case rel =>
          refine ⟨j + 1, by omega, by congr 1; have := hi'.out; omega, ?_⟩
          rw [s0.out, s1.out]
          exact ((((hT'.out.set1 _).set0 _).set1 _).set0 _).cast (by simp; omega) (by simp; omega)
        case measure => simp [intOf]; omega
    · obtain rfl : j = 64 := by omega
      have n0 := hT.n0
      have n1 := hT.n1
      have r0 := hT.r0
      have r1 := hT.r1
      have fr := hT.fr
      have E : Hid (Value.agg #[.int .u64 ((accF f 64 64 : Nat) : Int), .int .u64 ((accF f 0 64 : Nat) : Int)] = nv (numF f)) := by
        show _ = _
        unfold nv
        rw [numF_hi, numF_lo]
      have hT' := Lib.hid hT
      clear hT hlt hj
      generalize accF f 64 64 = H at *
      generalize accF f 0 64 = L at *
      go_wp2
      exact bodyPost_ret (v := .agg #[.int .u64 (H : Int), .int .u64 (L : Int)]) (by simp [results, Tryz.results65, go_sem, r0, r1]) rfl ⟨congrArg Ending.returned E.out, plus_of_below ((hT'.out.below.setCell (Nat.le_add_right _ 1) _).setCell (Nat.le_add_right _ 1) _)⟩
end Go.Proofs.YtiodfenkbhlpdaaGreatDoor
