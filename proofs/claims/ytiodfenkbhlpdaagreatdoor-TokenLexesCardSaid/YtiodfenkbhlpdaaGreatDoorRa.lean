/-
  WHAT IS PROVED HERE: the document's Bits and Num hand back a number's bits, and the number of bits, in whatever world.
-/
import Derived.Test.YtiodfenkbhlpdaaGreatDoorRow
import Derived.WalkSpells
import Derived.WalkLawsBesides
namespace Go.Proofs.YtiodfenkbhlpdaaGreatDoor
open Go.RowKit
theorem zero_run (w : World) : (zeroValue 95).run Tryz.prog w = .ok (rowV fun _ => false) w := by kernel_rfl
/-- A number's bits. -/
def bitF (n i : Nat) : Bool := n.testBit i
theorem lo_bit (n k : Nat) (hk : k < 64) : (((n % 2 ^ 64 / 2 ^ k : Nat) : Int) % 2 == 1) = bitF n k := by
  unfold bitF
  rw [Nat.testBit_eq_decide_div_mod_eq]
  have h : n % 2 ^ 64 / 2 ^ k % 2 = n / 2 ^ k % 2 := by
    have e1 := Nat.testBit_mod_two_pow n 64 k
    rw [Nat.testBit_eq_decide_div_mod_eq, Nat.testBit_eq_decide_div_mod_eq, decide_eq_true hk, Bool.true_and, decide_eq_decide] at e1
    omega
  rw [← h, Bool.eq_iff_iff, beq_iff_eq, decide_eq_true_eq]
  omega
theorem hi_bit (n k : Nat) : (((n / 2 ^ 64 / 2 ^ k : Nat) : Int) % 2 == 1) = bitF n (64 + k) := by
  unfold bitF
  rw [Nat.testBit_eq_decide_div_mod_eq, Nat.pow_add, ← Nat.div_div_eq_div_mul, Bool.eq_iff_iff, beq_iff_eq, decide_eq_true_eq]
  omega
theorem half (a k : Nat) : ((a / 2 ^ k : Nat) : Int) / 2 = ((a / 2 ^ (k + 1) : Nat) : Int) := by rw [Nat.pow_succ, ← Nat.div_div_eq_div_mul]; rfl
/-- The row behind k rounds of Bits. -/
def bitsF (n k i : Nat) : Bool := (decide (i < k) || (decide (64 ≤ i) && decide (i < 64 + k))) && bitF n i
theorem bitsF_all (n i : Nat) (h : i < 128) : bitsF n 64 i = bitF n i := by
  unfold bitsF
  by_cases h1 : i < 64
  · simp [h1]
  · simp [h1, h, show 64 ≤ i by omega]
theorem bitsF_zero (n i : Nat) : bitsF n 0 i = false := by
  unfold bitsF
  by_cases h1 : 64 ≤ i
  · simp; omega
  · simp [h1]
theorem bitsF_succ (n k i : Nat) (hk : k < 64) : (if i = 64 + k then bitF n (64 + k) else if i = k then bitF n k else bitsF n k i) = bitsF n (k + 1) i := by
  unfold bitsF
  by_cases h1 : i = 64 + k
  · subst h1; rw [if_pos rfl]; simp
  · rw [if_neg h1]
    by_cases h2 : i = k
    · subst h2; rw [if_pos rfl]; simp
    · rw [if_neg h2]
      congr 1
      rw [Bool.eq_iff_iff]
      simp only [Bool.or_eq_true, Bool.and_eq_true, decide_eq_true_eq]
      omega
/-- The world in Bits' loop: the number's block, the result's, the row's. -/
structure BitsInv (w : World) (n k : Nat) (V : World) : Prop where
  below : Below w.heap.size w V
  size : w.heap.size + 1 + 1 + 1 ≤ V.heap.size
  n0 : V.cell? ⟨w.heap.size, 0, none⟩ = some (.int .u64 ((n / 2 ^ 64 / 2 ^ k : Nat) : Int))
  n1 : V.cell? ⟨w.heap.size, 1, none⟩ = some (.int .u64 ((n % 2 ^ 64 / 2 ^ k : Nat) : Int))
  fn : ∀ o, V.frozen? ⟨w.heap.size, o, none⟩ = false
  res : RowAt V (w.heap.size + 1) fun _ => false
  row : RowAt V (w.heap.size + 1 + 1) (bitsF n k)
theorem BitsInv.start (w : World) (n : Nat) (T : TypeId) : BitsInv w n 0 (((w.alloc (.cells #[.int .u64 (hi n), .int .u64 (lo n)] T)).alloc (.cells (rowL fun _ => false).toArray 95)).alloc (.cells (rowL fun _ => false).toArray 95)) := by
  have h1 : (w.alloc (.cells #[.int .u64 (hi n), .int .u64 (lo n)] T)).heap.size = w.heap.size + 1 := by simp
  have h2 : ((w.alloc (.cells #[.int .u64 (hi n), .int .u64 (lo n)] T)).alloc (.cells (rowL fun _ => false).toArray 95)).heap.size = w.heap.size + 1 + 1 := by simp
  refine ⟨(((Below.refl _ _).alloc (Nat.le_refl _) _).alloc (by omega) _).alloc (by omega) _, by simp, ?_, ?_, ?_, ?_, ?_⟩
  · rw [Nat.pow_zero, Nat.div_one]; exact (cell_old _ _ _ 0 (by omega)).trans ((cell_old _ _ _ 0 (by omega)).trans (cell_new w _ T _ 0 rfl))
  · rw [Nat.pow_zero, Nat.div_one]; exact (cell_old _ _ _ 1 (by omega)).trans ((cell_old _ _ _ 1 (by omega)).trans (cell_new w _ T _ 1 rfl))
  · exact fun o => (frozen_old _ _ _ o (by omega)).trans ((frozen_old _ _ _ o (by omega)).trans (frozen_new w _ T _ o rfl))
  · have := (RowAt.new (w.alloc (.cells #[.int .u64 (hi n), .int .u64 (lo n)] T)) (fun _ => false) 95).old (by simp) (.cells (rowL fun _ => false).toArray 95)
    rwa [h1] at this
  · have := RowAt.new ((w.alloc (.cells #[.int .u64 (hi n), .int .u64 (lo n)] T)).alloc (.cells (rowL fun _ => false).toArray 95)) (fun _ => false) 95
    rw [h2] at this
    exact this.congr fun i _ => (bitsF_zero n i).symm
theorem BitsInv.step {w V : World} {n k : Nat} (h : BitsInv w n k V) (hk : k < 64) (N M : Int) (hN : N = ((n / 2 ^ 64 / 2 ^ (k + 1) : Nat) : Int)) (hM : M = ((n % 2 ^ 64 / 2 ^ (k + 1) : Nat) : Int)) :
    BitsInv w n (k + 1) ((((V.setCell ⟨w.heap.size + 1 + 1, k, none⟩ (.bool (bitF n k))).setCell ⟨w.heap.size + 1 + 1, 64 + k, none⟩ (.bool (bitF n (64 + k)))).setCell ⟨w.heap.size, 1, none⟩ (.int .u64 M)).setCell ⟨w.heap.size, 0, none⟩ (.int .u64 N)) := by
  subst hN hM
  refine ⟨(((h.below.setCell (Nat.le_add_right _ 2) _).setCell (Nat.le_add_right _ 2) _).setCell (Nat.le_refl _) _).setCell (Nat.le_refl _) _, by have := h.size; simp [World.setCell]; omega, ?_, ?_, ?_, ?_, ?_⟩
  · refine World.cell?_setCell_same _ _ _ (u := .int .u64 ((n / 2 ^ 64 / 2 ^ k : Nat) : Int)) ?_
    rw [World.cell?_setCell_other _ _ _ _ (by simp), World.cell?_setCell_other _ _ _ _ (by simp), World.cell?_setCell_other _ _ _ _ (by simp)]; exact h.n0
  · rw [World.cell?_setCell_other _ _ _ _ (by simp)]
    refine World.cell?_setCell_same _ _ _ (u := .int .u64 ((n % 2 ^ 64 / 2 ^ k : Nat) : Int)) ?_
    rw [World.cell?_setCell_other _ _ _ _ (by simp), World.cell?_setCell_other _ _ _ _ (by simp)]; exact h.n1
  · intro o; simp only [World.frozen?_setCell]; exact h.fn o
  · exact (((h.res.other _ (by simp) _).other _ (by simp) _).other _ (by simp) _).other _ (by simp) _
  · refine (((((h.row.set k (by omega) _).set (64 + k) (by omega) _).other _ (by simp <;> omega) _).other _ (by simp <;> omega) _)).congr fun i _ => ?_
    exact bitsF_succ n k i hk
set_option maxRecDepth 100000 in
set_option maxHeartbeats 1000000 in
theorem ref_bits (n : Nat) (hn : n < B128) : Pure Tryz.prog 64 #[nv n] (rowV (bitF n)) := by
  intro w
  have hz := zero_run
  have hn' := Lib.hid hn
  clear hn
  go_enter Tryz.func64, Tryz.ntmps64
  go_wp2
  go_loopw [4] (fun kk V => ∃ k : Nat, k ≤ 64 ∧ kk = .int .i64 k ∧ BitsInv w n k V) (fun kk _ => 64 - (intOf kk).toNat)
  case atStart => exact ⟨0, Nat.zero_le _, rfl, BitsInv.start w n _⟩
  case round =>
    obtain ⟨k, hk, rfl, hT⟩ := hrel
    by_cases hlt : k < 64
    · have n0 := hT.n0
      have n1 := hT.n1
      have fn := hT.fn
      have fr := hT.row.fz
      have ck := hT.row.c k (by omega)
      have ck2 := hT.row.c (64 + k) (by omega)
      have hb1 := lo_bit n k hlt
      have hb2 := hi_bit n k
      have hS := Lib.hid (hT.step hlt (((n / 2 ^ 64 / 2 ^ k : Nat) : Int) / 2) (((n % 2 ^ 64 / 2 ^ k : Nat) : Int) / 2) (half _ k) (half _ k))
      have u1 : ((n / 2 ^ 64 / 2 ^ k : Nat) : Int) ≤ 18446744073709551615 := by
        have h1 := hn'.out
        rw [b128] at h1
        have : n / 2 ^ 64 / 2 ^ k ≤ n / 2 ^ 64 := Nat.div_le_self _ _
        omega
      have u2 : ((n % 2 ^ 64 / 2 ^ k : Nat) : Int) ≤ 18446744073709551615 := by
        have : n % 2 ^ 64 / 2 ^ k ≤ n % 2 ^ 64 := Nat.div_le_self _ _
        omega
      generalize n / 2 ^ 64 / 2 ^ k = H at *
      generalize n % 2 ^ 64 / 2 ^ k = L at *
      generalize bitF n k = x1 at *
      generalize bitF n (64 + k) = x2 at *
      clear hT
      go_wp2
      go_roundw
      case rel => exact ⟨k + 1, by omega, by go_num, hS.out⟩
      case measure => simp [intOf]; omega
    · obtain rfl : k = 64 := by omega
      have hrow := hT.row.congr (bitsF_all n)
      have hrg := Lib.hid hrow.range
      have hth := Lib.hid (hT.res.there' (bitF n))
      have hv := (hT.res.written (bitF n)).loadVar
      have hT' := Lib.hid hT
      clear hT hrow
      go_wp2_with (first | refine wpList_load_mid rfl 95 _ rfl (w.heap.size + 1 + 1) 0 rfl (rowL (bitF n)) _ hrg.out Tryz.underlying95 rfl (row_size _) ?_ | refine wpList_store_mid rfl 95 _ _ rfl (w.heap.size + 1) 0 (rowL (bitF n)).toArray rfl rfl hth.out (row_size' _) (row_one _) ?_)
      exact bodyPost_ret (v := rowV (bitF n)) (results_one Tryz.results64 _ _ ⟨w.heap.size + 1, 0, none⟩ rfl _ hv) rfl ⟨rfl, plus_of_below (below_setCells _ _ _ _ _ hT'.out.below (Nat.le_add_right _ 1))⟩
end Go.Proofs.YtiodfenkbhlpdaaGreatDoor
