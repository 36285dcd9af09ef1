/-
  WHAT IS PROVED HERE: what more of the document's calls of layer 1 hand back: a number turned, one bit, a fit, in whatever world.
-/
import Derived.Test.YtiodfenkbhlpdaaGreatDoorRc
namespace Go.Proofs.YtiodfenkbhlpdaaGreatDoor
open Go.RowKit
/-- The bits below a width, turned. -/
def notF (n : Nat) (k : Int) (i : Nat) : Bool := !(bitF n i) && decide ((i : Int) < k)
theorem not_lt (n : Nat) (k : Int) : n % 2 ^ hw k ^^^ (2 ^ hw k - 1) < B128 := by
  have h1 := mod_hw_lt n k
  have h2 := mask_lt k
  rw [b128] at *
  exact Nat.xor_lt_two_pow h1 h2
theorem not_num (n : Nat) (k : Int) : numF (notF n k) = n % 2 ^ hw k ^^^ (2 ^ hw k - 1) := by
  refine numF_eq _ _ (not_lt n k) fun i hi => ?_
  rw [Nat.testBit_xor, Nat.testBit_mod_two_pow, Nat.testBit_two_pow_sub_one]
  unfold notF bitF
  have e : decide ((i : Int) < k) = decide (i < hw k) := by unfold hw heldZ; rw [decide_eq_decide]; omega
  rw [e]
  cases n.testBit i <;> cases decide (i < hw k) <;> rfl
set_option maxHeartbeats 400000 in
theorem ref_of (n : Nat) (hn : n < 18446744073709551616) : Pure Tryz.prog 50 #[.int .u64 (n : Int)] (nv n) := by
  intro w
  have e : Hid (Value.agg #[.int .u64 0, .int .u64 (n : Int)] = nv n) := by
    show _ = _
    unfold nv hi lo
    rw [Nat.div_eq_of_lt hn, Nat.mod_eq_of_lt hn]
    rfl
  clear hn
  go_enter Tryz.func50, Tryz.ntmps50
  go_wp2
  refine bodyPost_ret (v := .agg #[.int .u64 0, .int .u64 (n : Int)]) (by simp [results, Tryz.results50, go_sem]) rfl ⟨congrArg Ending.returned e.out, ?_⟩
  exact plus_of_below ((Below.refl _ _).alloc (Nat.le_refl _) _)
set_option maxHeartbeats 400000 in
theorem ref_fits (n : Nat) (k : Int) (hn : n < B128) : Pure Tryz.prog 37 #[nv n, .int .i64 k] (.bool (decide (n % 2 ^ hw k = n))) := by
  intro w
  have S := Lib.hid (ref_cut n k hn)
  have eqN := eql_nv
  clear hn
  go_enter Tryz.func37, Tryz.ntmps37
  go_wp2
  obtain ⟨W, hW, hB, hs, ca, fa⟩ := box1 w _ 35
  rw [← hW]
  have ca0 := ca 0 (some (.int .u64 (hi n))) rfl
  have ca1 := ca 1 (some (.int .u64 (lo n))) rfl
  clear hW fa ca
  refine wp_region_own0 (by kernel_rfl) (by kernel_rfl) ?_
  repeat (go_big_quiet_step (exact S.out.at _ _))
  refine wpQuiet_nil ?_
  rintro _ ⟨y, rfl⟩
  go_wp2
  go_ret
  exact ⟨rfl, plus_of_below (hB.trans ((below_plus W y).mono hB.size))⟩
theorem bit_same (n : Nat) (k : Int) (h0 : 0 ≤ k) (h1 : k < 128) : bitF n k.toNat = bitN n k := by
  rw [bitN_pos n k h0]
  have e : hw k = k.toNat := by unfold hw heldZ; omega
  rw [e]
  unfold bitF
  rw [Nat.testBit_eq_decide_div_mod_eq, Bool.eq_iff_iff, beq_iff_eq, decide_eq_true_eq, div_cast]
  omega
theorem bit_out (n : Nat) (k : Int) (hn : n < B128) (h1 : 128 ≤ k) : bitN n k = false := by
  rw [bitN_pos n k (by omega)]
  have e : hw k = 128 := by unfold hw heldZ; omega
  rw [e, div_cast, Nat.div_eq_of_lt (by rwa [b128] at hn)]
  rfl
theorem wpList_world {P : Program} {ops : Array Oper} {Q : Exit → Act → World → Prop} {l : List Oper} {a : Act} {V U : World} (e : V = U) (h : wpList P ops Q l a U) : wpList P ops Q l a V := by rw [e]; exact h
end Go.Proofs.YtiodfenkbhlpdaaGreatDoor
