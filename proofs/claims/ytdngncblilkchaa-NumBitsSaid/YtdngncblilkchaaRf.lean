/-
  WHAT IS PROVED HERE: what the document's Slice hands back, in whatever world.
-/
import Derived.Test.YtdngncblilkchaaRe
namespace Go.Proofs.Ytdngncblilkchaa
open Go.RowKit
theorem numF_zero (f : Nat → Bool) (h : ∀ i, i < 128 → f i = false) : numF f = 0 :=
  numF_eq _ _ (by decide) fun i hi => by rw [h i hi, Nat.zero_testBit]
/-- How many bits a slice holds. -/
def manyN (u : Int) (K : Nat) : Nat := (min u 127 + 1 - K).toNat
theorem slice_num (n K : Nat) (u : Int) (hn : n < B128) : numF (copyF (bitF n) 0 K (manyN u K)) = sliceN n u (K : Int) := by
  by_cases h : u < (K : Int)
  · rw [numF_zero]
    · unfold sliceN; rw [if_pos (Or.inr h)]
    · intro i _; unfold copyF manyN; rw [if_neg (by omega)]
  · unfold sliceN
    rw [if_neg (by omega)]
    refine numF_eq _ _ (mod_hw_lt _ _) fun i hi => ?_
    rw [Nat.testBit_mod_two_pow, Nat.testBit_div_two_pow]
    rw [b128] at hn
    by_cases hb : i + hw (K : Int) < 128
    · have hK : hw (K : Int) = K := by unfold hw heldZ at *; omega
      rw [hK] at hb ⊢
      have e : decide (i < hw (min (u - (K : Int)) 128 + 1)) = decide (i < manyN u K) := by unfold hw heldZ manyN; rw [decide_eq_decide]; omega
      rw [e]
      unfold copyF bitF
      by_cases hm : i < manyN u K
      · rw [if_pos ⟨Nat.zero_le _, by omega⟩]; simp [hm]
      · rw [if_neg (by omega)]; simp [hm]
    · rw [Nat.testBit_lt_two_pow (Nat.lt_of_lt_of_le hn (Nat.pow_le_pow_right (by decide) (by omega))), Bool.and_false]
      unfold copyF
      rw [if_neg]
      unfold manyN
      unfold hw heldZ at hb
      omega
set_option maxRecDepth 100000 in
set_option maxHeartbeats 4000000 in
theorem ref_slice (n : Nat) (u v : Int) (hn : n < B128) (hu : u ≤ 9223372036854775807) : Pure Try.prog 35 #[nv n, .int .i64 u, .int .i64 v] (nv (sliceN n u v)) := by
  intro w
  by_cases h1 : v < 0
  · have E := Lib.hid (sliceN_neg n u v h1)
    clear hn
    go_enter Try.func35, Try.ntmps35
    go_wp2
    refine bodyPost_ret (v := .agg #[.int .u64 0, .int .u64 0]) (by simp [results, Try.results35, go_sem]) rfl ⟨congrArg Ending.returned E.out, ?_⟩
    exact plus_of_below (((Below.refl _ _).alloc (Nat.le_refl _) _).alloc (by simp) _)
  have hz := zero_run
  have Bt := Lib.hid (ref_bits n hn)
  obtain ⟨K, rfl⟩ : ∃ K : Nat, v = (K : Int) := ⟨v.toNat, by omega⟩
  have S : Hid (Pure Try.prog 45 #[rowV (copyF (bitF n) 0 K (manyN u K))] (nv (sliceN n u (K : Int)))) := (ref_num _).eqv (by rw [slice_num n K u hn])
  clear hn h1
  obtain ⟨M, hM⟩ : ∃ M, manyN u K = M := ⟨_, rfl⟩
  rw [hM] at S
  have hA : Hid (∀ j, j < M → j + K < 128 ∧ ((j + K : Nat) : Int) ≤ u) := fun j hj => by unfold manyN at hM; omega
  have hC : Hid (∀ j, j ≤ M → ¬ j < M → j + K < 128 → u < ((j + K : Nat) : Int)) := fun j _ _ _ => by unfold manyN at hM; omega
  clear hM
  go_enter Try.func35, Try.ntmps35
  go_wp2_with fail
  obtain ⟨W, hW, hB, hs, ca, cr, fa, fr⟩ := box2 w _ _ 24 24
  rw [← hW]
  have r0 := cr 0 (some (.int .u64 0)) rfl
  have r1 := cr 1 (some (.int .u64 0)) rfl
  clear ca cr fa hW
  refine (Bt.out W).mono ?_
  rintro e w' ⟨rfl, x, rfl⟩
  have hmk := R1.make (x := x) hB (rb := w.heap.size + 1) (by omega) (by omega) r0 r1 fr (fun _ => false) 45
  have hth := Lib.hid (hmk.row.there' (bitF n))
  have hmk' := Lib.hid (hmk.write (bitF n))
  clear hmk r0 r1 fr hB hs
  obtain ⟨U, hU⟩ : ∃ U, ((plus W x).alloc (.cells (rowL fun _ => false).toArray 45)).setCells (plus W x).heap.size 0 (rowL (bitF n)) = U := ⟨_, rfl⟩
  rw [hU] at hmk'
  have hU' := Lib.hid hU
  clear hU
  have hmk2 := Lib.hid (R2.make hmk'.out 45)
  go_wp2_with (first | (refine wpList_store_mid rfl 45 _ _ rfl (plus W x).heap.size 0 (rowL (bitF n)).toArray rfl rfl hth.out (row_size' _) (row_one _) ?_; refine wpList_world hU'.out ?_) | fail)
  go_loopw [9] (fun kk V => ∃ j : Nat, j ≤ M ∧ kk = .int .i64 ((j + K : Nat) : Int) ∧ R2 w (w.heap.size + 1) (plus W x).heap.size U.heap.size (bitF n) (copyF (bitF n) 0 K j) V) (fun kk _ => (128 - intOf kk).toNat)
  case atStart => exact ⟨0, Nat.zero_le _, (by rw [Nat.zero_add]), hmk2.out.congr fun i _ => (copyF_zero (bitF n) 0 K i).symm⟩
  case round =>
    obtain ⟨j, hj, rfl, hT⟩ := hrel
    by_cases hlt : j < M
    · obtain ⟨h1, h2⟩ := hA.out j hlt
      have cx := hT.x.c (j + K) (by omega)
      have cb := hT.one.row.c j (by omega)
      have fz := hT.one.row.fz
      have hS : Hid (R2 w (w.heap.size + 1) (plus W x).heap.size U.heap.size (bitF n) (copyF (bitF n) 0 K (j + 1)) (wr.setCell ⟨U.heap.size, j, none⟩ (.bool (bitF n (j + K))))) :=
        (hT.set j (by omega) (bitF n (j + K))).congr fun i _ => copyF_at (bitF n) 0 K j j (j + K) i (by omega) (by omega)
      generalize bitF n (j + K) = xb at cx hS
      clear hT
      go_wp2
      go_roundw
      case rel => exact ⟨j + 1, by omega, by go_num, hS.out⟩
      case measure => simp [intOf]; omega
    · have hend : Hid (copyF (bitF n) 0 K j = copyF (bitF n) 0 K M) := by
        show _ = _
        rw [show j = M by omega]
      have hc := Lib.hid (hC.out j hj hlt)
      have hrow := hT.one.row
      rw [hend.out] at hrow
      have hrg := Lib.hid hrow.range
      have q0 := hT.one.p0
      have q1 := hT.one.p1
      have qf := hT.one.pf
      have hT' := Lib.hid hT.one
      clear hT hrow hlt hj
      by_cases h1 : j + K < 128
      · have h2 := hc.out h1
        go_wp2_with (first | refine wpList_load_mid rfl 45 _ rfl U.heap.size 0 rfl (rowL (copyF (bitF n) 0 K M)) _ hrg.out Try.underlying45 rfl (row_size _) ?_ | fail)
        refine (S.out wr).mono ?_
        rintro e w' ⟨rfl, y, rfl⟩
        go_wp2
        exact bodyPost_ret (v := .agg #[.int .u64 (hi (sliceN n u (K : Int))), .int .u64 (lo (sliceN n u (K : Int)))]) (by simp [results, Try.results35, go_sem, q0, q1]) rfl ⟨rfl, hT'.out.fin _ _ _⟩
      · go_wp2_with (first | refine wpList_load_mid rfl 45 _ rfl U.heap.size 0 rfl (rowL (copyF (bitF n) 0 K M)) _ hrg.out Try.underlying45 rfl (row_size _) ?_ | fail)
        refine (S.out wr).mono ?_
        rintro e w' ⟨rfl, y, rfl⟩
        go_wp2
        exact bodyPost_ret (v := .agg #[.int .u64 (hi (sliceN n u (K : Int))), .int .u64 (lo (sliceN n u (K : Int)))]) (by simp [results, Try.results35, go_sem, q0, q1]) rfl ⟨rfl, hT'.out.fin _ _ _⟩
end Go.Proofs.Ytdngncblilkchaa
