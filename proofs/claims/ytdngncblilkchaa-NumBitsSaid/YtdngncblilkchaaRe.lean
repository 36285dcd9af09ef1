/-
  WHAT IS PROVED HERE: what the document's shifts hand back, in whatever world.
-/
import Derived.Test.YtdngncblilkchaaRd
namespace Go.Proofs.Ytdngncblilkchaa
open Go.RowKit
/-- A loop from one row to another: the row that is read stands beside. -/
structure R2 (w : World) (rb bx b : Nat) (f g : Nat → Bool) (V : World) : Prop where
  one : R1 w rb b g V
  lx : rb < bx
  xb : bx < b
  x : RowAt V bx f
theorem R2.set {w V : World} {rb bx b : Nat} {f g : Nat → Bool} (h : R2 w rb bx b f g V) (k : Nat) (hk : k < 128) (x : Bool) : R2 w rb bx b f (fun i => if i = k then x else g i) (V.setCell ⟨b, k, none⟩ (.bool x)) := by
  have := h.xb
  exact ⟨h.one.set k hk x, h.lx, h.xb, h.x.other _ (by simp; omega) _⟩
theorem R2.congr {w V : World} {rb bx b : Nat} {f g g' : Nat → Bool} (h : R2 w rb bx b f g V) (e : ∀ i, i < 128 → g i = g' i) : R2 w rb bx b f g' V := ⟨h.one.congr e, h.lx, h.xb, h.x⟩
/-- A row of noughts is made beside a row. -/
theorem R2.make {w V : World} {rb bx : Nat} {f : Nat → Bool} (h : R1 w rb bx f V) (T : TypeId) : R2 w rb bx V.heap.size f (fun _ => false) (V.alloc (.cells (rowL fun _ => false).toArray T)) := by
  have h1 := h.lt
  have h2 := h.blt
  have h3 := h.below.size
  exact ⟨⟨h.below.alloc (by omega) _, h.le, by omega, by simp, (cell_old _ _ _ 0 (by omega)).trans h.r0, (cell_old _ _ _ 1 (by omega)).trans h.r1, fun o => (frozen_old _ _ _ o (by omega)).trans (h.fr o), RowAt.new V _ T⟩, h1, h2, h.row.old h2 _⟩
/-- So many bits of f, from s on, laid from d on. -/
def copyF (f : Nat → Bool) (d s k i : Nat) : Bool := if d ≤ i ∧ i < d + k then f (i - d + s) else false
theorem copyF_zero (f : Nat → Bool) (d s i : Nat) : copyF f d s 0 i = false := if_neg (by omega)
theorem copyF_succ (f : Nat → Bool) (d s k i : Nat) : (if i = d + k then f (s + k) else copyF f d s k i) = copyF f d s (k + 1) i := by
  unfold copyF
  by_cases h : i = d + k
  · subst h; rw [if_pos rfl, if_pos (by omega), show d + k - d + s = s + k by omega]
  · rw [if_neg h]
    by_cases h1 : d ≤ i ∧ i < d + k
    · rw [if_pos h1, if_pos (by omega)]
    · rw [if_neg h1, if_neg (by omega)]
theorem copyF_at (f : Nat → Bool) (d s k a b i : Nat) (ha : a = d + k) (hb : b = s + k) : (if i = a then f b else copyF f d s k i) = copyF f d s (k + 1) i := by subst ha hb; exact copyF_succ f d s k i
theorem hw_nat' (k : Nat) (h : k ≤ 128) : hw (k : Int) = k := by unfold hw heldZ; omega
theorem shr_num (n K : Nat) (hK : K ≤ 128) (hn : n < B128) : numF (copyF (bitF n) 0 K (128 - K)) = n / 2 ^ K := by
  refine numF_eq _ _ (Nat.lt_of_le_of_lt (Nat.div_le_self _ _) hn) fun i hi => ?_
  rw [Nat.testBit_div_two_pow]
  unfold copyF bitF
  split
  · rfl
  · symm
    rw [b128] at hn
    exact Nat.testBit_lt_two_pow (Nat.lt_of_lt_of_le hn (Nat.pow_le_pow_right (by decide) (by omega)))
theorem shl_num (n K : Nat) (hK : K ≤ 128) : numF (copyF (bitF n) K 0 (128 - K)) = n * 2 ^ K % 2 ^ 128 := by
  refine numF_eq _ _ (mod_128_lt _) fun i hi => ?_
  rw [Nat.testBit_mod_two_pow, Nat.testBit_mul_two_pow]
  unfold copyF bitF
  by_cases h : K ≤ i
  · rw [if_pos (by omega)]; simp [h, hi]
  · rw [if_neg (by omega)]; simp [h]
set_option maxRecDepth 100000 in
set_option maxHeartbeats 4000000 in
theorem ref_shr (n : Nat) (k : Int) (hn : n < B128) : Pure Try.prog 31 #[nv n, .int .i64 k] (nv (n / 2 ^ hw k)) := by
  intro w
  have hz := zero_run
  have Bt := Lib.hid (ref_bits n hn)
  have hn' := Lib.hid hn
  clear hn
  by_cases hneg : k < 0
  · have S : Hid (Pure Try.prog 45 #[rowV (copyF (bitF n) 0 0 128)] (nv (n / 2 ^ hw k))) := (ref_num _).eqv (by rw [shr_num n 0 (by omega) hn'.out, show hw k = 0 by unfold hw heldZ; omega])
    go_enter Try.func31, Try.ntmps31
    go_wp2_with fail
    obtain ⟨W, hW, hB, hs, ca, cr, fa, fr⟩ := box2 w _ _ 24 24
    rw [← hW]
    have r0 := cr 0 (some (.int .u64 0)) rfl
    have r1 := cr 1 (some (.int .u64 0)) rfl
    clear ca cr fa hW
    refine (Bt.out W).mono ?_
    rintro e w' ⟨rfl, x, rfl⟩
    have hmk := R1.make (x := x) hB (rb := w.heap.size + 1) (by omega) (by omega) r0 r1 fr (fun _ => false) 45
    have hth := Lib.hid (hmk.row.there' (bitF n))
    have hmk' := Lib.hid (hmk.write (bitF n))
    clear hmk r0 r1 fr hB hs
    obtain ⟨U, hU⟩ : ∃ U, ((plus W x).alloc (.cells (rowL fun _ => false).toArray 45)).setCells (plus W x).heap.size 0 (rowL (bitF n)) = U := ⟨_, rfl⟩
    rw [hU] at hmk'
    have hU' := Lib.hid hU
    clear hU
    have hmk2 := Lib.hid (R2.make hmk'.out 45)
    go_wp2_with (first | (refine wpList_store_mid rfl 45 _ _ rfl (plus W x).heap.size 0 (rowL (bitF n)).toArray rfl rfl hth.out (row_size' _) (row_one _) ?_; refine wpList_world hU'.out ?_) | fail)
    go_loopw [7] (fun kk V => ∃ j : Nat, j ≤ 128 ∧ kk = .int .i64 (j : Int) ∧ R2 w (w.heap.size + 1) (plus W x).heap.size U.heap.size (bitF n) (copyF (bitF n) (0) (0) j) V) (fun kk _ => (128 - intOf kk).toNat)
    case atStart => exact ⟨0, Nat.zero_le _, rfl, hmk2.out.congr fun i _ => (copyF_zero (bitF n) (0) (0) i).symm⟩
    case round =>
      obtain ⟨j, hj, rfl, hT⟩ := hrel
      by_cases hlt : j + 0 < 128
      · have cx := hT.x.c (j) (by omega)
        have cb := hT.one.row.c (j) (by omega)
        have fz := hT.one.row.fz
        have hS : Hid (R2 w (w.heap.size + 1) (plus W x).heap.size U.heap.size (bitF n) (copyF (bitF n) (0) (0) (j + 1)) (wr.setCell ⟨U.heap.size, j, none⟩ (.bool (bitF n (j))))) :=
          (hT.set (j) (by omega) (bitF n (j))).congr fun i _ => copyF_at (bitF n) (0) (0) j (j) (j) i (by omega) (by omega)
        generalize bitF n (j) = xb at cx hS
        clear hT
        go_wp2
        go_roundw
        case rel => exact ⟨j + 1, by omega, by go_num, hS.out⟩
        case measure => simp [intOf]; omega
      · have hrow := hT.one.row
        rw [show j = 128 by omega] at hrow
        have hrg := Lib.hid hrow.range
        have hge : 128 ≤ j + 0 := by omega
        have q0 := hT.one.p0
        have q1 := hT.one.p1
        have qf := hT.one.pf
        have hT' := Lib.hid hT.one
        clear hT hrow hlt
        go_wp2_with (first | refine wpList_load_mid rfl 45 _ rfl U.heap.size 0 rfl (rowL (copyF (bitF n) (0) (0) (128))) _ hrg.out Try.underlying45 rfl (row_size _) ?_ | fail)
        refine (S.out wr).mono ?_
        rintro e w' ⟨rfl, y, rfl⟩
        go_wp2
        exact bodyPost_ret (v := .agg #[.int .u64 (hi (n / 2 ^ hw k)), .int .u64 (lo (n / 2 ^ hw k))]) (by simp [results, Try.results31, go_sem, q0, q1]) rfl ⟨rfl, hT'.out.fin _ _ _⟩
  obtain ⟨K, rfl⟩ : ∃ K : Nat, k = (K : Int) := ⟨k.toNat, by omega⟩
  by_cases hbig : 128 ≤ K
  · have S : Hid (Pure Try.prog 45 #[rowV (copyF (bitF n) 0 128 0)] (nv (n / 2 ^ hw (K : Int)))) := (ref_num _).eqv (by rw [shr_num n 128 (by omega) hn'.out, show hw (K : Int) = 128 by unfold hw heldZ; omega])
    clear hneg
    go_enter Try.func31, Try.ntmps31
    go_wp2_with fail
    obtain ⟨W, hW, hB, hs, ca, cr, fa, fr⟩ := box2 w _ _ 24 24
    rw [← hW]
    have r0 := cr 0 (some (.int .u64 0)) rfl
    have r1 := cr 1 (some (.int .u64 0)) rfl
    clear ca cr fa hW
    refine (Bt.out W).mono ?_
    rintro e w' ⟨rfl, x, rfl⟩
    have hmk := R1.make (x := x) hB (rb := w.heap.size + 1) (by omega) (by omega) r0 r1 fr (fun _ => false) 45
    have hth := Lib.hid (hmk.row.there' (bitF n))
    have hmk' := Lib.hid (hmk.write (bitF n))
    clear hmk r0 r1 fr hB hs
    obtain ⟨U, hU⟩ : ∃ U, ((plus W x).alloc (.cells (rowL fun _ => false).toArray 45)).setCells (plus W x).heap.size 0 (rowL (bitF n)) = U := ⟨_, rfl⟩
    rw [hU] at hmk'
    have hU' := Lib.hid hU
    clear hU
    have hmk2 := Lib.hid (R2.make hmk'.out 45)
    go_wp2_with (first | (refine wpList_store_mid rfl 45 _ _ rfl (plus W x).heap.size 0 (rowL (bitF n)).toArray rfl rfl hth.out (row_size' _) (row_one _) ?_; refine wpList_world hU'.out ?_) | fail)
    go_loopw [7] (fun kk V => ∃ j : Nat, j ≤ 0 ∧ kk = .int .i64 (j : Int) ∧ R2 w (w.heap.size + 1) (plus W x).heap.size U.heap.size (bitF n) (copyF (bitF n) (0) (128) j) V) (fun kk _ => (128 - intOf kk).toNat)
    case atStart => exact ⟨0, Nat.zero_le _, rfl, hmk2.out.congr fun i _ => (copyF_zero (bitF n) (0) (128) i).symm⟩
    case round =>
      obtain ⟨j, hj, rfl, hT⟩ := hrel
      by_cases hlt : j + K < 128
      · omega
      · have hrow := hT.one.row
        rw [show j = 0 by omega] at hrow
        have hrg := Lib.hid hrow.range
        have hge : 128 ≤ j + K := by omega
        have q0 := hT.one.p0
        have q1 := hT.one.p1
        have qf := hT.one.pf
        have hT' := Lib.hid hT.one
        clear hT hrow hlt
        go_wp2_with (first | refine wpList_load_mid rfl 45 _ rfl U.heap.size 0 rfl (rowL (copyF (bitF n) (0) (128) (0))) _ hrg.out Try.underlying45 rfl (row_size _) ?_ | fail)
        refine (S.out wr).mono ?_
        rintro e w' ⟨rfl, y, rfl⟩
        go_wp2
        exact bodyPost_ret (v := .agg #[.int .u64 (hi (n / 2 ^ hw (K : Int))), .int .u64 (lo (n / 2 ^ hw (K : Int)))]) (by simp [results, Try.results31, go_sem, q0, q1]) rfl ⟨rfl, hT'.out.fin _ _ _⟩
  have S : Hid (Pure Try.prog 45 #[rowV (copyF (bitF n) 0 K (128 - K))] (nv (n / 2 ^ hw (K : Int)))) := (ref_num _).eqv (by rw [shr_num n K (by omega) hn'.out, hw_nat' K (by omega)])
  have hK : K < 128 := by omega
  clear hneg hbig
  go_enter Try.func31, Try.ntmps31
  go_wp2_with fail
  obtain ⟨W, hW, hB, hs, ca, cr, fa, fr⟩ := box2 w _ _ 24 24
  rw [← hW]
  have r0 := cr 0 (some (.int .u64 0)) rfl
  have r1 := cr 1 (some (.int .u64 0)) rfl
  clear ca cr fa hW
  refine (Bt.out W).mono ?_
  rintro e w' ⟨rfl, x, rfl⟩
  have hmk := R1.make (x := x) hB (rb := w.heap.size + 1) (by omega) (by omega) r0 r1 fr (fun _ => false) 45
  have hth := Lib.hid (hmk.row.there' (bitF n))
  have hmk' := Lib.hid (hmk.write (bitF n))
  clear hmk r0 r1 fr hB hs
  obtain ⟨U, hU⟩ : ∃ U, ((plus W x).alloc (.cells (rowL fun _ => false).toArray 45)).setCells (plus W x).heap.size 0 (rowL (bitF n)) = U := ⟨_, rfl⟩
  rw [hU] at hmk'
  have hU' := Lib.hid hU
  clear hU
  have hmk2 := Lib.hid (R2.make hmk'.out 45)
  go_wp2_with (first | (refine wpList_store_mid rfl 45 _ _ rfl (plus W x).heap.size 0 (rowL (bitF n)).toArray rfl rfl hth.out (row_size' _) (row_one _) ?_; refine wpList_world hU'.out ?_) | fail)
  go_loopw [7] (fun kk V => ∃ j : Nat, j ≤ 128 - K ∧ kk = .int .i64 (j : Int) ∧ R2 w (w.heap.size + 1) (plus W x).heap.size U.heap.size (bitF n) (copyF (bitF n) (0) (K) j) V) (fun kk _ => (128 - intOf kk).toNat)
  case atStart => exact ⟨0, Nat.zero_le _, rfl, hmk2.out.congr fun i _ => (copyF_zero (bitF n) (0) (K) i).symm⟩
  case round =>
    obtain ⟨j, hj, rfl, hT⟩ := hrel
    by_cases hlt : j + K < 128
    · have cx := hT.x.c (j + K) (by omega)
      have cb := hT.one.row.c (j) (by omega)
      have fz := hT.one.row.fz
      have hS : Hid (R2 w (w.heap.size + 1) (plus W x).heap.size U.heap.size (bitF n) (copyF (bitF n) (0) (K) (j + 1)) (wr.setCell ⟨U.heap.size, j, none⟩ (.bool (bitF n (j + K))))) :=
        (hT.set (j) (by omega) (bitF n (j + K))).congr fun i _ => copyF_at (bitF n) (0) (K) j (j) (j + K) i (by omega) (by omega)
      generalize bitF n (j + K) = xb at cx hS
      clear hT
      go_wp2
      go_roundw
      case rel => exact ⟨j + 1, by omega, by go_num, hS.out⟩
      case measure => simp [intOf]; omega
    · have hrow := hT.one.row
      rw [show j = 128 - K by omega] at hrow
      have hrg := Lib.hid hrow.range
      have hge : 128 ≤ j + K := by omega
      have q0 := hT.one.p0
      have q1 := hT.one.p1
      have qf := hT.one.pf
      have hT' := Lib.hid hT.one
      clear hT hrow hlt
      go_wp2_with (first | refine wpList_load_mid rfl 45 _ rfl U.heap.size 0 rfl (rowL (copyF (bitF n) (0) (K) (128 - K))) _ hrg.out Try.underlying45 rfl (row_size _) ?_ | fail)
      refine (S.out wr).mono ?_
      rintro e w' ⟨rfl, y, rfl⟩
      go_wp2
      exact bodyPost_ret (v := .agg #[.int .u64 (hi (n / 2 ^ hw (K : Int))), .int .u64 (lo (n / 2 ^ hw (K : Int)))]) (by simp [results, Try.results31, go_sem, q0, q1]) rfl ⟨rfl, hT'.out.fin _ _ _⟩
set_option maxRecDepth 100000 in
set_option maxHeartbeats 4000000 in
theorem ref_shl (n : Nat) (k v : Int) (hn : n < B128) : Pure Try.prog 29 #[nv n, .int .i64 k, .int .i64 v] (nv (n * 2 ^ hw k % 2 ^ 128 % 2 ^ hw v)) := by
  intro w
  have hz := zero_run
  have Bt := Lib.hid (ref_bits n hn)
  clear hn
  by_cases hneg : k < 0
  · have S : Hid (Pure Try.prog 45 #[rowV (copyF (bitF n) 0 0 (128))] (nv (n * 2 ^ hw k % 2 ^ 128))) := (ref_num _).eqv (by rw [show copyF (bitF n) 0 0 (128) = copyF (bitF n) 0 0 (128 - 0) by congr 1, shl_num n 0 (by omega), show hw k = 0 by unfold hw heldZ; omega])
    have S2 : Hid (Pure Try.prog 11 #[nv (n * 2 ^ hw k % 2 ^ 128), .int .i64 v] (nv (n * 2 ^ hw k % 2 ^ 128 % 2 ^ hw v))) := ref_cut _ v (mod_128_lt _)
    go_enter Try.func29, Try.ntmps29
    go_wp2_with fail
    obtain ⟨W, hW, hB, hs, ca, cr, fa, fr⟩ := box2 w _ _ 24 24
    rw [← hW]
    have r0 := cr 0 (some (.int .u64 0)) rfl
    have r1 := cr 1 (some (.int .u64 0)) rfl
    clear ca cr fa hW
    refine (Bt.out W).mono ?_
    rintro e w' ⟨rfl, x, rfl⟩
    have hmk := R1.make (x := x) hB (rb := w.heap.size + 1) (by omega) (by omega) r0 r1 fr (fun _ => false) 45
    have hth := Lib.hid (hmk.row.there' (bitF n))
    have hmk' := Lib.hid (hmk.write (bitF n))
    clear hmk r0 r1 fr hB hs
    obtain ⟨U, hU⟩ : ∃ U, ((plus W x).alloc (.cells (rowL fun _ => false).toArray 45)).setCells (plus W x).heap.size 0 (rowL (bitF n)) = U := ⟨_, rfl⟩
    rw [hU] at hmk'
    have hU' := Lib.hid hU
    clear hU
    have hmk2 := Lib.hid (R2.make hmk'.out 45)
    go_wp2_with (first | (refine wpList_store_mid rfl 45 _ _ rfl (plus W x).heap.size 0 (rowL (bitF n)).toArray rfl rfl hth.out (row_size' _) (row_one _) ?_; refine wpList_world hU'.out ?_) | fail)
    go_loopw [9] (fun kk V => ∃ j : Nat, j ≤ 128 ∧ kk = .int .i64 (j : Int) ∧ R2 w (w.heap.size + 1) (plus W x).heap.size U.heap.size (bitF n) (copyF (bitF n) (0) (0) j) V) (fun kk _ => (128 - intOf kk).toNat)
    case atStart => exact ⟨0, Nat.zero_le _, rfl, hmk2.out.congr fun i _ => (copyF_zero (bitF n) (0) (0) i).symm⟩
    case round =>
      obtain ⟨j, hj, rfl, hT⟩ := hrel
      by_cases hlt : j + 0 < 128
      · have cx := hT.x.c (j) (by omega)
        have cb := hT.one.row.c (j) (by omega)
        have fz := hT.one.row.fz
        have hS : Hid (R2 w (w.heap.size + 1) (plus W x).heap.size U.heap.size (bitF n) (copyF (bitF n) (0) (0) (j + 1)) (wr.setCell ⟨U.heap.size, j, none⟩ (.bool (bitF n (j))))) :=
          (hT.set (j) (by omega) (bitF n (j))).congr fun i _ => copyF_at (bitF n) (0) (0) j (j) (j) i (by omega) (by omega)
        generalize bitF n (j) = xb at cx hS
        clear hT
        go_wp2
        go_roundw
        case rel => exact ⟨j + 1, by omega, by go_num, hS.out⟩
        case measure => simp [intOf]; omega
      · have hrow := hT.one.row
        rw [show j = 128 by omega] at hrow
        have hrg := Lib.hid hrow.range
        have hge : 128 ≤ j + 0 := by omega
        have q0 := hT.one.p0
        have q1 := hT.one.p1
        have qf := hT.one.pf
        have hT' := Lib.hid hT.one
        clear hT hrow hlt
        go_wp2_with (first | refine wpList_load_mid rfl 45 _ rfl U.heap.size 0 rfl (rowL (copyF (bitF n) (0) (0) (128))) _ hrg.out Try.underlying45 rfl (row_size _) ?_ | fail)
        refine (S.out wr).mono ?_
        rintro e w' ⟨rfl, y, rfl⟩
        go_wp2_with fail
        refine (S2.out.at wr y).mono ?_
        rintro e w' ⟨rfl, y2, rfl⟩
        go_wp2
        exact bodyPost_ret (v := .agg #[.int .u64 (hi (n * 2 ^ hw k % 2 ^ 128 % 2 ^ hw v)), .int .u64 (lo (n * 2 ^ hw k % 2 ^ 128 % 2 ^ hw v))]) (by simp [results, Try.results29, go_sem, q0, q1]) rfl ⟨rfl, hT'.out.fin _ _ _⟩
  obtain ⟨K, rfl⟩ : ∃ K : Nat, k = (K : Int) := ⟨k.toNat, by omega⟩
  by_cases hbig : 128 ≤ K
  · clear hneg
    have S : Hid (Pure Try.prog 45 #[rowV (copyF (bitF n) 128 0 (0))] (nv (n * 2 ^ hw (K : Int) % 2 ^ 128))) := (ref_num _).eqv (by rw [show copyF (bitF n) 128 0 (0) = copyF (bitF n) 128 0 (128 - 128) by congr 1, shl_num n 128 (by omega), show hw (K : Int) = 128 by unfold hw heldZ; omega])
    have S2 : Hid (Pure Try.prog 11 #[nv (n * 2 ^ hw (K : Int) % 2 ^ 128), .int .i64 v] (nv (n * 2 ^ hw (K : Int) % 2 ^ 128 % 2 ^ hw v))) := ref_cut _ v (mod_128_lt _)
    go_enter Try.func29, Try.ntmps29
    go_wp2_with fail
    obtain ⟨W, hW, hB, hs, ca, cr, fa, fr⟩ := box2 w _ _ 24 24
    rw [← hW]
    have r0 := cr 0 (some (.int .u64 0)) rfl
    have r1 := cr 1 (some (.int .u64 0)) rfl
    clear ca cr fa hW
    refine (Bt.out W).mono ?_
    rintro e w' ⟨rfl, x, rfl⟩
    have hmk := R1.make (x := x) hB (rb := w.heap.size + 1) (by omega) (by omega) r0 r1 fr (fun _ => false) 45
    have hth := Lib.hid (hmk.row.there' (bitF n))
    have hmk' := Lib.hid (hmk.write (bitF n))
    clear hmk r0 r1 fr hB hs
    obtain ⟨U, hU⟩ : ∃ U, ((plus W x).alloc (.cells (rowL fun _ => false).toArray 45)).setCells (plus W x).heap.size 0 (rowL (bitF n)) = U := ⟨_, rfl⟩
    rw [hU] at hmk'
    have hU' := Lib.hid hU
    clear hU
    have hmk2 := Lib.hid (R2.make hmk'.out 45)
    go_wp2_with (first | (refine wpList_store_mid rfl 45 _ _ rfl (plus W x).heap.size 0 (rowL (bitF n)).toArray rfl rfl hth.out (row_size' _) (row_one _) ?_; refine wpList_world hU'.out ?_) | fail)
    go_loopw [9] (fun kk V => ∃ j : Nat, j ≤ 0 ∧ kk = .int .i64 ((j + K : Nat) : Int) ∧ R2 w (w.heap.size + 1) (plus W x).heap.size U.heap.size (bitF n) (copyF (bitF n) (128) (0) j) V) (fun kk _ => (128 - intOf kk).toNat)
    case atStart => exact ⟨0, Nat.zero_le _, (by rw [Nat.zero_add]), hmk2.out.congr fun i _ => (copyF_zero (bitF n) (128) (0) i).symm⟩
    case round =>
      obtain ⟨j, hj, rfl, hT⟩ := hrel
      by_cases hlt : j + K < 128
      · omega
      · have hrow := hT.one.row
        rw [show j = 0 by omega] at hrow
        have hrg := Lib.hid hrow.range
        have hge : 128 ≤ j + K := by omega
        have q0 := hT.one.p0
        have q1 := hT.one.p1
        have qf := hT.one.pf
        have hT' := Lib.hid hT.one
        clear hT hrow hlt
        go_wp2_with (first | refine wpList_load_mid rfl 45 _ rfl U.heap.size 0 rfl (rowL (copyF (bitF n) (128) (0) (0))) _ hrg.out Try.underlying45 rfl (row_size _) ?_ | fail)
        refine (S.out wr).mono ?_
        rintro e w' ⟨rfl, y, rfl⟩
        go_wp2_with fail
        refine (S2.out.at wr y).mono ?_
        rintro e w' ⟨rfl, y2, rfl⟩
        go_wp2
        exact bodyPost_ret (v := .agg #[.int .u64 (hi (n * 2 ^ hw (K : Int) % 2 ^ 128 % 2 ^ hw v)), .int .u64 (lo (n * 2 ^ hw (K : Int) % 2 ^ 128 % 2 ^ hw v))]) (by simp [results, Try.results29, go_sem, q0, q1]) rfl ⟨rfl, hT'.out.fin _ _ _⟩
  have hK : K < 128 := by omega
  clear hneg hbig
  have S : Hid (Pure Try.prog 45 #[rowV (copyF (bitF n) K 0 (128 - K))] (nv (n * 2 ^ hw (K : Int) % 2 ^ 128))) := (ref_num _).eqv (by rw [show copyF (bitF n) K 0 (128 - K) = copyF (bitF n) K 0 (128 - K) by congr 1, shl_num n K (by omega), show hw (K : Int) = K by unfold hw heldZ; omega])
  have S2 : Hid (Pure Try.prog 11 #[nv (n * 2 ^ hw (K : Int) % 2 ^ 128), .int .i64 v] (nv (n * 2 ^ hw (K : Int) % 2 ^ 128 % 2 ^ hw v))) := ref_cut _ v (mod_128_lt _)
  go_enter Try.func29, Try.ntmps29
  go_wp2_with fail
  obtain ⟨W, hW, hB, hs, ca, cr, fa, fr⟩ := box2 w _ _ 24 24
  rw [← hW]
  have r0 := cr 0 (some (.int .u64 0)) rfl
  have r1 := cr 1 (some (.int .u64 0)) rfl
  clear ca cr fa hW
  refine (Bt.out W).mono ?_
  rintro e w' ⟨rfl, x, rfl⟩
  have hmk := R1.make (x := x) hB (rb := w.heap.size + 1) (by omega) (by omega) r0 r1 fr (fun _ => false) 45
  have hth := Lib.hid (hmk.row.there' (bitF n))
  have hmk' := Lib.hid (hmk.write (bitF n))
  clear hmk r0 r1 fr hB hs
  obtain ⟨U, hU⟩ : ∃ U, ((plus W x).alloc (.cells (rowL fun _ => false).toArray 45)).setCells (plus W x).heap.size 0 (rowL (bitF n)) = U := ⟨_, rfl⟩
  rw [hU] at hmk'
  have hU' := Lib.hid hU
  clear hU
  have hmk2 := Lib.hid (R2.make hmk'.out 45)
  go_wp2_with (first | (refine wpList_store_mid rfl 45 _ _ rfl (plus W x).heap.size 0 (rowL (bitF n)).toArray rfl rfl hth.out (row_size' _) (row_one _) ?_; refine wpList_world hU'.out ?_) | fail)
  go_loopw [9] (fun kk V => ∃ j : Nat, j ≤ 128 - K ∧ kk = .int .i64 ((j + K : Nat) : Int) ∧ R2 w (w.heap.size + 1) (plus W x).heap.size U.heap.size (bitF n) (copyF (bitF n) (K) (0) j) V) (fun kk _ => (128 - intOf kk).toNat)
  case atStart => exact ⟨0, Nat.zero_le _, (by rw [Nat.zero_add]), hmk2.out.congr fun i _ => (copyF_zero (bitF n) (K) (0) i).symm⟩
  case round =>
    obtain ⟨j, hj, rfl, hT⟩ := hrel
    by_cases hlt : j + K < 128
    · have cx := hT.x.c (j) (by omega)
      have cb := hT.one.row.c (j + K) (by omega)
      have fz := hT.one.row.fz
      have hS : Hid (R2 w (w.heap.size + 1) (plus W x).heap.size U.heap.size (bitF n) (copyF (bitF n) (K) (0) (j + 1)) (wr.setCell ⟨U.heap.size, j + K, none⟩ (.bool (bitF n (j))))) :=
        (hT.set (j + K) (by omega) (bitF n (j))).congr fun i _ => copyF_at (bitF n) (K) (0) j (j + K) (j) i (by omega) (by omega)
      generalize bitF n (j) = xb at cx hS
      clear hT
      go_wp2
      go_roundw
      case rel => exact ⟨j + 1, by omega, by go_num, hS.out⟩
      case measure => simp [intOf]; omega
    · have hrow := hT.one.row
      rw [show j = 128 - K by omega] at hrow
      have hrg := Lib.hid hrow.range
      have hge : 128 ≤ j + K := by omega
      have q0 := hT.one.p0
      have q1 := hT.one.p1
      have qf := hT.one.pf
      have hT' := Lib.hid hT.one
      clear hT hrow hlt
      go_wp2_with (first | refine wpList_load_mid rfl 45 _ rfl U.heap.size 0 rfl (rowL (copyF (bitF n) (K) (0) (128 - K))) _ hrg.out Try.underlying45 rfl (row_size _) ?_ | fail)
      refine (S.out wr).mono ?_
      rintro e w' ⟨rfl, y, rfl⟩
      go_wp2_with fail
      refine (S2.out.at wr y).mono ?_
      rintro e w' ⟨rfl, y2, rfl⟩
      go_wp2
      exact bodyPost_ret (v := .agg #[.int .u64 (hi (n * 2 ^ hw (K : Int) % 2 ^ 128 % 2 ^ hw v)), .int .u64 (lo (n * 2 ^ hw (K : Int) % 2 ^ 128 % 2 ^ hw v))]) (by simp [results, Try.results29, go_sem, q0, q1]) rfl ⟨rfl, hT'.out.fin _ _ _⟩
end Go.Proofs.Ytdngncblilkchaa
