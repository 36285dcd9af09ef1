/-
  WHAT IS PROVED HERE: what more of the document's calls of layer 1 hand back: a number turned, one bit, a fit, in whatever world.
-/
import Derived.Test.YtdngncblilkchaaRc
namespace Go.Proofs.Ytdngncblilkchaa
open Go.RowKit
/-- The bits below a width, turned. -/
def notF (n : Nat) (k : Int) (i : Nat) : Bool := !(bitF n i) && decide ((i : Int) < k)
theorem not_lt (n : Nat) (k : Int) : n % 2 ^ hw k ^^^ (2 ^ hw k - 1) < B128 := by
  have h1 := mod_hw_lt n k
  have h2 := mask_lt k
  rw [b128] at *
  exact Nat.xor_lt_two_pow h1 h2
theorem not_num (n : Nat) (k : Int) : numF (notF n k) = n % 2 ^ hw k ^^^ (2 ^ hw k - 1) := by
  refine numF_eq _ _ (not_lt n k) fun i hi => ?_
  rw [Nat.testBit_xor, Nat.testBit_mod_two_pow, Nat.testBit_two_pow_sub_one]
  unfold notF bitF
  have e : decide ((i : Int) < k) = decide (i < hw k) := by unfold hw heldZ; rw [decide_eq_decide]; omega
  rw [e]
  cases n.testBit i <;> cases decide (i < hw k) <;> rfl
set_option maxRecDepth 100000 in
set_option maxHeartbeats 1000000 in
theorem ref_not (n : Nat) (k : Int) (hn : n < B128) : Pure Try.prog 23 #[nv n, .int .i64 k] (nv (n % 2 ^ hw k ^^^ (2 ^ hw k - 1))) := by
  intro w
  have hz := zero_run
  have S := Lib.hid ((ref_num (notF n k)).eqv (congrArg nv (not_num n k)))
  have Bt := Lib.hid (ref_bits n hn)
  clear hn
  go_enter Try.func23, Try.ntmps23
  go_wp2_with fail
  obtain ⟨W, hW, hB, hs, ca, cr, fa, fr⟩ := box2 w _ _ 24 24
  rw [← hW]
  have r0 := cr 0 (some (.int .u64 0)) rfl
  have r1 := cr 1 (some (.int .u64 0)) rfl
  clear ca cr fa hW
  refine (Bt.out W).mono ?_
  rintro e w' ⟨rfl, x, rfl⟩
  have hmk := R1.make (x := x) hB (rb := w.heap.size + 1) (by omega) (by omega) r0 r1 fr (fun _ => false) 45
  have hth := Lib.hid (hmk.row.there' (bitF n))
  have hmk' := Lib.hid (hmk.write (bitF n))
  clear hmk r0 r1 fr hB hs
  go_wp2_with (first | refine wpList_store_mid rfl 45 _ _ rfl (plus W x).heap.size 0 (rowL (bitF n)).toArray rfl rfl hth.out (row_size' _) (row_one _) ?_ | fail)
  generalize hb : (plus W x).heap.size = b at hmk'
  go_loopw [6] (fun kk V => ∃ j : Nat, j ≤ 128 ∧ kk = .int .i64 j ∧ R1 w (w.heap.size + 1) b (upto (notF n k) (bitF n) j) V) (fun kk _ => 128 - (intOf kk).toNat)
  case atStart => exact ⟨0, Nat.zero_le _, rfl, hmk'.out.congr fun i _ => (upto_zero (notF n k) (bitF n) i).symm⟩
  case round =>
    obtain ⟨j, hj, rfl, hT⟩ := hrel
    by_cases hlt : j < 128
    · have cj := hT.row.c j hlt
      rw [upto_at] at cj
      have fz := hT.row.fz
      have hS : Hid (∀ x, x = notF n k j → R1 w (w.heap.size + 1) b (upto (notF n k) (bitF n) (j + 1)) (wr.setCell ⟨b, j, none⟩ (.bool x))) := fun x hx => by
        subst hx
        exact (hT.set j hlt (notF n k j)).congr fun i _ => upto_succ (notF n k) (bitF n) j i
      have hd : Hid (notF n k j = (!(bitF n j) && decide ((j : Int) < k))) := rfl
      clear hT
      cases hbit : bitF n j <;> rw [hbit] at cj
      · go_wp2
        go_roundw
        case rel => exact ⟨j + 1, by omega, by go_num, hS.out _ (by rw [hd.out, hbit]; rfl)⟩
        case measure => simp [intOf]; omega
      · go_wp2
        go_roundw
        case rel => exact ⟨j + 1, by omega, by go_num, hS.out _ (by rw [hd.out, hbit]; rfl)⟩
        case measure => simp [intOf]; omega
    · obtain rfl : j = 128 := by omega
      have hrow := hT.row.congr (upto_all (notF n k) _)
      have hrg := Lib.hid hrow.range
      have q0 := hT.p0
      have q1 := hT.p1
      have qf := hT.pf
      have hT' := Lib.hid hT
      clear hT hrow
      go_wp2_with (first | refine wpList_load_mid rfl 45 _ rfl b 0 rfl (rowL (notF n k)) _ hrg.out Try.underlying45 rfl (row_size _) ?_ | fail)
      refine (S.out wr).mono ?_
      rintro e w' ⟨rfl, y, rfl⟩
      go_wp2
      exact bodyPost_ret (v := .agg #[.int .u64 (hi (n % 2 ^ hw k ^^^ (2 ^ hw k - 1))), .int .u64 (lo (n % 2 ^ hw k ^^^ (2 ^ hw k - 1)))]) (by simp [results, Try.results23, go_sem, q0, q1]) rfl ⟨rfl, hT'.out.fin y _ _⟩
set_option maxHeartbeats 400000 in
theorem ref_of (n : Nat) (hn : n < 18446744073709551616) : Pure Try.prog 15 #[.int .u64 (n : Int)] (nv n) := by
  intro w
  have e : Hid (Value.agg #[.int .u64 0, .int .u64 (n : Int)] = nv n) := by
    show _ = _
    unfold nv hi lo
    rw [Nat.div_eq_of_lt hn, Nat.mod_eq_of_lt hn]
    rfl
  clear hn
  go_enter Try.func15, Try.ntmps15
  go_wp2
  refine bodyPost_ret (v := .agg #[.int .u64 0, .int .u64 (n : Int)]) (by simp [results, Try.results15, go_sem]) rfl ⟨congrArg Ending.returned e.out, ?_⟩
  exact plus_of_below ((Below.refl _ _).alloc (Nat.le_refl _) _)
set_option maxHeartbeats 400000 in
theorem ref_fits (n : Nat) (k : Int) (hn : n < B128) : Pure Try.prog 13 #[nv n, .int .i64 k] (.bool (decide (n % 2 ^ hw k = n))) := by
  intro w
  have S := Lib.hid (ref_cut n k hn)
  have eqN := eql_nv
  clear hn
  go_enter Try.func13, Try.ntmps13
  go_wp2
  obtain ⟨W, hW, hB, hs, ca, fa⟩ := box1 w _ 24
  rw [← hW]
  have ca0 := ca 0 (some (.int .u64 (hi n))) rfl
  have ca1 := ca 1 (some (.int .u64 (lo n))) rfl
  clear hW fa ca
  refine wp_region_own0 (by kernel_rfl) (by kernel_rfl) ?_
  repeat (go_big_quiet_step (exact S.out.at _ _))
  refine wpQuiet_nil ?_
  rintro _ ⟨y, rfl⟩
  go_wp2
  go_ret
  exact ⟨rfl, plus_of_below (hB.trans ((below_plus W y).mono hB.size))⟩
theorem bit_same (n : Nat) (k : Int) (h0 : 0 ≤ k) (h1 : k < 128) : bitF n k.toNat = bitN n k := by
  rw [bitN_pos n k h0]
  have e : hw k = k.toNat := by unfold hw heldZ; omega
  rw [e]
  unfold bitF
  rw [Nat.testBit_eq_decide_div_mod_eq, Bool.eq_iff_iff, beq_iff_eq, decide_eq_true_eq, div_cast]
  omega
theorem bit_out (n : Nat) (k : Int) (hn : n < B128) (h1 : 128 ≤ k) : bitN n k = false := by
  rw [bitN_pos n k (by omega)]
  have e : hw k = 128 := by unfold hw heldZ; omega
  rw [e, div_cast, Nat.div_eq_of_lt (by rwa [b128] at hn)]
  rfl
theorem wpList_world {P : Program} {ops : Array Oper} {Q : Exit → Act → World → Prop} {l : List Oper} {a : Act} {V U : World} (e : V = U) (h : wpList P ops Q l a U) : wpList P ops Q l a V := by rw [e]; exact h
set_option maxRecDepth 100000 in
set_option maxHeartbeats 1000000 in
theorem ref_bit (n : Nat) (k : Int) (hn : n < B128) : Pure Try.prog 33 #[nv n, .int .i64 k] (.bool (bitN n k)) := by
  intro w
  have hz := zero_run
  have Bt := Lib.hid (ref_bits n hn)
  have hn' := Lib.hid hn
  clear hn
  go_enter Try.func33, Try.ntmps33
  go_wp2_with fail
  obtain ⟨W, hW, hB, hs, ca, fa⟩ := box1 w _ 24
  rw [← hW]
  clear ca fa hW
  refine (Bt.out W).mono ?_
  rintro e w' ⟨rfl, x, rfl⟩
  have hrow := RowAt.new (plus W x) (fun _ => false) 45
  have hth := Lib.hid (hrow.there' (bitF n))
  have hrow' := hrow.written (bitF n)
  have hbl : Hid (Below w.heap.size w (((plus W x).alloc (.cells (rowL fun _ => false).toArray 45)).setCells (plus W x).heap.size 0 (rowL (bitF n)))) := below_setCells _ _ _ _ _ ((hB.trans ((below_plus W x).mono hB.size)).alloc (by have := size_plus W x; have := hB.size; omega) _) (by have := size_plus W x; have := hB.size; omega)
  have hc := hrow'.c
  obtain ⟨U, hU⟩ : ∃ U, ((plus W x).alloc (.cells (rowL fun _ => false).toArray 45)).setCells (plus W x).heap.size 0 (rowL (bitF n)) = U := ⟨_, rfl⟩
  rw [hU] at hbl hc
  have hU' := Lib.hid hU
  have hc' := Lib.hid hc
  clear hrow hrow' hB hs hU hc
  by_cases h0 : k < 0
  · have e0 := Lib.hid (bitN_neg n k h0)
    go_wp2_with (first | (refine wpList_store_mid rfl 45 _ _ rfl (plus W x).heap.size 0 (rowL (bitF n)).toArray rfl rfl hth.out (row_size' _) (row_one _) ?_; refine wpList_world hU'.out ?_) | fail)
    go_ret
    exact ⟨congrArg (fun z => Ending.returned (.bool z)) e0.out.symm, plus_of_below hbl.out⟩
  by_cases h1 : 128 ≤ k
  · have e0 := Lib.hid (bit_out n k hn'.out h1)
    go_wp2_with (first | (refine wpList_store_mid rfl 45 _ _ rfl (plus W x).heap.size 0 (rowL (bitF n)).toArray rfl rfl hth.out (row_size' _) (row_one _) ?_; refine wpList_world hU'.out ?_) | fail)
    go_ret
    exact ⟨congrArg (fun z => Ending.returned (.bool z)) e0.out.symm, plus_of_below hbl.out⟩
  · obtain ⟨i, rfl⟩ : ∃ i : Nat, k = (i : Int) := ⟨k.toNat, by omega⟩
    have e0 := Lib.hid (bit_same n i (by omega) (by omega))
    have ci := hc'.out i (by omega)
    have hi1 : i < 128 := by omega
    clear h0 h1
    go_wp2_with (first | (refine wpList_store_mid rfl 45 _ _ rfl (plus W x).heap.size 0 (rowL (bitF n)).toArray rfl rfl hth.out (row_size' _) (row_one _) ?_; refine wpList_world hU'.out ?_) | fail)
    go_ret
    exact ⟨congrArg (fun z => Ending.returned (.bool z)) e0.out, plus_of_below hbl.out⟩
end Go.Proofs.Ytdngncblilkchaa
