/-
  WHAT IS PROVED HERE: what the document's Cmp hands back, in whatever world.
-/
import Derived.Test.YtiodfenkbhlpdaaGreatDoorRh
namespace Go.Proofs.YtiodfenkbhlpdaaGreatDoor
open Go.RowKit
theorem bit_above (n i : Nat) (hn : n < B128) (hi : 128 ≤ i) : n.testBit i = false := by
  rw [b128] at hn
  exact Nat.testBit_lt_two_pow (Nat.lt_of_lt_of_le hn (Nat.pow_le_pow_right (by decide) hi))
theorem cmp_same (m n : Nat) (hm : m < B128) (hn : n < B128) (h : ∀ i, 0 ≤ i → i < 128 → bitF m i = bitF n i) : cmpN m n = 0 := by
  have : m = n := Nat.eq_of_testBit_eq fun i => by
    by_cases hi : i < 128
    · exact h i (Nat.zero_le _) hi
    · rw [bit_above m i hm (by omega), bit_above n i hn (by omega)]
  unfold cmpN; rw [if_pos this]
theorem cmp_less (m n k : Nat) (hm : m < B128) (hn : n < B128) (h : ∀ i, k + 1 ≤ i → i < 128 → bitF m i = bitF n i) (h1 : bitF m k = false) (h2 : bitF n k = true) : m < n := by
  have e : m / 2 ^ (k + 1) = n / 2 ^ (k + 1) := Nat.eq_of_testBit_eq fun i => by
    rw [Nat.testBit_div_two_pow, Nat.testBit_div_two_pow]
    by_cases h8 : i + (k + 1) < 128
    · exact h _ (by omega) h8
    · rw [bit_above m _ hm (by omega), bit_above n _ hn (by omega)]
  rw [Nat.pow_succ, ← Nat.div_div_eq_div_mul, ← Nat.div_div_eq_div_mul] at e
  unfold bitF at h1 h2
  rw [Nat.testBit_eq_decide_div_mod_eq, decide_eq_false_iff_not] at h1
  rw [Nat.testBit_eq_decide_div_mod_eq, decide_eq_true_eq] at h2
  rcases Nat.lt_or_ge m n with h3 | h3
  · exact h3
  · have := Nat.div_le_div_right (c := 2 ^ k) h3
    omega
theorem cmp_up (m n k : Nat) (hm : m < B128) (hn : n < B128) (h : ∀ i, k + 1 ≤ i → i < 128 → bitF m i = bitF n i) (h1 : bitF m k = true) (h2 : bitF n k = false) : cmpN m n = 1 := by
  have := cmp_less n m k hn hm (fun i a b => (h i a b).symm) h2 h1
  unfold cmpN; rw [if_neg (by omega), if_neg (by omega)]
theorem cmp_down (m n k : Nat) (hm : m < B128) (hn : n < B128) (h : ∀ i, k + 1 ≤ i → i < 128 → bitF m i = bitF n i) (h1 : bitF m k = false) (h2 : bitF n k = true) : cmpN m n = -1 := by
  have := cmp_less m n k hm hn h h1 h2
  unfold cmpN; rw [if_neg (by omega), if_pos this]
set_option maxRecDepth 100000 in
set_option maxHeartbeats 4000000 in
theorem ref_cmp (m n : Nat) (hm : m < B128) (hn : n < B128) : Pure Tryz.prog 63 #[nv m, nv n] (.int .i64 (cmpN m n)) := by
  intro w
  have hz := zero_run
  have Bm := Lib.hid (ref_bits m hm)
  have Bn := Lib.hid (ref_bits n hn)
  have E0 := Lib.hid (cmp_same m n hm hn)
  have E1 := Lib.hid (fun k => cmp_up m n k hm hn)
  have E2 := Lib.hid (fun k => cmp_down m n k hm hn)
  clear hm hn
  go_enter Tryz.func63, Tryz.ntmps63
  go_wp2_with fail
  obtain ⟨W, hW, hB, hs, ca, cb, fa, fb⟩ := box2 w _ _ 35 35
  rw [← hW]
  have a0 := ca 0 (some (.int .u64 (hi m))) rfl ⟨#[], W.drawn⟩
  have a1 := ca 1 (some (.int .u64 (lo m))) rfl ⟨#[], W.drawn⟩
  have b0 := cb 0 (some (.int .u64 (hi n))) rfl ⟨#[], W.drawn⟩
  have b1 := cb 1 (some (.int .u64 (lo n))) rfl ⟨#[], W.drawn⟩
  rw [plus_self] at a0 a1 b0 b1
  clear hW ca cb fa fb
  have hcell : Hid (∀ V, Below W.heap.size W V → V.cell? ⟨w.heap.size, 0, none⟩ = some (.int .u64 (hi m)) ∧ V.cell? ⟨w.heap.size, 1, none⟩ = some (.int .u64 (lo m)) ∧ V.cell? ⟨w.heap.size + 1, 0, none⟩ = some (.int .u64 (hi n)) ∧ V.cell? ⟨w.heap.size + 1, 1, none⟩ = some (.int .u64 (lo n))) := fun V hV =>
    ⟨(hV.cell (p := ⟨w.heap.size, 0, none⟩) (by show w.heap.size < _; omega)).trans a0, (hV.cell (p := ⟨w.heap.size, 1, none⟩) (by show w.heap.size < _; omega)).trans a1, (hV.cell (p := ⟨w.heap.size + 1, 0, none⟩) (by show w.heap.size + 1 < _; omega)).trans b0, (hV.cell (p := ⟨w.heap.size + 1, 1, none⟩) (by show w.heap.size + 1 < _; omega)).trans b1⟩
  clear a0 a1 b0 b1
  refine wp_region_any (by kernel_rfl) ?_
  rw [drawn_plus]
  refine wpAny_inv (fun l a V => ∃ b0 b1 b2 b3 b4 b5 b6 b7 t5 t6 t8 t9 t10 t11, l = #[b0, b1, b2, b3, b4, b5, b6, b7] ∧ a = ⟨#[nv m, nv n, .pointer (some ⟨w.heap.size, 0, none⟩), .pointer (some ⟨w.heap.size + 1, 0, none⟩), .int .i64 0, t5, t6, undef, t8, t9, t10, t11, undef, undef, undef, undef, undef, undef, undef, undef, undef, undef, undef, undef, undef, undef, undef, undef, undef, undef, undef, undef, undef, undef], []⟩ ∧ Two w W (nv m) (nv n) (bitF m) (bitF n) b0 b1 b2 b3 b4 b5 b6 b7 t5 t6 t8 t9 t10 t11 V) ?hd ?hs _ _ _ _ (by decide) ⟨false, false, false, false, false, false, false, false, undef, undef, undef, undef, undef, undef, rfl, rfl, Two.start _⟩
  case hs =>
    rintro l a V i ⟨b0, b1, b2, b3, b4, b5, b6, b7, t5, t6, t8, t9, t10, t11, rfl, rfl, hT⟩ hi
    have hc : chk b0 b1 b2 b3 b4 b5 i = true := by
      refine List.all_eq_true.1 ?_ i hi
      clear hi hT
      revert b0 b1 b2 b3 b4 b5 b6 b7
      decide +kernel
    clear hi
    obtain ⟨c0, c1, c2, c3⟩ := hcell.out V hT.below
    have hT := Lib.hid hT
    rcases chk_cases _ _ _ _ _ _ _ hc with rfl | ⟨rfl, rfl⟩ | rfl | ⟨rfl, rfl⟩ | ⟨rfl, rfl⟩ | ⟨rfl, rfl⟩ | ⟨rfl, rfl, rfl⟩ | ⟨rfl, rfl, rfl⟩
    · refine wpOp_step rfl fun K hK => ?_
      rw [if_pos (by rfl)]
      go_simp
      exact hK _ _ ⟨true, b1, b2, b3, b4, b5, b6, b7, t5, t6, _, t9, t10, t11, rfl, rfl, hT.out.load0⟩
    · obtain rfl := hT.out.e0 rfl
      refine wpOp_step rfl fun K hK => ?_
      rw [if_pos (by rfl)]
      go_simp
      refine (Bm.out V).mono ?_
      rintro e w' ⟨rfl, x, rfl⟩
      try go_simp
      exact hK _ _ ⟨true, true, b2, b3, b4, b5, b6, b7, t5, t6, _, _, t10, t11, rfl, rfl, hT.out.call1 x⟩
    · refine wpOp_step rfl fun K hK => ?_
      rw [if_pos (by rfl)]
      go_simp
      exact hK _ _ ⟨b0, b1, true, b3, b4, b5, b6, b7, t5, t6, t8, t9, _, t11, rfl, rfl, hT.out.load2⟩
    · obtain rfl := hT.out.e2 rfl
      refine wpOp_step rfl fun K hK => ?_
      rw [if_pos (by rfl)]
      go_simp
      refine (Bn.out V).mono ?_
      rintro e w' ⟨rfl, x, rfl⟩
      try go_simp
      exact hK _ _ ⟨b0, b1, true, true, b4, b5, b6, b7, t5, t6, t8, t9, _, _, rfl, rfl, hT.out.call3 x⟩
    · obtain rfl := hT.out.off6
      refine wpOp_step rfl fun K hK => ?_
      rw [if_pos (by rfl)]
      go_simp
      exact hK _ _ ⟨b0, b1, b2, b3, true, b5, false, b7, _, t6, t8, t9, t10, t11, rfl, rfl, hT.out.alloc4 _⟩
    · obtain rfl := hT.out.off7
      refine wpOp_step rfl fun K hK => ?_
      rw [if_pos (by rfl)]
      go_simp
      exact hK _ _ ⟨b0, b1, b2, b3, b4, true, b6, false, t5, _, t8, t9, t10, t11, rfl, rfl, hT.out.alloc5 _⟩
    · obtain rfl := hT.out.e1 rfl
      obtain ⟨p, rfl, _, _, k, hk, _⟩ := hT.out.x.row rfl
      refine wpOp_step rfl fun K hK => ?_
      rw [if_pos (by rfl)]
      refine Go.wp_store_mid _ _ _ rfl p 0 (rowL (bitF m)).toArray rfl rfl (hk.there' _) (row_size' _) (row_one _) ?_
      exact hK _ _ ⟨b0, true, b2, b3, true, b5, true, b7, _, t6, t8, _, t10, t11, rfl, rfl, hT.out.store6⟩
    · obtain rfl := hT.out.e3 rfl
      obtain ⟨p, rfl, _, _, k, hk, _⟩ := hT.out.y.row rfl
      refine wpOp_step rfl fun K hK => ?_
      rw [if_pos (by rfl)]
      refine Go.wp_store_mid _ _ _ rfl p 0 (rowL (bitF n)).toArray rfl rfl (hk.there' _) (row_size' _) (row_one _) ?_
      exact hK _ _ ⟨b0, b1, b2, true, b4, true, b6, true, t5, _, t8, t9, t10, _, rfl, rfl, hT.out.store7⟩
  case hd =>
    rintro l a V ⟨b0, b1, b2, b3, b4, b5, b6, b7, t5, t6, t8, t9, t10, t11, rfl, rfl, hT⟩ hi
    have hc : (b0 && b1 && b2 && b3 && b4 && b5 && b6 && b7) = true := by
      clear hT
      revert b0 b1 b2 b3 b4 b5 b6 b7
      decide +kernel
    clear hi
    simp only [Bool.and_eq_true] at hc
    obtain ⟨⟨⟨⟨⟨⟨⟨rfl, rfl⟩, rfl⟩, rfl⟩, rfl⟩, rfl⟩, rfl⟩, rfl⟩ := hc
    obtain rfl := hT.e0 rfl
    obtain rfl := hT.e1 rfl
    obtain rfl := hT.e2 rfl
    obtain rfl := hT.e3 rfl
    obtain ⟨p, rfl, p1, p2, f', p3, p4⟩ := hT.x.row rfl
    obtain ⟨q, rfl, q1, q2, g', q3, q4⟩ := hT.y.row rfl
    obtain rfl := p4 rfl
    obtain rfl := q4 rfl
    have hbl := Lib.hid (hB.trans (hT.below.mono hB.size))
    have hx := Lib.hid p3
    have hy := Lib.hid q3
    clear p1 p2 p3 p4 q1 q2 q3 q4 hT hcell Bm Bn hB hs
    go_wp2
    go_loopw [7] (fun kk U => ∃ j : Nat, j ≤ 128 ∧ kk = .int .i64 ((j : Int) - 1) ∧ U = V ∧ Hid (∀ i, j ≤ i → i < 128 → bitF m i = bitF n i)) (fun kk _ => (intOf kk + 1).toNat)
    case atStart => exact ⟨128, Nat.le_refl _, rfl, rfl, Lib.hid fun i h1 h2 => absurd h2 (by omega)⟩
    case round =>
      obtain ⟨j, hj, rfl, rfl, hT⟩ := hrel
      rcases j with _ | k
      · have e0 := E0.out hT.out
        clear hT
        go_wp2
        go_ret
        exact ⟨congrArg (fun z : Int => Ending.returned (.int .i64 z)) e0.symm, plus_of_below hbl.out⟩
      · have e : ((k + 1 : Nat) : Int) - 1 = (k : Int) := by omega
        rw [e]
        have cj := hx.out.c k (by omega)
        have dj := hy.out.c k (by omega)
        cases hbit : bitF m k <;> rw [hbit] at cj <;> cases hbit2 : bitF n k <;> rw [hbit2] at dj
        · go_wp2
          go_roundw
          case rel => exact ⟨k, by omega, by go_num, trivial, Lib.hid fun i h1 h2 => by
            rcases Nat.lt_or_ge k i with h | h
            · exact hT.out i h h2
            · obtain rfl : i = k := by omega
              rw [hbit, hbit2]⟩
          case measure => simp [intOf]
        · have e0 := E2.out k hT.out hbit hbit2
          clear hT
          go_wp2
          go_ret
          exact ⟨congrArg (fun z : Int => Ending.returned (.int .i64 z)) e0.symm, plus_of_below hbl.out⟩
        · have e0 := E1.out k hT.out hbit hbit2
          clear hT
          go_wp2
          go_ret
          exact ⟨congrArg (fun z : Int => Ending.returned (.int .i64 z)) e0.symm, plus_of_below hbl.out⟩
        · go_wp2
          go_roundw
          case rel => exact ⟨k, by omega, by go_num, trivial, Lib.hid fun i h1 h2 => by
            rcases Nat.lt_or_ge k i with h | h
            · exact hT.out i h h2
            · obtain rfl : i = k := by omega
              rw [hbit, hbit2]⟩
          case measure => simp [intOf]
end Go.Proofs.YtiodfenkbhlpdaaGreatDoor
