/-
  WHAT IS PROVED HERE: a part of the proof of the claim's theorem: Rj; Rk; Rl; Uf.
-/
import Derived.Test.YtkffjjlmoojffaaGreatDoorM6
import Derived.Test.YtkffjjlmoojffaaGreatDoorRows
import Derived.Test.YtkffjjlmoojffaaGreatDoorM5
import Derived.WalkKit
import Derived.WalkSpells
import Derived.WalkLawsBesides
import Derived.Deep.RegionWith
set_option linter.all false
namespace Go.Proofs.YtkffjjlmoojffaaGreatDoor
open Go.RowKit
end Go.Proofs.YtkffjjlmoojffaaGreatDoor
namespace Go.Proofs.YtkffjjlmoojffaaGreatDoor
open Go.RowKit
def carF (m n j : Nat) : Bool := BitVec.carry j (BitVec.ofNat 128 m) (BitVec.ofNat 128 n) false
def addF (m n j : Nat) : Bool := bitF ((m + n) % 2 ^ 128) j
theorem car_zero (m n : Nat) : carF m n 0 = false := by unfold carF; simp [BitVec.carry_zero]
theorem bit_vec (m j : Nat) (hj : j < 128) : (BitVec.ofNat 128 m).getLsbD j = bitF m j := by
  unfold bitF; rw [BitVec.getLsbD_ofNat]; simp [hj]
theorem car_succ (m n j : Nat) (hj : j < 128) : carF m n (j + 1) = (bitF m j && bitF n j || bitF m j && carF m n j || bitF n j && carF m n j) := by
  unfold carF
  rw [BitVec.carry_succ, bit_vec m j hj, bit_vec n j hj]
theorem add_bit (m n j : Nat) (hj : j < 128) : addF m n j = bne (bne (bitF m j) (bitF n j)) (carF m n j) := by
  have h := BitVec.getLsbD_add (w := 128) hj (BitVec.ofNat 128 m) (BitVec.ofNat 128 n)
  rw [bit_vec m j hj, bit_vec n j hj, ← BitVec.ofNat_add, bit_vec _ j hj] at h
  unfold addF carF
  have e : bitF ((m + n) % 2 ^ 128) j = bitF (m + n) j := by unfold bitF; rw [Nat.testBit_mod_two_pow]; simp [hj]
  rw [e, h]
  cases bitF m j <;> cases bitF n j <;> cases BitVec.carry j (BitVec.ofNat 128 m) (BitVec.ofNat 128 n) false <;> rfl
theorem add_num (m n : Nat) : numF (addF m n) = (m + n) % 2 ^ 128 :=
  numF_eq _ _ (mod_128_lt _) fun _ _ => rfl
end Go.Proofs.YtkffjjlmoojffaaGreatDoor
namespace Go.Proofs.YtkffjjlmoojffaaGreatDoor
open Go.RowKit
set_option maxRecDepth 100000 in
set_option maxHeartbeats 8000000 in
theorem ref_add (m n : Nat) (k : Int) (hm : m < B128) (hn : n < B128) : Pure Tryz.prog 138 #[nv m, nv n, .int .i64 k] (nv ((m + n) % 2 ^ 128 % 2 ^ hw k)) := by
  intro w
  have hz := zero_run
  have nb := neqB_run
  have Bm := Lib.hid (ref_bits m hm)
  have Bn := Lib.hid (ref_bits n hn)
  have S : Hid (Pure Tryz.prog 141 #[rowV (addF m n)] (nv ((m + n) % 2 ^ 128))) := (ref_num _).eqv (by rw [add_num])
  have S2 : Hid (Pure Tryz.prog 119 #[nv ((m + n) % 2 ^ 128), .int .i64 k] (nv ((m + n) % 2 ^ 128 % 2 ^ hw k))) := ref_cut _ k (mod_128_lt _)
  clear hm hn
  go_enter Tryz.func138, Tryz.ntmps138
  go_wp2_with fail
  obtain ⟨W, hW, hB, hs, ca, cb, cr, fa, fb, fr⟩ := box3 w _ _ _ 58 58 58
  rw [← hW]
  have a0 := ca 0 (some (.int .u64 (hi m))) rfl ⟨#[], W.drawn⟩
  have a1 := ca 1 (some (.int .u64 (lo m))) rfl ⟨#[], W.drawn⟩
  have b0 := cb 0 (some (.int .u64 (hi n))) rfl ⟨#[], W.drawn⟩
  have b1 := cb 1 (some (.int .u64 (lo n))) rfl ⟨#[], W.drawn⟩
  rw [plus_self] at a0 a1 b0 b1
  have r0 := Lib.hid (cr 0 (some (.int .u64 0)) rfl)
  have r1 := Lib.hid (cr 1 (some (.int .u64 0)) rfl)
  have hfr := Lib.hid fr
  clear hW ca cb cr fa fb fr
  have hcell : Hid (∀ V, Below W.heap.size W V → V.cell? ⟨w.heap.size, 0, none⟩ = some (.int .u64 (hi m)) ∧ V.cell? ⟨w.heap.size, 1, none⟩ = some (.int .u64 (lo m)) ∧ V.cell? ⟨w.heap.size + 1, 0, none⟩ = some (.int .u64 (hi n)) ∧ V.cell? ⟨w.heap.size + 1, 1, none⟩ = some (.int .u64 (lo n))) := fun V hV =>
    ⟨(hV.cell (p := ⟨w.heap.size, 0, none⟩) (by show w.heap.size < _; omega)).trans a0, (hV.cell (p := ⟨w.heap.size, 1, none⟩) (by show w.heap.size < _; omega)).trans a1, (hV.cell (p := ⟨w.heap.size + 1, 0, none⟩) (by show w.heap.size + 1 < _; omega)).trans b0, (hV.cell (p := ⟨w.heap.size + 1, 1, none⟩) (by show w.heap.size + 1 < _; omega)).trans b1⟩
  clear a0 a1 b0 b1
  refine wp_region_any (by kernel_rfl) ?_
  rw [drawn_plus]
  refine wpAny_inv (fun l a V => ∃ b0 b1 b2 b3 b4 b5 b6 b7 t5 t6 t8 t9 t10 t11, l = #[b0, b1, b2, b3, b4, b5, b6, b7] ∧ a = ⟨#[nv m, nv n, .int .i64 k, .pointer (some ⟨w.heap.size, 0, none⟩), .pointer (some ⟨w.heap.size + 1, 0, none⟩), undef, .pointer (some ⟨w.heap.size + 1 + 1, 0, none⟩), t5, t6, undef, undef, undef, t8, t9, t10, t11, undef, undef, undef, undef, undef, undef, undef, undef, undef, undef, undef, undef, undef, undef, undef, undef, undef, undef, undef, undef, undef, undef, undef, undef, undef, undef, undef, undef, undef, undef, undef, undef, undef, undef, undef, undef, undef, undef, undef, undef, undef, undef, undef, undef], []⟩ ∧ TwoRows w W (nv m) (nv n) (bitF m) (bitF n) b0 b1 b2 b3 b4 b5 b6 b7 t5 t6 t8 t9 t10 t11 V) ?hd ?hs _ _ _ _ (by decide) ⟨false, false, false, false, false, false, false, false, undef, undef, undef, undef, undef, undef, rfl, rfl, TwoRows.start _⟩
  case hs =>
    rintro l a V i ⟨b0, b1, b2, b3, b4, b5, b6, b7, t5, t6, t8, t9, t10, t11, rfl, rfl, hT⟩ hi
    have hc : chk b0 b1 b2 b3 b4 b5 i = true := by
      refine List.all_eq_true.1 ?_ i hi
      clear hi hT
      revert b0 b1 b2 b3 b4 b5 b6 b7
      decide +kernel
    clear hi
    obtain ⟨c0, c1, c2, c3⟩ := hcell.out V hT.below
    have hT := Lib.hid hT
    rcases chk_cases _ _ _ _ _ _ _ hc with rfl | ⟨rfl, rfl⟩ | rfl | ⟨rfl, rfl⟩ | ⟨rfl, rfl⟩ | ⟨rfl, rfl⟩ | ⟨rfl, rfl, rfl⟩ | ⟨rfl, rfl, rfl⟩
    · refine wpOp_step rfl fun K hK => ?_
      rw [if_pos (by rfl)]
      go_simp
      exact hK _ _ ⟨true, b1, b2, b3, b4, b5, b6, b7, t5, t6, _, t9, t10, t11, rfl, rfl, hT.out.load0⟩
    · obtain rfl := hT.out.e0 rfl
      refine wpOp_step rfl fun K hK => ?_
      rw [if_pos (by rfl)]
      go_simp
      refine (Bm.out V).mono ?_
      rintro e w' ⟨rfl, x, rfl⟩
      try go_simp
      exact hK _ _ ⟨true, true, b2, b3, b4, b5, b6, b7, t5, t6, _, _, t10, t11, rfl, rfl, hT.out.call1 x⟩
    · refine wpOp_step rfl fun K hK => ?_
      rw [if_pos (by rfl)]
      go_simp
      exact hK _ _ ⟨b0, b1, true, b3, b4, b5, b6, b7, t5, t6, t8, t9, _, t11, rfl, rfl, hT.out.load2⟩
    · obtain rfl := hT.out.e2 rfl
      refine wpOp_step rfl fun K hK => ?_
      rw [if_pos (by rfl)]
      go_simp
      refine (Bn.out V).mono ?_
      rintro e w' ⟨rfl, x, rfl⟩
      try go_simp
      exact hK _ _ ⟨b0, b1, true, true, b4, b5, b6, b7, t5, t6, t8, t9, _, _, rfl, rfl, hT.out.call3 x⟩
    · obtain rfl := hT.out.off6
      refine wpOp_step rfl fun K hK => ?_
      rw [if_pos (by rfl)]
      go_simp
      exact hK _ _ ⟨b0, b1, b2, b3, true, b5, false, b7, _, t6, t8, t9, t10, t11, rfl, rfl, hT.out.alloc4 _⟩
    · obtain rfl := hT.out.off7
      refine wpOp_step rfl fun K hK => ?_
      rw [if_pos (by rfl)]
      go_simp
      exact hK _ _ ⟨b0, b1, b2, b3, b4, true, b6, false, t5, _, t8, t9, t10, t11, rfl, rfl, hT.out.alloc5 _⟩
    · obtain rfl := hT.out.e1 rfl
      obtain ⟨p, rfl, _, _, k, hk, _⟩ := hT.out.x.row rfl
      refine wpOp_step rfl fun K hK => ?_
      rw [if_pos (by rfl)]
      refine Go.wp_store_mid _ _ _ rfl p 0 (rowL (bitF m)).toArray rfl rfl (hk.there' _) (row_size' _) (row_one _) ?_
      exact hK _ _ ⟨b0, true, b2, b3, true, b5, true, b7, _, t6, t8, _, t10, t11, rfl, rfl, hT.out.store6⟩
    · obtain rfl := hT.out.e3 rfl
      obtain ⟨p, rfl, _, _, k, hk, _⟩ := hT.out.y.row rfl
      refine wpOp_step rfl fun K hK => ?_
      rw [if_pos (by rfl)]
      refine Go.wp_store_mid _ _ _ rfl p 0 (rowL (bitF n)).toArray rfl rfl (hk.there' _) (row_size' _) (row_one _) ?_
      exact hK _ _ ⟨b0, b1, b2, true, b4, true, b6, true, t5, _, t8, t9, t10, _, rfl, rfl, hT.out.store7⟩
  case hd =>
    rintro l a V ⟨b0, b1, b2, b3, b4, b5, b6, b7, t5, t6, t8, t9, t10, t11, rfl, rfl, hT⟩ hi
    have hc : (b0 && b1 && b2 && b3 && b4 && b5 && b6 && b7) = true := by
      clear hT
      revert b0 b1 b2 b3 b4 b5 b6 b7
      decide +kernel
    clear hi
    simp only [Bool.and_eq_true] at hc
    obtain ⟨⟨⟨⟨⟨⟨⟨rfl, rfl⟩, rfl⟩, rfl⟩, rfl⟩, rfl⟩, rfl⟩, rfl⟩ := hc
    obtain rfl := hT.e0 rfl
    obtain rfl := hT.e1 rfl
    obtain rfl := hT.e2 rfl
    obtain rfl := hT.e3 rfl
    obtain ⟨p, rfl, p1, p2, f', p3, p4⟩ := hT.x.row rfl
    obtain ⟨q, rfl, q1, q2, g', q3, q4⟩ := hT.y.row rfl
    obtain rfl := p4 rfl
    obtain rfl := q4 rfl
    have hpq := hT.apart rfl rfl _ _ rfl rfl
    have hR := Lib.hid (R3.make hB (by omega) (by omega) r0.out r1.out hfr.out hT.below p1 p2 p3 q3 hpq)
    clear p1 p2 p3 p4 q1 q2 q3 q4 hpq hT r0 r1 hfr hcell Bm Bn hB hs
    go_wp2
    go_loopw [9, 10] (fun cc kk U => ∃ j : Nat, j ≤ 128 ∧ cc = .bool (carF m n j) ∧ kk = .int .i64 j ∧ R3 w (w.heap.size + 1 + 1) p q (upto (addF m n) (bitF m) j) (bitF n) U) (fun _ kk _ => 128 - (intOf kk).toNat)
    case atStart => exact ⟨0, Nat.zero_le _, by rw [car_zero], rfl, hR.out.congr fun i _ => (upto_zero (addF m n) (bitF m) i).symm⟩
    case round =>
      obtain ⟨j, hj, rfl, rfl, hT⟩ := hrel
      by_cases hlt : j < 128
      · have cj := hT.one.row.c j hlt
        rw [upto_at] at cj
        have dj := hT.y.c j hlt
        have fz := hT.one.row.fz
        have cj : ∀ y, (plus wr y).cell? ⟨p, j, none⟩ = some (.bool (bitF m j)) := fun y => (cell_plus wr y p j hT.one.blt).trans cj
        have dj : ∀ y, (plus wr y).cell? ⟨q, j, none⟩ = some (.bool (bitF n j)) := fun y => (cell_plus wr y q j hT.yl).trans dj
        have fz : ∀ y o, (plus wr y).frozen? ⟨p, o, none⟩ = false := fun y o => (frozen_plus wr y p o hT.one.blt).trans (fz o)
        have hS : Hid (∀ y x, x = addF m n j → R3 w (w.heap.size + 1 + 1) p q (upto (addF m n) (bitF m) (j + 1)) (bitF n) ((plus wr y).setCell ⟨p, j, none⟩ (.bool x))) := fun y x hx => by
          subst hx
          exact ((hT.grow y).set j hlt (addF m n j)).congr fun i _ => upto_succ (addF m n) (bitF m) j i
        have hd := Lib.hid (add_bit m n j hlt)
        have hc := Lib.hid (car_succ m n j hlt)
        clear hT
        cases hbit : bitF m j <;> rw [hbit] at cj <;> cases hbit2 : bitF n j <;> rw [hbit2] at dj <;> cases hcar : carF m n j
        all_goals
          go_wp2
          refine wp_region_own0 (by kernel_rfl) (by kernel_rfl) ?_
          repeat (go_big_quiet_step (fail))
          refine wpQuiet_nil ?_
          rintro _ ⟨y, rfl⟩
          go_wp2
          go_roundw
          case rel => exact ⟨j + 1, by omega, by rw [hc.out, hbit, hbit2, hcar]; rfl, by go_num, hS.out y _ (by rw [hd.out, hbit, hbit2, hcar]; rfl)⟩
          case measure => simp [intOf]; omega
      · obtain rfl : j = 128 := by omega
        have hrow := hT.one.row.congr (upto_all (addF m n) _)
        have hrg := Lib.hid hrow.range
        have q0 := hT.one.p0
        have q1 := hT.one.p1
        have qf := hT.one.pf
        have hT' := Lib.hid hT.one
        clear hT hrow
        go_wp2_with (first | refine wpList_load_mid rfl 180 _ rfl p 0 rfl (rowL (addF m n)) _ hrg.out Tryz.underlying180 rfl (row_size _) ?_ | fail)
        refine (S.out wr).mono ?_
        rintro e w' ⟨rfl, y, rfl⟩
        go_wp2_with fail
        refine (S2.out.at wr y).mono ?_
        rintro e w' ⟨rfl, y2, rfl⟩
        go_wp2
        exact bodyPost_ret (v := .agg #[.int .u64 (hi ((m + n) % 2 ^ 128 % 2 ^ hw k)), .int .u64 (lo ((m + n) % 2 ^ 128 % 2 ^ hw k))]) (by simp [results, Tryz.results138, go_sem, q0, q1]) rfl ⟨rfl, hT'.out.fin _ _ _⟩
end Go.Proofs.YtkffjjlmoojffaaGreatDoor
namespace Go.Proofs.YtkffjjlmoojffaaGreatDoor
open Go.RowKit
theorem rdig_cases (c b : Nat) (hb : b = 10 ∨ b = 16) : (48 ≤ c → c ≤ 57 → rdig c b = (c : Int) - 48) ∧ (97 ≤ c → c ≤ 102 → rdig c b = if b = 16 then (c : Int) - 97 + 10 else 99) ∧ (65 ≤ c → c ≤ 70 → rdig c b = if b = 16 then (c : Int) - 65 + 10 else 99) ∧ (¬ (48 ≤ c ∧ c ≤ 57) → ¬ (97 ≤ c ∧ c ≤ 102) → ¬ (65 ≤ c ∧ c ≤ 70) → rdig c b = 99) := by
  have D := digV_eq (c : Int) (b : Int)
  unfold rdig
  refine ⟨fun h1 h2 => ?_, fun h1 h2 => ?_, fun h1 h2 => ?_, fun h1 h2 h3 => ?_⟩
  · rw [D.1 (by omega) (by omega), if_pos (by omega)]
  · rw [D.2.1 (by omega) (by omega)]; split <;> split <;> omega
  · rw [D.2.2.1 (by omega) (by omega)]; split <;> split <;> omega
  · rw [D.2.2.2 (by omega) (by omega) (by omega), if_neg (by omega)]
set_option maxHeartbeats 2000000 in
theorem ref_digit1 (c b : Nat) (hc : c < 256) (hb : b = 10 ∨ b = 16) (w : World) :
    Calls Tryz.prog 116 #[.int .u8 (c : Int), .int .u64 (b : Int)] w fun e w' => e = .returned (.int .u64 (rdig c b)) ∧ w = w' := by
  have D := Lib.hid (rdig_cases c b hb)
  obtain ⟨x, hx⟩ : ∃ x, rdig c b = x := ⟨_, rfl⟩
  have hx' := Lib.hid hx
  rw [hx]
  clear hx
  rcases hb with rfl | rfl
  all_goals
    go_enter Tryz.func116, Tryz.ntmps116
    go_wp2
    all_goals
      go_ret
      refine ⟨?_, rfl⟩
      show Ending.returned (.int .u64 _) = Ending.returned (.int .u64 _)
      refine congrArg (fun x => Ending.returned (.int .u64 x)) ?_
      rw [← hx'.out]
      have d := D.out
      first
        | (rw [d.1 (by omega) (by omega)])
        | (rw [d.2.1 (by omega) (by omega)]; rfl)
        | (rw [d.2.2.1 (by omega) (by omega)]; rfl)
        | (rw [d.2.2.2 (by omega) (by omega) (by omega)])
theorem sum_val (a n : Nat) : (decide (cmpN ((a + n) % 2 ^ 128) a < 0)) = decide ((a + n) % 2 ^ 128 < a) := by
  unfold cmpN
  rw [Bool.eq_iff_iff]
  simp only [decide_eq_true_eq]
  split
  · omega
  · split <;> omega
set_option maxHeartbeats 2000000 in
theorem ref_sum (a n : Nat) (ha : a < B128) (hn : n < B128) : Pure Tryz.prog 118 #[nv a, nv n] (.tuple #[nv ((a + n) % 2 ^ 128), .bool (decide ((a + n) % 2 ^ 128 < a))]) := by
  intro w
  have hA : Hid (Pure Tryz.prog 138 #[nv a, nv n, .int .i64 128] (nv ((a + n) % 2 ^ 128))) := (ref_add a n 128 ha hn).eqv (by rw [show hw 128 = 128 from by decide, Nat.mod_mod])
  have hs := Nat.mod_lt (a + n) (show 2 ^ 128 > 0 by decide)
  have hC := Lib.hid (ref_cmp ((a + n) % 2 ^ 128) a hs ha)
  have hV := Lib.hid (sum_val a n)
  generalize (a + n) % 2 ^ 128 = t at hA hC hV
  clear ha hn hs
  go_enter Tryz.func118, Tryz.ntmps118
  go_wp2_with fail
  obtain ⟨W, hW, hB, hz, ca, cb, cr, fa, fb, fr⟩ := box3 w #[.int .u64 (hi a), .int .u64 (lo a)] #[.int .u64 (hi n), .int .u64 (lo n)] #[.int .u64 0, .int .u64 0] 58 58 58
  rw [← hW]
  have ca0 := fun y => ca 0 (some (.int .u64 (hi a))) rfl y
  have ca1 := fun y => ca 1 (some (.int .u64 (lo a))) rfl y
  have cr0 := fun y => cr 0 (some (.int .u64 0)) rfl y
  have cr1 := fun y => cr 1 (some (.int .u64 0)) rfl y
  clear ca cb cr fa fb hW
  refine (hA.out _).mono ?_
  rintro r w' ⟨rfl, y, rfl⟩
  go_wp2
  obtain ⟨V, hV', hBV, hzV, co, fo⟩ := box1 (plus W y) #[.int .u64 (hi t), .int .u64 (lo t)] 58
  rw [← hV']
  have hb : w.heap.size < W.heap.size ∧ W.heap.size ≤ (plus W y).heap.size := ⟨by omega, size_plus W y⟩
  have hBw : Below w.heap.size w V := (hB.trans ((below_plus W y).mono hB.size)).trans (hBV.mono (by omega))
  have va0 := fun x => plus_cell (W := V) (by omega) ((hBV.cell (p := ⟨w.heap.size, 0, none⟩) (by show w.heap.size < _; omega)).trans (ca0 y)) x
  have va1 := fun x => plus_cell (W := V) (by omega) ((hBV.cell (p := ⟨w.heap.size, 1, none⟩) (by show w.heap.size < _; omega)).trans (ca1 y)) x
  have vr0 := fun x => plus_cell (W := V) (by omega) ((hBV.cell (p := ⟨w.heap.size + 1 + 1, 0, none⟩) (by show w.heap.size + 1 + 1 < _; omega)).trans (cr0 y)) x
  have vr1 := fun x => plus_cell (W := V) (by omega) ((hBV.cell (p := ⟨w.heap.size + 1 + 1, 1, none⟩) (by show w.heap.size + 1 + 1 < _; omega)).trans (cr1 y)) x
  have vf := fun x o => plus_frozen (W := V) (b := w.heap.size + 1 + 1) (by omega) (fun o => (hBV.frozen (p := ⟨w.heap.size + 1 + 1, o, none⟩) (by show w.heap.size + 1 + 1 < _; omega)).trans (fr y o)) x o
  have vo0 := fun x => co 0 (some (.int .u64 (hi t))) rfl x
  have vo1 := fun x => co 1 (some (.int .u64 (lo t))) rfl x
  generalize (plus W y).heap.size = b at vo0 vo1 ⊢
  have hBw := Lib.hid hBw
  clear hV' hBV hzV co fo ca0 ca1 cr0 cr1 fr hb hB hz
  rw [← plus_self V]
  generalize (⟨#[], V.drawn⟩ : Ext) = x0
  have hd : ∀ x : Ext, (plus V x).drew = plus V ⟨x.blocks, x.draws + 1⟩ := fun x => rfl
  go_region_with (first | (go_at_call 139; refine (hC.out.at V _).mono ?_; rintro e w' ⟨rfl, z, rfl⟩))
  all_goals (try go_wp2)
  all_goals
    refine bodyPost_ret (v := .tuple #[nv t, .bool (decide (cmpN t a < 0))]) (by simp [results, Tryz.results118, go_sem, vr0, vr1]) rfl ⟨by rw [hV.out], ?_⟩
    exact own_end hBw.out (by omega) _ _
end Go.Proofs.YtkffjjlmoojffaaGreatDoor
