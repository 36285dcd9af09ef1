/-
  WHAT IS PROVED HERE: what the document's Cat hands back, in whatever world.
-/
import Derived.Test.YtdngncblilkchaaRi
namespace Go.Proofs.Ytdngncblilkchaa
open Go.RowKit
set_option maxRecDepth 100000 in
set_option maxHeartbeats 4000000 in
theorem ref_cat (a b : Nat) (k : Int) (ha : a < B128) (hb : b < B128) : Pure Try.prog 37 #[nv a, nv b, .int .i64 k] (nv (catN a b k)) := by
  intro w
  have hz := zero_run
  obtain ⟨A, hA⟩ : ∃ A, a * 2 ^ hw k % 2 ^ 128 % 2 ^ hw 128 = A := ⟨_, rfl⟩
  obtain ⟨B, hB2⟩ : ∃ B, b % 2 ^ hw k = B := ⟨_, rfl⟩
  obtain ⟨C, hC⟩ : ∃ C, catN a b k = C := ⟨_, rfl⟩
  have hA1 : A < B128 := hA ▸ mod_hw_lt _ _
  have hB1 : B < B128 := hB2 ▸ mod_hw_lt _ _
  have S1 : Hid (Pure Try.prog 29 #[nv a, .int .i64 k, .int .i64 128] (nv A)) := (ref_shl a k 128 ha).eqv (by rw [hA])
  have S2 : Hid (Pure Try.prog 11 #[nv b, .int .i64 k] (nv B)) := (ref_cut b k hb).eqv (by rw [hB2])
  have BA := Lib.hid (ref_bits A hA1)
  have BB := Lib.hid (ref_bits B hB1)
  have S : Hid (Pure Try.prog 45 #[rowV (orF A B)] (nv C)) := (ref_num _).eqv (by rw [or_num A B hA1 hB1, ← hC, ← catN_eq, hA, hB2])
  rw [hC]
  clear ha hb hA hB2 hC hA1 hB1
  go_enter Try.func37, Try.ntmps37
  go_wp2_with fail
  obtain ⟨W, hW, hB, hs, ca, cb, cr, fa, fb, fr⟩ := box3 w _ _ _ 24 24 24
  rw [← hW]
  have b0 := cb 0 (some (.int .u64 (hi b))) rfl ⟨#[], W.drawn⟩
  have b1 := cb 1 (some (.int .u64 (lo b))) rfl ⟨#[], W.drawn⟩
  rw [plus_self] at b0 b1
  have r0 := cr 0 (some (.int .u64 0)) rfl
  have r1 := cr 1 (some (.int .u64 0)) rfl
  clear hW ca cb cr fa fb
  have hcell : Hid (∀ V, Below W.heap.size W V → V.cell? ⟨w.heap.size + 1, 0, none⟩ = some (.int .u64 (hi b)) ∧ V.cell? ⟨w.heap.size + 1, 1, none⟩ = some (.int .u64 (lo b))) := fun V hV =>
    ⟨(hV.cell (p := ⟨w.heap.size + 1, 0, none⟩) (by show w.heap.size + 1 < _; omega)).trans b0, (hV.cell (p := ⟨w.heap.size + 1, 1, none⟩) (by show w.heap.size + 1 < _; omega)).trans b1⟩
  clear b0 b1
  refine (S1.out W).mono ?_
  rintro e w' ⟨rfl, x0, rfl⟩
  go_wp2_with fail
  refine (BA.out.at W x0).mono ?_
  rintro e w' ⟨rfl, x, rfl⟩
  have hx1 := RowAt.new (plus W x) (fun _ => false) 45
  have hth := Lib.hid (hx1.there' (bitF A))
  have hrow := hx1.written (bitF A)
  have hbl0 : Below W.heap.size W (((plus W x).alloc (.cells (rowL fun _ => false).toArray 45)).setCells (plus W x).heap.size 0 (rowL (bitF A))) := below_setCells _ _ _ _ _ ((below_plus W x).alloc (size_plus W x) _) (size_plus W x)
  have hlen : (plus W x).heap.size < (((plus W x).alloc (.cells (rowL fun _ => false).toArray 45)).setCells (plus W x).heap.size 0 (rowL (bitF A))).heap.size := Nat.lt_of_lt_of_le (by simp) (below_setCells _ _ _ _ _ (Below.refl 0 ((plus W x).alloc (.cells (rowL fun _ => false).toArray 45))) (Nat.zero_le _)).size
  have hp := size_plus W x
  obtain ⟨U, hU⟩ : ∃ U, ((plus W x).alloc (.cells (rowL fun _ => false).toArray 45)).setCells (plus W x).heap.size 0 (rowL (bitF A)) = U := ⟨_, rfl⟩
  rw [hU] at hrow hbl0 hlen
  have hU' := Lib.hid hU
  have hrow := Lib.hid hrow
  have hbl0 := Lib.hid hbl0
  obtain ⟨c0, c1⟩ := hcell.out U hbl0.out
  have r0 := Lib.hid r0
  have r1 := Lib.hid r1
  have hfr := Lib.hid fr
  have hs := Lib.hid hs
  have hlen := Lib.hid hlen
  have hp := Lib.hid hp
  clear hx1 hU fr
  go_wp2_with (first | (refine wpList_store_mid rfl 45 _ _ rfl (plus W x).heap.size 0 (rowL (bitF A)).toArray rfl rfl hth.out (row_size' _) (row_one _) ?_; refine wpList_world hU'.out ?_) | fail)
  refine (S2.out U).mono ?_
  rintro e w' ⟨rfl, y0, rfl⟩
  go_wp2_with fail
  refine (BB.out.at U y0).mono ?_
  rintro e w' ⟨rfl, y, rfl⟩
  have hy1 := RowAt.new (plus U y) (fun _ => false) 45
  have hth2 := Lib.hid (hy1.there' (bitF B))
  have hrow2 := hy1.written (bitF B)
  have hU0 := size_plus U y
  have hpo := hp.out
  have hle := hlen.out
  have hso := hs.out
  have hbl1 : Below U.heap.size U (((plus U y).alloc (.cells (rowL fun _ => false).toArray 45)).setCells (plus U y).heap.size 0 (rowL (bitF B))) := below_setCells _ _ _ _ _ ((below_plus U y).alloc hU0 _) hU0
  have hx2 := hrow.out.below hbl1 hle
  have hR := R3.make hB (rb := w.heap.size + 1 + 1) (by omega) (by omega) r0.out r1.out hfr.out (hbl0.out.trans (hbl1.mono hbl0.out.size)) hpo (Nat.lt_of_lt_of_le hle hbl1.size) hx2 hrow2 (by omega)
  obtain ⟨V, hV⟩ : ∃ V, ((plus U y).alloc (.cells (rowL fun _ => false).toArray 45)).setCells (plus U y).heap.size 0 (rowL (bitF B)) = V := ⟨_, rfl⟩
  rw [hV] at hR
  have hV' := Lib.hid hV
  have hR := Lib.hid hR
  clear hy1 hrow2 hU0 hpo hle hso hbl1 hx2 hV r0 r1 hfr hs hlen hp hrow hbl0 hcell c0 c1 hB S1 S2 BA BB hth hU'
  go_wp2_with (first | (refine wpList_store_mid rfl 45 _ _ rfl (plus U y).heap.size 0 (rowL (bitF B)).toArray rfl rfl hth2.out (row_size' _) (row_one _) ?_; refine wpList_world hV'.out ?_) | fail)
  generalize (plus W x).heap.size = p at hR
  generalize (plus U y).heap.size = q at hR
  go_loopw [9] (fun kk U => ∃ j : Nat, j ≤ 128 ∧ kk = .int .i64 j ∧ R3 w (w.heap.size + 1 + 1) p q (upto (orF A B) (bitF A) j) (bitF B) U) (fun kk _ => 128 - (intOf kk).toNat)
  case atStart => exact ⟨0, Nat.zero_le _, rfl, hR.out.congr fun i _ => (upto_zero (orF A B) (bitF A) i).symm⟩
  case round =>
    obtain ⟨j, hj, rfl, hT⟩ := hrel
    by_cases hlt : j < 128
    · have cj := hT.one.row.c j hlt
      rw [upto_at] at cj
      have dj := hT.y.c j hlt
      have fz := hT.one.row.fz
      have hS : Hid (∀ x, x = orF A B j → R3 w (w.heap.size + 1 + 1) p q (upto (orF A B) (bitF A) (j + 1)) (bitF B) (wr.setCell ⟨p, j, none⟩ (.bool x))) := fun x hx => by
        subst hx
        exact (hT.set j hlt (orF A B j)).congr fun i _ => upto_succ (orF A B) (bitF A) j i
      have hd : Hid (orF A B j = or (bitF A j) (bitF B j)) := rfl
      clear hT
      cases hbit : bitF A j <;> rw [hbit] at cj <;> cases hbit2 : bitF B j <;> rw [hbit2] at dj
      all_goals
        go_wp2
        go_roundw
        case rel => exact ⟨j + 1, by omega, by go_num, hS.out _ (by rw [hd.out, hbit, hbit2]; rfl)⟩
        case measure => simp [intOf]; omega
    · obtain rfl : j = 128 := by omega
      have hrow := hT.one.row.congr (upto_all (orF A B) _)
      have hrg := Lib.hid hrow.range
      have q0 := hT.one.p0
      have q1 := hT.one.p1
      have qf := hT.one.pf
      have hT' := Lib.hid hT.one
      clear hT hrow
      go_wp2_with (first | refine wpList_load_mid rfl 45 _ rfl p 0 rfl (rowL (orF A B)) _ hrg.out Try.underlying45 rfl (row_size _) ?_ | fail)
      refine (S.out wr).mono ?_
      rintro e w' ⟨rfl, y, rfl⟩
      go_wp2
      exact bodyPost_ret (v := .agg #[.int .u64 (hi C), .int .u64 (lo C)]) (by simp [results, Try.results37, go_sem, q0, q1]) rfl ⟨rfl, hT'.out.fin y _ _⟩
end Go.Proofs.Ytdngncblilkchaa
