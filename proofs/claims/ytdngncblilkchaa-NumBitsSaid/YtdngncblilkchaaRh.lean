/-
  WHAT IS PROVED HERE: what the document's And, Or, Xor hand back, in whatever world.
-/
import Derived.Test.YtdngncblilkchaaRg
namespace Go.Proofs.Ytdngncblilkchaa
open Go.RowKit
theorem neqB_run (p q : Bool) (w : World) : (binOp .neq 4 (.bool p) (.bool q)).run Try.prog w = .ok (.bool (bne p q)) w := by
  cases p <;> cases q <;> go_simp
/-- A loop over two rows: the first is written, the second stands beside. -/
structure R3 (w : World) (rb p q : Nat) (f g : Nat → Bool) (V : World) : Prop where
  one : R1 w rb p f V
  apart : p ≠ q
  y : RowAt V q g
theorem R3.set {w V : World} {rb p q : Nat} {f g : Nat → Bool} (h : R3 w rb p q f g V) (k : Nat) (hk : k < 128) (x : Bool) : R3 w rb p q (fun i => if i = k then x else f i) g (V.setCell ⟨p, k, none⟩ (.bool x)) :=
  ⟨h.one.set k hk x, h.apart, h.y.other _ h.apart _⟩
theorem R3.yl {w V : World} {rb p q : Nat} {f g : Nat → Bool} (h : R3 w rb p q f g V) : q < V.heap.size := World.block_lt_of_cell? V ⟨q, 0, none⟩ (h.y.c 0 (by omega))
theorem R3.grow {w V : World} {rb p q : Nat} {f g : Nat → Bool} (h : R3 w rb p q f g V) (x : Ext) : R3 w rb p q f g (plus V x) :=
  ⟨⟨h.one.below.trans ((below_plus V x).mono h.one.below.size), h.one.le, h.one.lt, Nat.lt_of_lt_of_le h.one.blt (size_plus V x), h.one.p0 x, h.one.p1 x, h.one.pf x, h.one.row.plus h.one.blt x⟩, h.apart, h.y.plus h.yl x⟩
theorem R3.congr {w V : World} {rb p q : Nat} {f f' g : Nat → Bool} (h : R3 w rb p q f g V) (e : ∀ i, i < 128 → f i = f' i) : R3 w rb p q f' g V := ⟨h.one.congr e, h.apart, h.y⟩
/-- Behind the region that makes them. -/
theorem R3.make {w W V : World} {p q : Nat} {f g : Nat → Bool} {rb : Nat} (hB : Below w.heap.size w W) (hrb : w.heap.size ≤ rb) (hs : rb < W.heap.size) (r0 : ∀ y, (plus W y).cell? ⟨rb, 0, none⟩ = some (.int .u64 0)) (r1 : ∀ y, (plus W y).cell? ⟨rb, 1, none⟩ = some (.int .u64 0)) (fr : ∀ y o, (plus W y).frozen? ⟨rb, o, none⟩ = false)
    (hV : Below W.heap.size W V) (p1 : W.heap.size ≤ p) (p2 : p < V.heap.size) (p3 : RowAt V p f) (q3 : RowAt V q g) (hpq : p ≠ q) : R3 w rb p q f g V := by
  have e0 := r0 ⟨#[], W.drawn⟩
  have e1 := r1 ⟨#[], W.drawn⟩
  have e2 := fr ⟨#[], W.drawn⟩
  rw [plus_self] at e0 e1 e2
  exact ⟨⟨hB.trans (hV.mono hB.size), hrb, by omega, p2, (hV.cell (p := ⟨rb, 0, none⟩) hs).trans e0, (hV.cell (p := ⟨rb, 1, none⟩) hs).trans e1, fun o => (hV.frozen (p := ⟨rb, o, none⟩) hs).trans (e2 o), p3⟩, hpq, q3⟩
def andF (m n i : Nat) : Bool := and (bitF m i) (bitF n i)
theorem and_lt128 (m n : Nat) (hm : m < B128) (hn : n < B128) : m &&& n < B128 := by
  rw [b128] at *
  exact (have _ := hm; Nat.and_lt_two_pow _ hn)
theorem and_num (m n : Nat) (hm : m < B128) (hn : n < B128) : numF (andF m n) = m &&& n := by
  refine numF_eq _ _ (and_lt128 m n hm hn) fun i hi => ?_
  rw [Nat.testBit_and]
  unfold andF bitF
  cases m.testBit i <;> cases n.testBit i <;> rfl
set_option maxRecDepth 100000 in
set_option maxHeartbeats 4000000 in
theorem ref_and (m n : Nat) (hm : m < B128) (hn : n < B128) : Pure Try.prog 17 #[nv m, nv n] (nv (m &&& n)) := by
  intro w
  have hz := zero_run
  have Bm := Lib.hid (ref_bits m hm)
  have Bn := Lib.hid (ref_bits n hn)
  have S : Hid (Pure Try.prog 45 #[rowV (andF m n)] (nv (m &&& n))) := (ref_num _).eqv (by rw [and_num m n hm hn])
  clear hm hn
  go_enter Try.func17, Try.ntmps17
  go_wp2_with fail
  obtain ⟨W, hW, hB, hs, ca, cb, cr, fa, fb, fr⟩ := box3 w _ _ _ 24 24 24
  rw [← hW]
  have a0 := ca 0 (some (.int .u64 (hi m))) rfl ⟨#[], W.drawn⟩
  have a1 := ca 1 (some (.int .u64 (lo m))) rfl ⟨#[], W.drawn⟩
  have b0 := cb 0 (some (.int .u64 (hi n))) rfl ⟨#[], W.drawn⟩
  have b1 := cb 1 (some (.int .u64 (lo n))) rfl ⟨#[], W.drawn⟩
  rw [plus_self] at a0 a1 b0 b1
  have r0 := Lib.hid (cr 0 (some (.int .u64 0)) rfl)
  have r1 := Lib.hid (cr 1 (some (.int .u64 0)) rfl)
  have hfr := Lib.hid fr
  clear hW ca cb cr fa fb fr
  have hcell : Hid (∀ V, Below W.heap.size W V → V.cell? ⟨w.heap.size, 0, none⟩ = some (.int .u64 (hi m)) ∧ V.cell? ⟨w.heap.size, 1, none⟩ = some (.int .u64 (lo m)) ∧ V.cell? ⟨w.heap.size + 1, 0, none⟩ = some (.int .u64 (hi n)) ∧ V.cell? ⟨w.heap.size + 1, 1, none⟩ = some (.int .u64 (lo n))) := fun V hV =>
    ⟨(hV.cell (p := ⟨w.heap.size, 0, none⟩) (by show w.heap.size < _; omega)).trans a0, (hV.cell (p := ⟨w.heap.size, 1, none⟩) (by show w.heap.size < _; omega)).trans a1, (hV.cell (p := ⟨w.heap.size + 1, 0, none⟩) (by show w.heap.size + 1 < _; omega)).trans b0, (hV.cell (p := ⟨w.heap.size + 1, 1, none⟩) (by show w.heap.size + 1 < _; omega)).trans b1⟩
  clear a0 a1 b0 b1
  refine wp_region_any (by kernel_rfl) ?_
  rw [drawn_plus]
  refine wpAny_inv (fun l a V => ∃ b0 b1 b2 b3 b4 b5 b6 b7 t5 t6 t8 t9 t10 t11, l = #[b0, b1, b2, b3, b4, b5, b6, b7] ∧ a = ⟨#[nv m, nv n, .pointer (some ⟨w.heap.size, 0, none⟩), .pointer (some ⟨w.heap.size + 1, 0, none⟩), .pointer (some ⟨w.heap.size + 1 + 1, 0, none⟩), t5, t6, undef, t8, t9, t10, t11, undef, undef, undef, undef, undef, undef, undef, undef, undef, undef, undef, undef, undef, undef, undef, undef], []⟩ ∧ Two w W (nv m) (nv n) (bitF m) (bitF n) b0 b1 b2 b3 b4 b5 b6 b7 t5 t6 t8 t9 t10 t11 V) ?hd ?hs _ _ _ _ (by decide) ⟨false, false, false, false, false, false, false, false, undef, undef, undef, undef, undef, undef, rfl, rfl, Two.start _⟩
  case hs =>
    rintro l a V i ⟨b0, b1, b2, b3, b4, b5, b6, b7, t5, t6, t8, t9, t10, t11, rfl, rfl, hT⟩ hi
    have hc : chk b0 b1 b2 b3 b4 b5 i = true := by
      refine List.all_eq_true.1 ?_ i hi
      clear hi hT
      revert b0 b1 b2 b3 b4 b5 b6 b7
      decide +kernel
    clear hi
    obtain ⟨c0, c1, c2, c3⟩ := hcell.out V hT.below
    have hT := Lib.hid hT
    rcases chk_cases _ _ _ _ _ _ _ hc with rfl | ⟨rfl, rfl⟩ | rfl | ⟨rfl, rfl⟩ | ⟨rfl, rfl⟩ | ⟨rfl, rfl⟩ | ⟨rfl, rfl, rfl⟩ | ⟨rfl, rfl, rfl⟩
    · refine wpOp_step rfl fun K hK => ?_
      rw [if_pos (by rfl)]
      go_simp
      exact hK _ _ ⟨true, b1, b2, b3, b4, b5, b6, b7, t5, t6, _, t9, t10, t11, rfl, rfl, hT.out.load0⟩
    · obtain rfl := hT.out.e0 rfl
      refine wpOp_step rfl fun K hK => ?_
      rw [if_pos (by rfl)]
      go_simp
      refine (Bm.out V).mono ?_
      rintro e w' ⟨rfl, x, rfl⟩
      try go_simp
      exact hK _ _ ⟨true, true, b2, b3, b4, b5, b6, b7, t5, t6, _, _, t10, t11, rfl, rfl, hT.out.call1 x⟩
    · refine wpOp_step rfl fun K hK => ?_
      rw [if_pos (by rfl)]
      go_simp
      exact hK _ _ ⟨b0, b1, true, b3, b4, b5, b6, b7, t5, t6, t8, t9, _, t11, rfl, rfl, hT.out.load2⟩
    · obtain rfl := hT.out.e2 rfl
      refine wpOp_step rfl fun K hK => ?_
      rw [if_pos (by rfl)]
      go_simp
      refine (Bn.out V).mono ?_
      rintro e w' ⟨rfl, x, rfl⟩
      try go_simp
      exact hK _ _ ⟨b0, b1, true, true, b4, b5, b6, b7, t5, t6, t8, t9, _, _, rfl, rfl, hT.out.call3 x⟩
    · obtain rfl := hT.out.off6
      refine wpOp_step rfl fun K hK => ?_
      rw [if_pos (by rfl)]
      go_simp
      exact hK _ _ ⟨b0, b1, b2, b3, true, b5, false, b7, _, t6, t8, t9, t10, t11, rfl, rfl, hT.out.alloc4 _⟩
    · obtain rfl := hT.out.off7
      refine wpOp_step rfl fun K hK => ?_
      rw [if_pos (by rfl)]
      go_simp
      exact hK _ _ ⟨b0, b1, b2, b3, b4, true, b6, false, t5, _, t8, t9, t10, t11, rfl, rfl, hT.out.alloc5 _⟩
    · obtain rfl := hT.out.e1 rfl
      obtain ⟨p, rfl, _, _, k, hk, _⟩ := hT.out.x.row rfl
      refine wpOp_step rfl fun K hK => ?_
      rw [if_pos (by rfl)]
      refine Go.wp_store_mid _ _ _ rfl p 0 (rowL (bitF m)).toArray rfl rfl (hk.there' _) (row_size' _) (row_one _) ?_
      exact hK _ _ ⟨b0, true, b2, b3, true, b5, true, b7, _, t6, t8, _, t10, t11, rfl, rfl, hT.out.store6⟩
    · obtain rfl := hT.out.e3 rfl
      obtain ⟨p, rfl, _, _, k, hk, _⟩ := hT.out.y.row rfl
      refine wpOp_step rfl fun K hK => ?_
      rw [if_pos (by rfl)]
      refine Go.wp_store_mid _ _ _ rfl p 0 (rowL (bitF n)).toArray rfl rfl (hk.there' _) (row_size' _) (row_one _) ?_
      exact hK _ _ ⟨b0, b1, b2, true, b4, true, b6, true, t5, _, t8, t9, t10, _, rfl, rfl, hT.out.store7⟩
  case hd =>
    rintro l a V ⟨b0, b1, b2, b3, b4, b5, b6, b7, t5, t6, t8, t9, t10, t11, rfl, rfl, hT⟩ hi
    have hc : (b0 && b1 && b2 && b3 && b4 && b5 && b6 && b7) = true := by
      clear hT
      revert b0 b1 b2 b3 b4 b5 b6 b7
      decide +kernel
    clear hi
    simp only [Bool.and_eq_true] at hc
    obtain ⟨⟨⟨⟨⟨⟨⟨rfl, rfl⟩, rfl⟩, rfl⟩, rfl⟩, rfl⟩, rfl⟩, rfl⟩ := hc
    obtain rfl := hT.e0 rfl
    obtain rfl := hT.e1 rfl
    obtain rfl := hT.e2 rfl
    obtain rfl := hT.e3 rfl
    obtain ⟨p, rfl, p1, p2, f', p3, p4⟩ := hT.x.row rfl
    obtain ⟨q, rfl, q1, q2, g', q3, q4⟩ := hT.y.row rfl
    obtain rfl := p4 rfl
    obtain rfl := q4 rfl
    have hpq := hT.apart rfl rfl _ _ rfl rfl
    have hR := Lib.hid (R3.make hB (by omega) (by omega) r0.out r1.out hfr.out hT.below p1 p2 p3 q3 hpq)
    clear p1 p2 p3 p4 q1 q2 q3 q4 hpq hT r0 r1 hfr hcell Bm Bn hB hs
    go_wp2
    go_loopw [7] (fun kk U => ∃ j : Nat, j ≤ 128 ∧ kk = .int .i64 j ∧ R3 w (w.heap.size + 1 + 1) p q (upto (andF m n) (bitF m) j) (bitF n) U) (fun kk _ => 128 - (intOf kk).toNat)
    case atStart => exact ⟨0, Nat.zero_le _, rfl, hR.out.congr fun i _ => (upto_zero (andF m n) (bitF m) i).symm⟩
    case round =>
      obtain ⟨j, hj, rfl, hT⟩ := hrel
      by_cases hlt : j < 128
      · have cj := hT.one.row.c j hlt
        rw [upto_at] at cj
        have dj := hT.y.c j hlt
        have fz := hT.one.row.fz
        have hS : Hid (∀ x, x = andF m n j → R3 w (w.heap.size + 1 + 1) p q (upto (andF m n) (bitF m) (j + 1)) (bitF n) (wr.setCell ⟨p, j, none⟩ (.bool x))) := fun x hx => by
          subst hx
          exact ((hT).set j hlt (andF m n j)).congr fun i _ => upto_succ (andF m n) (bitF m) j i
        have hd : Hid (andF m n j = and (bitF m j) (bitF n j)) := rfl
        clear hT
        cases hbit : bitF m j <;> rw [hbit] at cj <;> cases hbit2 : bitF n j <;> rw [hbit2] at dj
        all_goals
          go_wp2
          go_roundw
          case rel => exact ⟨j + 1, by omega, by go_num, hS.out _ (by rw [hd.out, hbit, hbit2]; rfl)⟩
          case measure => simp [intOf]; omega
      · obtain rfl : j = 128 := by omega
        have hrow := hT.one.row.congr (upto_all (andF m n) _)
        have hrg := Lib.hid hrow.range
        have q0 := hT.one.p0
        have q1 := hT.one.p1
        have qf := hT.one.pf
        have hT' := Lib.hid hT.one
        clear hT hrow
        go_wp2_with (first | refine wpList_load_mid rfl 45 _ rfl p 0 rfl (rowL (andF m n)) _ hrg.out Try.underlying45 rfl (row_size _) ?_ | fail)
        refine (S.out wr).mono ?_
        rintro e w' ⟨rfl, y, rfl⟩
        go_wp2
        exact bodyPost_ret (v := .agg #[.int .u64 (hi (m &&& n)), .int .u64 (lo (m &&& n))]) (by simp [results, Try.results17, go_sem, q0, q1]) rfl ⟨rfl, hT'.out.fin y _ _⟩
def orF (m n i : Nat) : Bool := or (bitF m i) (bitF n i)
theorem or_lt128 (m n : Nat) (hm : m < B128) (hn : n < B128) : m ||| n < B128 := by
  rw [b128] at *
  exact Nat.or_lt_two_pow hm hn
theorem or_num (m n : Nat) (hm : m < B128) (hn : n < B128) : numF (orF m n) = m ||| n := by
  refine numF_eq _ _ (or_lt128 m n hm hn) fun i hi => ?_
  rw [Nat.testBit_or]
  unfold orF bitF
  cases m.testBit i <;> cases n.testBit i <;> rfl
set_option maxRecDepth 100000 in
set_option maxHeartbeats 4000000 in
theorem ref_or (m n : Nat) (hm : m < B128) (hn : n < B128) : Pure Try.prog 19 #[nv m, nv n] (nv (m ||| n)) := by
  intro w
  have hz := zero_run
  have Bm := Lib.hid (ref_bits m hm)
  have Bn := Lib.hid (ref_bits n hn)
  have S : Hid (Pure Try.prog 45 #[rowV (orF m n)] (nv (m ||| n))) := (ref_num _).eqv (by rw [or_num m n hm hn])
  clear hm hn
  go_enter Try.func19, Try.ntmps19
  go_wp2_with fail
  obtain ⟨W, hW, hB, hs, ca, cb, cr, fa, fb, fr⟩ := box3 w _ _ _ 24 24 24
  rw [← hW]
  have a0 := ca 0 (some (.int .u64 (hi m))) rfl ⟨#[], W.drawn⟩
  have a1 := ca 1 (some (.int .u64 (lo m))) rfl ⟨#[], W.drawn⟩
  have b0 := cb 0 (some (.int .u64 (hi n))) rfl ⟨#[], W.drawn⟩
  have b1 := cb 1 (some (.int .u64 (lo n))) rfl ⟨#[], W.drawn⟩
  rw [plus_self] at a0 a1 b0 b1
  have r0 := Lib.hid (cr 0 (some (.int .u64 0)) rfl)
  have r1 := Lib.hid (cr 1 (some (.int .u64 0)) rfl)
  have hfr := Lib.hid fr
  clear hW ca cb cr fa fb fr
  have hcell : Hid (∀ V, Below W.heap.size W V → V.cell? ⟨w.heap.size, 0, none⟩ = some (.int .u64 (hi m)) ∧ V.cell? ⟨w.heap.size, 1, none⟩ = some (.int .u64 (lo m)) ∧ V.cell? ⟨w.heap.size + 1, 0, none⟩ = some (.int .u64 (hi n)) ∧ V.cell? ⟨w.heap.size + 1, 1, none⟩ = some (.int .u64 (lo n))) := fun V hV =>
    ⟨(hV.cell (p := ⟨w.heap.size, 0, none⟩) (by show w.heap.size < _; omega)).trans a0, (hV.cell (p := ⟨w.heap.size, 1, none⟩) (by show w.heap.size < _; omega)).trans a1, (hV.cell (p := ⟨w.heap.size + 1, 0, none⟩) (by show w.heap.size + 1 < _; omega)).trans b0, (hV.cell (p := ⟨w.heap.size + 1, 1, none⟩) (by show w.heap.size + 1 < _; omega)).trans b1⟩
  clear a0 a1 b0 b1
  refine wp_region_any (by kernel_rfl) ?_
  rw [drawn_plus]
  refine wpAny_inv (fun l a V => ∃ b0 b1 b2 b3 b4 b5 b6 b7 t5 t6 t8 t9 t10 t11, l = #[b0, b1, b2, b3, b4, b5, b6, b7] ∧ a = ⟨#[nv m, nv n, .pointer (some ⟨w.heap.size, 0, none⟩), .pointer (some ⟨w.heap.size + 1, 0, none⟩), .pointer (some ⟨w.heap.size + 1 + 1, 0, none⟩), t5, t6, undef, t8, t9, t10, t11, undef, undef, undef, undef, undef, undef, undef, undef, undef, undef, undef, undef, undef, undef, undef, undef], []⟩ ∧ Two w W (nv m) (nv n) (bitF m) (bitF n) b0 b1 b2 b3 b4 b5 b6 b7 t5 t6 t8 t9 t10 t11 V) ?hd ?hs _ _ _ _ (by decide) ⟨false, false, false, false, false, false, false, false, undef, undef, undef, undef, undef, undef, rfl, rfl, Two.start _⟩
  case hs =>
    rintro l a V i ⟨b0, b1, b2, b3, b4, b5, b6, b7, t5, t6, t8, t9, t10, t11, rfl, rfl, hT⟩ hi
    have hc : chk b0 b1 b2 b3 b4 b5 i = true := by
      refine List.all_eq_true.1 ?_ i hi
      clear hi hT
      revert b0 b1 b2 b3 b4 b5 b6 b7
      decide +kernel
    clear hi
    obtain ⟨c0, c1, c2, c3⟩ := hcell.out V hT.below
    have hT := Lib.hid hT
    rcases chk_cases _ _ _ _ _ _ _ hc with rfl | ⟨rfl, rfl⟩ | rfl | ⟨rfl, rfl⟩ | ⟨rfl, rfl⟩ | ⟨rfl, rfl⟩ | ⟨rfl, rfl, rfl⟩ | ⟨rfl, rfl, rfl⟩
    · refine wpOp_step rfl fun K hK => ?_
      rw [if_pos (by rfl)]
      go_simp
      exact hK _ _ ⟨true, b1, b2, b3, b4, b5, b6, b7, t5, t6, _, t9, t10, t11, rfl, rfl, hT.out.load0⟩
    · obtain rfl := hT.out.e0 rfl
      refine wpOp_step rfl fun K hK => ?_
      rw [if_pos (by rfl)]
      go_simp
      refine (Bm.out V).mono ?_
      rintro e w' ⟨rfl, x, rfl⟩
      try go_simp
      exact hK _ _ ⟨true, true, b2, b3, b4, b5, b6, b7, t5, t6, _, _, t10, t11, rfl, rfl, hT.out.call1 x⟩
    · refine wpOp_step rfl fun K hK => ?_
      rw [if_pos (by rfl)]
      go_simp
      exact hK _ _ ⟨b0, b1, true, b3, b4, b5, b6, b7, t5, t6, t8, t9, _, t11, rfl, rfl, hT.out.load2⟩
    · obtain rfl := hT.out.e2 rfl
      refine wpOp_step rfl fun K hK => ?_
      rw [if_pos (by rfl)]
      go_simp
      refine (Bn.out V).mono ?_
      rintro e w' ⟨rfl, x, rfl⟩
      try go_simp
      exact hK _ _ ⟨b0, b1, true, true, b4, b5, b6, b7, t5, t6, t8, t9, _, _, rfl, rfl, hT.out.call3 x⟩
    · obtain rfl := hT.out.off6
      refine wpOp_step rfl fun K hK => ?_
      rw [if_pos (by rfl)]
      go_simp
      exact hK _ _ ⟨b0, b1, b2, b3, true, b5, false, b7, _, t6, t8, t9, t10, t11, rfl, rfl, hT.out.alloc4 _⟩
    · obtain rfl := hT.out.off7
      refine wpOp_step rfl fun K hK => ?_
      rw [if_pos (by rfl)]
      go_simp
      exact hK _ _ ⟨b0, b1, b2, b3, b4, true, b6, false, t5, _, t8, t9, t10, t11, rfl, rfl, hT.out.alloc5 _⟩
    · obtain rfl := hT.out.e1 rfl
      obtain ⟨p, rfl, _, _, k, hk, _⟩ := hT.out.x.row rfl
      refine wpOp_step rfl fun K hK => ?_
      rw [if_pos (by rfl)]
      refine Go.wp_store_mid _ _ _ rfl p 0 (rowL (bitF m)).toArray rfl rfl (hk.there' _) (row_size' _) (row_one _) ?_
      exact hK _ _ ⟨b0, true, b2, b3, true, b5, true, b7, _, t6, t8, _, t10, t11, rfl, rfl, hT.out.store6⟩
    · obtain rfl := hT.out.e3 rfl
      obtain ⟨p, rfl, _, _, k, hk, _⟩ := hT.out.y.row rfl
      refine wpOp_step rfl fun K hK => ?_
      rw [if_pos (by rfl)]
      refine Go.wp_store_mid _ _ _ rfl p 0 (rowL (bitF n)).toArray rfl rfl (hk.there' _) (row_size' _) (row_one _) ?_
      exact hK _ _ ⟨b0, b1, b2, true, b4, true, b6, true, t5, _, t8, t9, t10, _, rfl, rfl, hT.out.store7⟩
  case hd =>
    rintro l a V ⟨b0, b1, b2, b3, b4, b5, b6, b7, t5, t6, t8, t9, t10, t11, rfl, rfl, hT⟩ hi
    have hc : (b0 && b1 && b2 && b3 && b4 && b5 && b6 && b7) = true := by
      clear hT
      revert b0 b1 b2 b3 b4 b5 b6 b7
      decide +kernel
    clear hi
    simp only [Bool.and_eq_true] at hc
    obtain ⟨⟨⟨⟨⟨⟨⟨rfl, rfl⟩, rfl⟩, rfl⟩, rfl⟩, rfl⟩, rfl⟩, rfl⟩ := hc
    obtain rfl := hT.e0 rfl
    obtain rfl := hT.e1 rfl
    obtain rfl := hT.e2 rfl
    obtain rfl := hT.e3 rfl
    obtain ⟨p, rfl, p1, p2, f', p3, p4⟩ := hT.x.row rfl
    obtain ⟨q, rfl, q1, q2, g', q3, q4⟩ := hT.y.row rfl
    obtain rfl := p4 rfl
    obtain rfl := q4 rfl
    have hpq := hT.apart rfl rfl _ _ rfl rfl
    have hR := Lib.hid (R3.make hB (by omega) (by omega) r0.out r1.out hfr.out hT.below p1 p2 p3 q3 hpq)
    clear p1 p2 p3 p4 q1 q2 q3 q4 hpq hT r0 r1 hfr hcell Bm Bn hB hs
    go_wp2
    go_loopw [7] (fun kk U => ∃ j : Nat, j ≤ 128 ∧ kk = .int .i64 j ∧ R3 w (w.heap.size + 1 + 1) p q (upto (orF m n) (bitF m) j) (bitF n) U) (fun kk _ => 128 - (intOf kk).toNat)
    case atStart => exact ⟨0, Nat.zero_le _, rfl, hR.out.congr fun i _ => (upto_zero (orF m n) (bitF m) i).symm⟩
    case round =>
      obtain ⟨j, hj, rfl, hT⟩ := hrel
      by_cases hlt : j < 128
      · have cj := hT.one.row.c j hlt
        rw [upto_at] at cj
        have dj := hT.y.c j hlt
        have fz := hT.one.row.fz
        have hS : Hid (∀ x, x = orF m n j → R3 w (w.heap.size + 1 + 1) p q (upto (orF m n) (bitF m) (j + 1)) (bitF n) (wr.setCell ⟨p, j, none⟩ (.bool x))) := fun x hx => by
          subst hx
          exact ((hT).set j hlt (orF m n j)).congr fun i _ => upto_succ (orF m n) (bitF m) j i
        have hd : Hid (orF m n j = or (bitF m j) (bitF n j)) := rfl
        clear hT
        cases hbit : bitF m j <;> rw [hbit] at cj <;> cases hbit2 : bitF n j <;> rw [hbit2] at dj
        all_goals
          go_wp2
          go_roundw
          case rel => exact ⟨j + 1, by omega, by go_num, hS.out _ (by rw [hd.out, hbit, hbit2]; rfl)⟩
          case measure => simp [intOf]; omega
      · obtain rfl : j = 128 := by omega
        have hrow := hT.one.row.congr (upto_all (orF m n) _)
        have hrg := Lib.hid hrow.range
        have q0 := hT.one.p0
        have q1 := hT.one.p1
        have qf := hT.one.pf
        have hT' := Lib.hid hT.one
        clear hT hrow
        go_wp2_with (first | refine wpList_load_mid rfl 45 _ rfl p 0 rfl (rowL (orF m n)) _ hrg.out Try.underlying45 rfl (row_size _) ?_ | fail)
        refine (S.out wr).mono ?_
        rintro e w' ⟨rfl, y, rfl⟩
        go_wp2
        exact bodyPost_ret (v := .agg #[.int .u64 (hi (m ||| n)), .int .u64 (lo (m ||| n))]) (by simp [results, Try.results19, go_sem, q0, q1]) rfl ⟨rfl, hT'.out.fin y _ _⟩
def xorF (m n i : Nat) : Bool := bne (bitF m i) (bitF n i)
theorem xor_lt128 (m n : Nat) (hm : m < B128) (hn : n < B128) : m ^^^ n < B128 := by
  rw [b128] at *
  exact Nat.xor_lt_two_pow hm hn
theorem xor_num (m n : Nat) (hm : m < B128) (hn : n < B128) : numF (xorF m n) = m ^^^ n := by
  refine numF_eq _ _ (xor_lt128 m n hm hn) fun i hi => ?_
  rw [Nat.testBit_xor]
  unfold xorF bitF
  cases m.testBit i <;> cases n.testBit i <;> rfl
set_option maxRecDepth 100000 in
set_option maxHeartbeats 4000000 in
theorem ref_xor (m n : Nat) (hm : m < B128) (hn : n < B128) : Pure Try.prog 21 #[nv m, nv n] (nv (m ^^^ n)) := by
  intro w
  have hz := zero_run
  have nb := neqB_run
  have Bm := Lib.hid (ref_bits m hm)
  have Bn := Lib.hid (ref_bits n hn)
  have S : Hid (Pure Try.prog 45 #[rowV (xorF m n)] (nv (m ^^^ n))) := (ref_num _).eqv (by rw [xor_num m n hm hn])
  clear hm hn
  go_enter Try.func21, Try.ntmps21
  go_wp2_with fail
  obtain ⟨W, hW, hB, hs, ca, cb, cr, fa, fb, fr⟩ := box3 w _ _ _ 24 24 24
  rw [← hW]
  have a0 := ca 0 (some (.int .u64 (hi m))) rfl ⟨#[], W.drawn⟩
  have a1 := ca 1 (some (.int .u64 (lo m))) rfl ⟨#[], W.drawn⟩
  have b0 := cb 0 (some (.int .u64 (hi n))) rfl ⟨#[], W.drawn⟩
  have b1 := cb 1 (some (.int .u64 (lo n))) rfl ⟨#[], W.drawn⟩
  rw [plus_self] at a0 a1 b0 b1
  have r0 := Lib.hid (cr 0 (some (.int .u64 0)) rfl)
  have r1 := Lib.hid (cr 1 (some (.int .u64 0)) rfl)
  have hfr := Lib.hid fr
  clear hW ca cb cr fa fb fr
  have hcell : Hid (∀ V, Below W.heap.size W V → V.cell? ⟨w.heap.size, 0, none⟩ = some (.int .u64 (hi m)) ∧ V.cell? ⟨w.heap.size, 1, none⟩ = some (.int .u64 (lo m)) ∧ V.cell? ⟨w.heap.size + 1, 0, none⟩ = some (.int .u64 (hi n)) ∧ V.cell? ⟨w.heap.size + 1, 1, none⟩ = some (.int .u64 (lo n))) := fun V hV =>
    ⟨(hV.cell (p := ⟨w.heap.size, 0, none⟩) (by show w.heap.size < _; omega)).trans a0, (hV.cell (p := ⟨w.heap.size, 1, none⟩) (by show w.heap.size < _; omega)).trans a1, (hV.cell (p := ⟨w.heap.size + 1, 0, none⟩) (by show w.heap.size + 1 < _; omega)).trans b0, (hV.cell (p := ⟨w.heap.size + 1, 1, none⟩) (by show w.heap.size + 1 < _; omega)).trans b1⟩
  clear a0 a1 b0 b1
  refine wp_region_any (by kernel_rfl) ?_
  rw [drawn_plus]
  refine wpAny_inv (fun l a V => ∃ b0 b1 b2 b3 b4 b5 b6 b7 t5 t6 t8 t9 t10 t11, l = #[b0, b1, b2, b3, b4, b5, b6, b7] ∧ a = ⟨#[nv m, nv n, .pointer (some ⟨w.heap.size, 0, none⟩), .pointer (some ⟨w.heap.size + 1, 0, none⟩), .pointer (some ⟨w.heap.size + 1 + 1, 0, none⟩), t5, t6, undef, t8, t9, t10, t11, undef, undef, undef, undef, undef, undef, undef, undef, undef, undef, undef, undef, undef, undef, undef], []⟩ ∧ Two w W (nv m) (nv n) (bitF m) (bitF n) b0 b1 b2 b3 b4 b5 b6 b7 t5 t6 t8 t9 t10 t11 V) ?hd ?hs _ _ _ _ (by decide) ⟨false, false, false, false, false, false, false, false, undef, undef, undef, undef, undef, undef, rfl, rfl, Two.start _⟩
  case hs =>
    rintro l a V i ⟨b0, b1, b2, b3, b4, b5, b6, b7, t5, t6, t8, t9, t10, t11, rfl, rfl, hT⟩ hi
    have hc : chk b0 b1 b2 b3 b4 b5 i = true := by
      refine List.all_eq_true.1 ?_ i hi
      clear hi hT
      revert b0 b1 b2 b3 b4 b5 b6 b7
      decide +kernel
    clear hi
    obtain ⟨c0, c1, c2, c3⟩ := hcell.out V hT.below
    have hT := Lib.hid hT
    rcases chk_cases _ _ _ _ _ _ _ hc with rfl | ⟨rfl, rfl⟩ | rfl | ⟨rfl, rfl⟩ | ⟨rfl, rfl⟩ | ⟨rfl, rfl⟩ | ⟨rfl, rfl, rfl⟩ | ⟨rfl, rfl, rfl⟩
    · refine wpOp_step rfl fun K hK => ?_
      rw [if_pos (by rfl)]
      go_simp
      exact hK _ _ ⟨true, b1, b2, b3, b4, b5, b6, b7, t5, t6, _, t9, t10, t11, rfl, rfl, hT.out.load0⟩
    · obtain rfl := hT.out.e0 rfl
      refine wpOp_step rfl fun K hK => ?_
      rw [if_pos (by rfl)]
      go_simp
      refine (Bm.out V).mono ?_
      rintro e w' ⟨rfl, x, rfl⟩
      try go_simp
      exact hK _ _ ⟨true, true, b2, b3, b4, b5, b6, b7, t5, t6, _, _, t10, t11, rfl, rfl, hT.out.call1 x⟩
    · refine wpOp_step rfl fun K hK => ?_
      rw [if_pos (by rfl)]
      go_simp
      exact hK _ _ ⟨b0, b1, true, b3, b4, b5, b6, b7, t5, t6, t8, t9, _, t11, rfl, rfl, hT.out.load2⟩
    · obtain rfl := hT.out.e2 rfl
      refine wpOp_step rfl fun K hK => ?_
      rw [if_pos (by rfl)]
      go_simp
      refine (Bn.out V).mono ?_
      rintro e w' ⟨rfl, x, rfl⟩
      try go_simp
      exact hK _ _ ⟨b0, b1, true, true, b4, b5, b6, b7, t5, t6, t8, t9, _, _, rfl, rfl, hT.out.call3 x⟩
    · obtain rfl := hT.out.off6
      refine wpOp_step rfl fun K hK => ?_
      rw [if_pos (by rfl)]
      go_simp
      exact hK _ _ ⟨b0, b1, b2, b3, true, b5, false, b7, _, t6, t8, t9, t10, t11, rfl, rfl, hT.out.alloc4 _⟩
    · obtain rfl := hT.out.off7
      refine wpOp_step rfl fun K hK => ?_
      rw [if_pos (by rfl)]
      go_simp
      exact hK _ _ ⟨b0, b1, b2, b3, b4, true, b6, false, t5, _, t8, t9, t10, t11, rfl, rfl, hT.out.alloc5 _⟩
    · obtain rfl := hT.out.e1 rfl
      obtain ⟨p, rfl, _, _, k, hk, _⟩ := hT.out.x.row rfl
      refine wpOp_step rfl fun K hK => ?_
      rw [if_pos (by rfl)]
      refine Go.wp_store_mid _ _ _ rfl p 0 (rowL (bitF m)).toArray rfl rfl (hk.there' _) (row_size' _) (row_one _) ?_
      exact hK _ _ ⟨b0, true, b2, b3, true, b5, true, b7, _, t6, t8, _, t10, t11, rfl, rfl, hT.out.store6⟩
    · obtain rfl := hT.out.e3 rfl
      obtain ⟨p, rfl, _, _, k, hk, _⟩ := hT.out.y.row rfl
      refine wpOp_step rfl fun K hK => ?_
      rw [if_pos (by rfl)]
      refine Go.wp_store_mid _ _ _ rfl p 0 (rowL (bitF n)).toArray rfl rfl (hk.there' _) (row_size' _) (row_one _) ?_
      exact hK _ _ ⟨b0, b1, b2, true, b4, true, b6, true, t5, _, t8, t9, t10, _, rfl, rfl, hT.out.store7⟩
  case hd =>
    rintro l a V ⟨b0, b1, b2, b3, b4, b5, b6, b7, t5, t6, t8, t9, t10, t11, rfl, rfl, hT⟩ hi
    have hc : (b0 && b1 && b2 && b3 && b4 && b5 && b6 && b7) = true := by
      clear hT
      revert b0 b1 b2 b3 b4 b5 b6 b7
      decide +kernel
    clear hi
    simp only [Bool.and_eq_true] at hc
    obtain ⟨⟨⟨⟨⟨⟨⟨rfl, rfl⟩, rfl⟩, rfl⟩, rfl⟩, rfl⟩, rfl⟩, rfl⟩ := hc
    obtain rfl := hT.e0 rfl
    obtain rfl := hT.e1 rfl
    obtain rfl := hT.e2 rfl
    obtain rfl := hT.e3 rfl
    obtain ⟨p, rfl, p1, p2, f', p3, p4⟩ := hT.x.row rfl
    obtain ⟨q, rfl, q1, q2, g', q3, q4⟩ := hT.y.row rfl
    obtain rfl := p4 rfl
    obtain rfl := q4 rfl
    have hpq := hT.apart rfl rfl _ _ rfl rfl
    have hR := Lib.hid (R3.make hB (by omega) (by omega) r0.out r1.out hfr.out hT.below p1 p2 p3 q3 hpq)
    clear p1 p2 p3 p4 q1 q2 q3 q4 hpq hT r0 r1 hfr hcell Bm Bn hB hs
    go_wp2
    go_loopw [7] (fun kk U => ∃ j : Nat, j ≤ 128 ∧ kk = .int .i64 j ∧ R3 w (w.heap.size + 1 + 1) p q (upto (xorF m n) (bitF m) j) (bitF n) U) (fun kk _ => 128 - (intOf kk).toNat)
    case atStart => exact ⟨0, Nat.zero_le _, rfl, hR.out.congr fun i _ => (upto_zero (xorF m n) (bitF m) i).symm⟩
    case round =>
      obtain ⟨j, hj, rfl, hT⟩ := hrel
      by_cases hlt : j < 128
      · have cj := hT.one.row.c j hlt
        rw [upto_at] at cj
        have dj := hT.y.c j hlt
        have fz := hT.one.row.fz
        have cj : ∀ y, (plus wr y).cell? ⟨p, j, none⟩ = some (.bool (bitF m j)) := fun y => (cell_plus wr y p j hT.one.blt).trans cj
        have dj : ∀ y, (plus wr y).cell? ⟨q, j, none⟩ = some (.bool (bitF n j)) := fun y => (cell_plus wr y q j hT.yl).trans dj
        have fz : ∀ y o, (plus wr y).frozen? ⟨p, o, none⟩ = false := fun y o => (frozen_plus wr y p o hT.one.blt).trans (fz o)
        have hS : Hid (∀ y x, x = xorF m n j → R3 w (w.heap.size + 1 + 1) p q (upto (xorF m n) (bitF m) (j + 1)) (bitF n) ((plus wr y).setCell ⟨p, j, none⟩ (.bool x))) := fun y x hx => by
          subst hx
          exact ((hT.grow y).set j hlt (xorF m n j)).congr fun i _ => upto_succ (xorF m n) (bitF m) j i
        have hd : Hid (xorF m n j = bne (bitF m j) (bitF n j)) := rfl
        clear hT
        cases hbit : bitF m j <;> rw [hbit] at cj <;> cases hbit2 : bitF n j <;> rw [hbit2] at dj
        all_goals
          go_wp2
          refine wp_region_own_tail0 9 (by kernel_rfl) (by kernel_rfl) ?_
          simp only [List.take_succ_cons, List.take_zero, List.drop_succ_cons, List.drop_zero]
          repeat (go_big_quiet_step (fail))
          refine wpQuiet_nil ?_
          rintro _ ⟨y, rfl⟩
          go_wp2
          go_roundw
          case rel => exact ⟨j + 1, by omega, by go_num, hS.out y _ (by rw [hd.out, hbit, hbit2]; rfl)⟩
          case measure => simp [intOf]; omega
      · obtain rfl : j = 128 := by omega
        have hrow := hT.one.row.congr (upto_all (xorF m n) _)
        have hrg := Lib.hid hrow.range
        have q0 := hT.one.p0
        have q1 := hT.one.p1
        have qf := hT.one.pf
        have hT' := Lib.hid hT.one
        clear hT hrow
        go_wp2_with (first | refine wpList_load_mid rfl 45 _ rfl p 0 rfl (rowL (xorF m n)) _ hrg.out Try.underlying45 rfl (row_size _) ?_ | fail)
        refine (S.out wr).mono ?_
        rintro e w' ⟨rfl, y, rfl⟩
        go_wp2
        exact bodyPost_ret (v := .agg #[.int .u64 (hi (m ^^^ n)), .int .u64 (lo (m ^^^ n))]) (by simp [results, Try.results21, go_sem, q0, q1]) rfl ⟨rfl, hT'.out.fin y _ _⟩
end Go.Proofs.Ytdngncblilkchaa
