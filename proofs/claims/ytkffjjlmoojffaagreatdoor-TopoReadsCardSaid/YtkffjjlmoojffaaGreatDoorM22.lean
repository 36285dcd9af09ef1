/-
  WHAT IS PROVED HERE: a part of the proof of the claim's theorem: NetF.
-/
import Derived.Test.YtkffjjlmoojffaaGreatDoorRows
import Derived.Test.YtkffjjlmoojffaaGreatDoorM21
set_option linter.all false
namespace Go.Proofs.YtkffjjlmoojffaaGreatDoor
open Go.RowKit
structure BoxT (n z : Nat) (t : Tok) (W : World) : Prop where
  lt : n < z
  ltz : z < W.heap.size
  r : ∀ i, i < 6 → ∃ u, W.cell? ⟨n, i, none⟩ = some u
  fr : ∀ o, W.frozen? ⟨n, o, none⟩ = false
  t : ∀ i v, (tokL t)[i]? = some v → W.cell? ⟨z, i, none⟩ = some v
theorem BoxT.block {n z : Nat} {t : Tok} {W W' : World} (h : BoxT n z t W) (hs : W.heap.size ≤ W'.heap.size) (h1 : W'.heap[n]? = W.heap[n]?) (h2 : W'.heap[z]? = W.heap[z]?) : BoxT n z t W' :=
  ⟨h.lt, Nat.lt_of_lt_of_le h.ltz hs, fun i hi => by obtain ⟨u, hu⟩ := h.r i hi; exact ⟨u, (World.cell?_of_block (w := W) (a := ⟨n, i, none⟩) h1).trans hu⟩, fun o => (World.frozen?_of_block (w := W) (a := ⟨n, o, none⟩) h1).trans (h.fr o), fun i v hv => (World.cell?_of_block (w := W) (a := ⟨z, i, none⟩) h2).trans (h.t i v hv)⟩
theorem BoxT.grown {n z b : Nat} {t : Tok} {W W' : World} (h : BoxT n z t W) (hg : W.grownBy W' (some b)) (hb : b < n) : BoxT n z t W' := by
  have := h.lt
  have := h.ltz
  exact h.block hg.size (hg.block n (by omega) (fun e => by have := Option.some.inj e; omega)) (hg.block z (by omega) (fun e => by have := Option.some.inj e; omega))
theorem BoxT.plus {n z : Nat} {t : Tok} {W : World} (h : BoxT n z t W) (x : Ext) : BoxT n z t (plus W x) := by
  have := h.lt
  have := h.ltz
  have hB := below_plus W x
  exact h.block hB.size (hB.block n (by omega)) (hB.block z (by omega))
theorem BoxT.start (w : World) (T : TypeId) {X : World} {b : Nat} (hb : b < w.heap.size) (hg : (w.alloc (.cells #[.int .u8 0, .string ⟨#[]⟩, .int .i64 0, .int .u64 0, .int .u64 0, .int .i64 0] T)).grownBy X (some b)) (t : Tok) (T2 : TypeId) :
    BoxT w.heap.size X.heap.size t (X.alloc (.cells (tokL t).toArray T2)) := by
  have hz : (w.alloc (.cells #[.int .u8 0, .string ⟨#[]⟩, .int .i64 0, .int .u64 0, .int .u64 0, .int .i64 0] T)).heap.size = w.heap.size + 1 := by simp
  have hs := hg.size
  have hlt : w.heap.size < X.heap.size := by omega
  have hbl := hg.block w.heap.size (by omega) (fun e => by have := Option.some.inj e; omega)
  refine ⟨hlt, by simp, fun i hi => ?_, fun o => ?_, fun i v hv => ?_⟩
  · have h6 : i < (#[.int .u8 0, .string ⟨#[]⟩, .int .i64 0, .int .u64 0, .int .u64 0, .int .i64 0] : Array Value).size := hi
    exact ⟨_, (cell_old X _ _ i hlt).trans ((World.cell?_of_block (a := ⟨w.heap.size, i, none⟩) hbl).trans ((cell_new w _ T _ i rfl).trans (Array.getElem?_eq_getElem h6)))⟩
  · exact (frozen_old X _ _ o hlt).trans ((World.frozen?_of_block (a := ⟨w.heap.size, o, none⟩) hbl).trans (frozen_new w _ T _ o rfl))
  · rw [cell_new X _ T2 _ i rfl]
    simpa using hv
section
variable {w w' : World} {b g cap : Nat} {l : List Tok} {sw po li : Value} {d : DS}
set_option maxHeartbeats 2000000 in
theorem dc_name {z : Nat} (hl : TL l z) (h : Rd w b g cap l sw po li d) (hk : d.bad = false → d.k < l.length) :
    Calls Tryz.prog 22 #[.pointer (some ⟨b, 0, none⟩)] w (RdEnds w b g cap l sw po li (tokA (dNow l d)) (dName l d)) := by
  have hT := Lib.hid (dc_take (h.alloc (.cells #[.int .u8 0, .string ⟨#[]⟩, .int .i64 0, .int .u64 0, .int .u64 0, .int .i64 0] 60)) hk)
  have hb := h.lt
  have hg0 : Hid (g < w.heap.size) := Lib.hid h.glt
  have hgb := Lib.hid h.ne
  unfold dName
  obtain ⟨t, ht⟩ : ∃ t, dNow l d = t := ⟨_, rfl⟩
  rw [ht] at hT ⊢
  have hFF : ∀ B, Hid (∀ w, Rd w b g cap l sw po li (dTake l d) → Calls Tryz.prog 19 #[.pointer (some ⟨b, 0, none⟩), .bool B, tokA t, .int .i64 4] w (RdEnds w b g cap l sw po li (.tuple #[]) (dFail B t 4 (dTake l d)))) := fun B w h => dc_fail h B t 4
  generalize dTake l d = D1 at hT hFF ⊢
  have hI := Lib.hid (ref_name t.s)
  have qB : ∀ K : Int, (t.kind : Int) = K → (K == 1) = decide (t.kind = 1) := fun K e => by rw [← e, Bool.eq_iff_iff, beq_iff_eq, decide_eq_true_eq]; omega
  obtain ⟨K, hK⟩ : ∃ K, (t.kind : Int) = K := ⟨_, rfl⟩
  have q1 := qB K hK
  clear qB
  have hTA : Hid (tokA t = .agg #[.int .u8 K, .string t.s, .int .i64 t.w, .int .u64 (hi t.n), .int .u64 (lo t.n), .int .i64 (t.at_ : Int)]) := by show _ = _; rw [← hK]
  have hTL : Hid (tokL t = [.int .u8 K, .string t.s, .int .i64 t.w, .int .u64 (hi t.n), .int .u64 (lo t.n), .int .i64 (t.at_ : Int)]) := by show _ = _; unfold tokL; rw [hK]
  obtain ⟨D2, hD2⟩ : ∃ D2, dFail (decide (t.kind = 1) && nameB t.s) t 4 D1 = D2 := ⟨_, rfl⟩
  rw [hD2]
  replace hD2 := Lib.hid hD2
  clear h hk ht hK
  go_enter Tryz.func22, Tryz.ntmps22
  go_wp2_with fail
  refine hT.out.mono ?_
  rintro e X ⟨rfl, hgX, hX⟩
  rw [hTA.out]
  go_upto_region 2 with (fail)
  have hBx := BoxT.start w 60 hb hgX t 60
  rw [hTL.out] at hBx
  obtain ⟨W, hW⟩ : ∃ W, W = X.alloc (.cells #[.int .u8 K, .string t.s, .int .i64 t.w, .int .u64 (hi t.n), .int .u64 (lo t.n), .int .i64 (t.at_ : Int)] 60) := ⟨_, rfl⟩
  have hXW : Rd W b g cap l sw po li D1 := hW ▸ hX.alloc _
  have hgW : w.grownBy W (some b) := by rw [hW]; exact grown_trans (grown_trans (grown_alloc _ _ _) hgX) (grown_alloc _ _ _)
  rw [← hW]
  change BoxT w.heap.size X.heap.size t (X.alloc (.cells #[.int .u8 K, .string t.s, .int .i64 t.w, .int .u64 (hi t.n), .int .u64 (lo t.n), .int .i64 (t.at_ : Int)] 60)) at hBx
  rw [← hW] at hBx
  clear hW hX hgX hT
  generalize X.heap.size = z at hBx ⊢
  have tc : ∀ i v, ([.int .u8 K, .string t.s, .int .i64 t.w, .int .u64 (hi t.n), .int .u64 (lo t.n), .int .i64 (t.at_ : Int)] : List Value)[i]? = some v → ∀ y, (plus W y).cell? ⟨z, i, none⟩ = some v := fun i v hv y => (hBx.plus y).t i v (by rw [hTL.out]; exact hv)
  have a0 := tc 0 _ rfl
  have a1 := tc 1 _ rfl
  have a2 := tc 2 _ rfl
  have a3 := tc 3 _ rfl
  have a4 := tc 4 _ rfl
  have a5 := tc 5 _ rfl
  have hend : ∀ (D2 : DS) (y : Ext) (w3 : World), (plus W y).grownBy w3 (some b) → Rd w3 b g cap l sw po li D2 → BoxT w.heap.size z t w3 ∧ w.grownBy w3 (some b) := fun D2 y w3 hg3 _ => ⟨(hBx.plus y).grown hg3 hb, grown_trans (grown_trans hgW (grown_plus_any _ _ _)) hg3⟩
  replace hend := Lib.hid hend
  replace hXW := Lib.hid hXW
  have hfin : ∀ (D2 : DS) (w3 : World), Rd w3 b g cap l sw po li D2 → w.grownBy w3 (some b) → RdEnds w b g cap l sw po li (tokA t) D2 (.returned (tokA t)) ((((((w3.setCell ⟨w.heap.size, 0, none⟩ (.int .u8 K)).setCell ⟨w.heap.size, 1, none⟩ (.string t.s)).setCell ⟨w.heap.size, 2, none⟩ (.int .i64 t.w)).setCell ⟨w.heap.size, 3, none⟩ (.int .u64 (hi t.n))).setCell ⟨w.heap.size, 4, none⟩ (.int .u64 (lo t.n))).setCell ⟨w.heap.size, 5, none⟩ (.int .i64 (t.at_ : Int))) := by
    intro D2 w3 h3 hg3
    have n1 : ¬ w.heap.size = b := by omega
    have n2 : ¬ w.heap.size = g := by have := hg0.out; omega
    exact ⟨rfl, grown_six hg3 _ _ _ _ _ _, (((((h3.set n1 n2 0 _).set n1 n2 1 _).set n1 n2 2 _).set n1 n2 3 _).set n1 n2 4 _).set n1 n2 5 _⟩
  replace hfin := Lib.hid hfin
  have hne3 : ¬ w.heap.size = b := by omega
  clear hgW hBx tc
  by_cases hk1 : t.kind = 1
  · replace q1 : (K == 1) = true := q1.trans (by simpa using hk1)
    obtain ⟨B, hB⟩ : ∃ B, nameB t.s = B := ⟨_, rfl⟩
    rw [hB] at hI
    have hF := hFF B
    have e2 : dFail B t 4 D1 = D2 := by rw [← hD2.out, hB]; simp [hk1]
    rw [e2] at hF
    clear hFF hB hk1 e2 hD2
    refine wp_region_own_tail0 10 (by kernel_rfl) (by kernel_rfl) ?_
    simp only [List.take_succ_cons, List.take_zero, List.drop_succ_cons, List.drop_zero]
    repeat (go_big_quiet_step (first | (with_reducible exact hI.out.at _ _)))
    refine wpQuiet_nil ?_
    rintro _ ⟨y, rfl⟩
    rw [hTA.out] at hF
    go_wp2_with fail
    refine (hF.out _ (hXW.out.plus y)).mono ?_
    rintro e w3 ⟨rfl, hg3, hX3⟩
    obtain ⟨hB3, hg4⟩ := hend.out _ y w3 hg3 hX3
    have hF2 := Lib.hid (hfin.out _ w3 hX3 hg4)
    have s := fun i v (hv : ([.int .u8 K, .string t.s, .int .i64 t.w, .int .u64 (hi t.n), .int .u64 (lo t.n), .int .i64 (t.at_ : Int)] : List Value)[i]? = some v) => hB3.t i v (by rw [hTL.out]; exact hv)
    have s0 := s 0 _ rfl
    have s1 := s 1 _ rfl
    have s2 := s 2 _ rfl
    have s3 := s 3 _ rfl
    have s4 := s 4 _ rfl
    have s5 := s 5 _ rfl
    obtain ⟨u0, r0⟩ := hB3.r 0 (by decide)
    obtain ⟨u1, r1⟩ := hB3.r 1 (by decide)
    obtain ⟨u2, r2⟩ := hB3.r 2 (by decide)
    obtain ⟨u3, r3⟩ := hB3.r 3 (by decide)
    obtain ⟨u4, r4⟩ := hB3.r 4 (by decide)
    obtain ⟨u5, r5⟩ := hB3.r 5 (by decide)
    have fr := hB3.fr
    have hTA' := hTA
    clear hB3 hg4 hg3 hX3 s a0 a1 a2 a3 a4 a5 hend hfin hF
    go_wp2
    refine bodyPost_ret (v := tokA t) ?_ rfl hF2.out
    rw [hTA'.out]; simp [results, Tryz.results22, go_sem, r0, r1, r2, r3, r4, r5]
  · replace q1 : (K == 1) = false := q1.trans (by simpa using hk1)
    have hF := hFF false
    have e2 : dFail false t 4 D1 = D2 := by rw [← hD2.out]; simp [hk1]
    rw [e2] at hF
    clear hFF hk1 e2 hD2
    refine wp_region_own_tail0 10 (by kernel_rfl) (by kernel_rfl) ?_
    simp only [List.take_succ_cons, List.take_zero, List.drop_succ_cons, List.drop_zero]
    repeat (go_big_quiet_step (fail))
    refine wpQuiet_nil ?_
    rintro _ ⟨y, rfl⟩
    rw [hTA.out] at hF
    go_wp2_with fail
    refine (hF.out _ (hXW.out.plus y)).mono ?_
    rintro e w3 ⟨rfl, hg3, hX3⟩
    obtain ⟨hB3, hg4⟩ := hend.out _ y w3 hg3 hX3
    have hF2 := Lib.hid (hfin.out _ w3 hX3 hg4)
    have s := fun i v (hv : ([.int .u8 K, .string t.s, .int .i64 t.w, .int .u64 (hi t.n), .int .u64 (lo t.n), .int .i64 (t.at_ : Int)] : List Value)[i]? = some v) => hB3.t i v (by rw [hTL.out]; exact hv)
    have s0 := s 0 _ rfl
    have s1 := s 1 _ rfl
    have s2 := s 2 _ rfl
    have s3 := s 3 _ rfl
    have s4 := s 4 _ rfl
    have s5 := s 5 _ rfl
    obtain ⟨u0, r0⟩ := hB3.r 0 (by decide)
    obtain ⟨u1, r1⟩ := hB3.r 1 (by decide)
    obtain ⟨u2, r2⟩ := hB3.r 2 (by decide)
    obtain ⟨u3, r3⟩ := hB3.r 3 (by decide)
    obtain ⟨u4, r4⟩ := hB3.r 4 (by decide)
    obtain ⟨u5, r5⟩ := hB3.r 5 (by decide)
    have fr := hB3.fr
    have hTA' := hTA
    clear hB3 hg4 hg3 hX3 s a0 a1 a2 a3 a4 a5 hend hfin hF
    go_wp2
    refine bodyPost_ret (v := tokA t) ?_ rfl hF2.out
    rw [hTA'.out]; simp [results, Tryz.results22, go_sem, r0, r1, r2, r3, r4, r5]
theorem rd_drew {v : Value} {e : Ending} {X : World} (h : RdEnds w b g cap l sw po li v d e X) : RdEnds w b g cap l sw po li v d e X.drew :=
  ⟨h.1, ⟨h.2.1.os, h.2.1.tape, h.2.1.output, h.2.1.size, h.2.1.block⟩, h.2.2.keep (Nat.le_refl _) rfl rfl⟩
theorem rng_low {n : Nat} (h : hi n = 0) (h1 : ¬ (0 : Int) < lo n) : ¬ (1 ≤ n ∧ n ≤ 511) := by unfold hi at h; unfold lo at h1; omega
theorem rng_high {n : Nat} (h : hi n = 0) (h1 : ¬ lo n < (512 : Int)) : ¬ (1 ≤ n ∧ n ≤ 511) := by unfold hi at h; unfold lo at h1; omega
theorem rng_hi {n : Nat} (h : ¬ hi n = 0) : ¬ (1 ≤ n ∧ n ≤ 511) := by unfold hi at h; omega
theorem rng_ok {n : Nat} (h : hi n = 0) (h1 : (0 : Int) < lo n) (h2 : lo n < (512 : Int)) : (1 ≤ n ∧ n ≤ 511) ∧ lo n = (n : Int) := by unfold hi at h; unfold lo at h1 h2 ⊢; omega
set_option maxRecDepth 10000 in
set_option maxHeartbeats 8000000 in
theorem dc_port {z : Nat} (hl : TL l z) (h : Rd w b g cap l sw po li d) (hk : d.bad = false → d.k < l.length) :
    Calls Tryz.prog 48 #[.pointer (some ⟨b, 0, none⟩)] w (RdEnds w b g cap l sw po li (.tuple #[tokA (dNow l d), .int .i64 (dPortV l d)]) (dPort l d)) := by
  have hT := Lib.hid (dc_take (h.alloc (.cells #[.int .u8 0, .string ⟨#[]⟩, .int .i64 0, .int .u64 0, .int .u64 0, .int .i64 0] 60)) hk)
  have hb := h.lt
  have hg0 : Hid (g < w.heap.size) := Lib.hid h.glt
  have hV : dPortV l d = if (dPort l d).bad = true then 0 else ((dNow l d).n : Int) := rfl
  obtain ⟨V, hVV⟩ : ∃ V, dPortV l d = V := ⟨_, rfl⟩
  rw [hVV] at hV ⊢
  unfold dPort at hV ⊢
  obtain ⟨t, ht⟩ : ∃ t, dNow l d = t := ⟨_, rfl⟩
  rw [ht] at hT hV ⊢
  have hFF : ∀ (D : DS) (B : Bool) (e0 : Int), Hid (∀ w, Rd w b g cap l sw po li D → Calls Tryz.prog 19 #[.pointer (some ⟨b, 0, none⟩), .bool B, tokA t, .int .i64 e0] w (RdEnds w b g cap l sw po li (.tuple #[]) (dFail B t e0 D))) := fun D B e0 w h => dc_fail h B t e0
  generalize dTake l d = D1 at hT hV ⊢
  obtain ⟨B2, hB2⟩ : ∃ B, decide (t.kind = 2) = B := ⟨_, rfl⟩
  obtain ⟨B3, hB3⟩ : ∃ B, decide (t.w = 0) = B := ⟨_, rfl⟩
  obtain ⟨B4, hB4⟩ : ∃ B, decide (1 ≤ t.n ∧ t.n ≤ 511) = B := ⟨_, rfl⟩
  rw [hB2, hB3, hB4] at hV ⊢
  have q2 : ((t.kind : Int) == 2) = B2 := by rw [← hB2, Bool.eq_iff_iff, beq_iff_eq, decide_eq_true_eq]; omega
  have q3 : (t.w == 0) = B3 := by rw [← hB3, Bool.eq_iff_iff, beq_iff_eq, decide_eq_true_eq]
  have hF2 := hFF D1 B2 4
  obtain ⟨D2, hD2⟩ : ∃ D, dFail B2 t 4 D1 = D := ⟨_, rfl⟩
  rw [hD2] at hF2 hV ⊢
  have hF3 := hFF D2 B3 10
  obtain ⟨D3, hD3⟩ : ∃ D, dFail B3 t 10 D2 = D := ⟨_, rfl⟩
  rw [hD3] at hF3 hV ⊢
  have hF4 := hFF D3 B4 5
  obtain ⟨D4, hD4⟩ : ∃ D, dFail B4 t 5 D3 = D := ⟨_, rfl⟩
  rw [hD4] at hF4 hV ⊢
  have hbad4 : Hid (B4 = false → D4.bad = true) := by
    show _ → _
    intro e
    rw [← hD4, e]
    unfold dFail
    cases hb : D3.bad <;> simp [hb]
  obtain ⟨K, hK⟩ : ∃ K, (t.kind : Int) = K := ⟨_, rfl⟩
  rw [hK] at q2
  obtain ⟨H, hH⟩ : ∃ H, hi t.n = H := ⟨_, rfl⟩
  obtain ⟨L, hL⟩ : ∃ L, lo t.n = L := ⟨_, rfl⟩
  have hTA : Hid (tokA t = .agg #[.int .u8 K, .string t.s, .int .i64 t.w, .int .u64 H, .int .u64 L, .int .i64 (t.at_ : Int)]) := by show _ = _; rw [← hK, ← hH, ← hL]
  have hTL : Hid (tokL t = [.int .u8 K, .string t.s, .int .i64 t.w, .int .u64 H, .int .u64 L, .int .i64 (t.at_ : Int)]) := by show _ = _; unfold tokL; rw [hK, hH, hL]
  rw [hTA.out] at hF2 hF3 hF4
  replace hB4 := Lib.hid hB4
  have hfin : ∀ (v : Value) (w3 : World), Rd w3 b g cap l sw po li D4 → w.grownBy w3 (some b) → RdEnds w b g cap l sw po li (.tuple #[tokA t, v]) D4 (.returned (.tuple #[tokA t, v])) ((((((w3.setCell ⟨w.heap.size, 0, none⟩ (.int .u8 K)).setCell ⟨w.heap.size, 1, none⟩ (.string t.s)).setCell ⟨w.heap.size, 2, none⟩ (.int .i64 t.w)).setCell ⟨w.heap.size, 3, none⟩ (.int .u64 H)).setCell ⟨w.heap.size, 4, none⟩ (.int .u64 L)).setCell ⟨w.heap.size, 5, none⟩ (.int .i64 (t.at_ : Int))) := by
    intro v w3 h3 hg3
    have n1 : ¬ w.heap.size = b := by omega
    have n2 : ¬ w.heap.size = g := by have := hg0.out; omega
    exact ⟨rfl, grown_six hg3 _ _ _ _ _ _, (((((h3.set n1 n2 0 _).set n1 n2 1 _).set n1 n2 2 _).set n1 n2 3 _).set n1 n2 4 _).set n1 n2 5 _⟩
  replace hfin := Lib.hid hfin
  have hne3 : ¬ w.heap.size = b := by omega
  replace hV := Lib.hid hV
  replace hH := Lib.hid hH
  replace hL := Lib.hid hL
  clear h hk ht hK hVV hFF hB2 hB3 hD2 hD3 hD4
  go_enter Tryz.func48, Tryz.ntmps48
  go_wp2_with fail
  refine hT.out.mono ?_
  rintro e X ⟨rfl, hgX, hX⟩
  rw [hTA.out]
  go_upto_region 2 with (fail)
  have hBx := BoxT.start w 60 hb hgX t 60
  rw [hTL.out] at hBx
  obtain ⟨w1, hW⟩ : ∃ W, W = X.alloc (.cells #[.int .u8 K, .string t.s, .int .i64 t.w, .int .u64 H, .int .u64 L, .int .i64 (t.at_ : Int)] 60) := ⟨_, rfl⟩
  have hX1 : Rd w1 b g cap l sw po li D1 := hW ▸ hX.alloc _
  have hgw1 : w.grownBy w1 (some b) := by rw [hW]; exact grown_trans (grown_trans (grown_alloc _ _ _) hgX) (grown_alloc _ _ _)
  rw [← hW]
  change BoxT w.heap.size X.heap.size t (X.alloc (.cells #[.int .u8 K, .string t.s, .int .i64 t.w, .int .u64 H, .int .u64 L, .int .i64 (t.at_ : Int)] 60)) at hBx
  rw [← hW] at hBx
  clear hW hX hgX hT
  generalize X.heap.size = z at hBx ⊢
  have hB1' := Lib.hid hBx
  replace hX1 := Lib.hid hX1
  replace hgw1 := Lib.hid hgw1
  have s := fun i v (hv : ([.int .u8 K, .string t.s, .int .i64 t.w, .int .u64 H, .int .u64 L, .int .i64 (t.at_ : Int)] : List Value)[i]? = some v) => hBx.t i v (by rw [hTL.out]; exact hv)
  have s0 := s 0 _ rfl
  have s1 := s 1 _ rfl
  have s2 := s 2 _ rfl
  have s3 := s 3 _ rfl
  have s4 := s 4 _ rfl
  have s5 := s 5 _ rfl
  clear hBx
  go_wp2_with fail
  refine (hF2.out _ hX1.out).mono ?_
  rintro e w2 ⟨rfl, hg2, hX2⟩
  have hB2 := hB1'.out.grown hg2 hb
  have hgw2 := Lib.hid (grown_trans hgw1.out hg2)
  have hB2' := Lib.hid hB2
  replace hX2 := Lib.hid hX2
  clear s s0 s1 s2 s3 s4 s5 hg2 hB2 hX1 hgw1 hB1'
  have s := fun i v (hv : ([.int .u8 K, .string t.s, .int .i64 t.w, .int .u64 H, .int .u64 L, .int .i64 (t.at_ : Int)] : List Value)[i]? = some v) => hB2'.out.t i v (by rw [hTL.out]; exact hv)
  have s0 := s 0 _ rfl
  have s1 := s 1 _ rfl
  have s2 := s 2 _ rfl
  have s3 := s 3 _ rfl
  have s4 := s 4 _ rfl
  have s5 := s 5 _ rfl
  go_wp2_with fail
  refine (hF3.out _ hX2.out).mono ?_
  rintro e w3 ⟨rfl, hg3, hX3⟩
  have hB3 := hB2'.out.grown hg3 hb
  have hgw3 := Lib.hid (grown_trans hgw2.out hg3)
  have hB3' := Lib.hid hB3
  replace hX3 := Lib.hid hX3
  clear s s0 s1 s2 s3 s4 s5 hg3 hB3 hX2 hgw2 hB2'
  have s := fun i v (hv : ([.int .u8 K, .string t.s, .int .i64 t.w, .int .u64 H, .int .u64 L, .int .i64 (t.at_ : Int)] : List Value)[i]? = some v) => hB3'.out.t i v (by rw [hTL.out]; exact hv)
  have s0 := s 0 _ rfl
  have s1 := s 1 _ rfl
  have s2 := s 2 _ rfl
  have s3 := s 3 _ rfl
  have s4 := s 4 _ rfl
  have s5 := s 5 _ rfl
  clear hF2 hF3 q2 q3
  by_cases h1 : H = 0
  · by_cases h2 : (0 : Int) < L
    · by_cases h3 : L < (512 : Int)
      · obtain ⟨hok, hLn⟩ := rng_ok (hH.out.trans h1) (by rw [hL.out]; exact h2) (by rw [hL.out]; exact h3)
        obtain rfl : B4 = true := by rw [← hB4.out]; exact decide_eq_true hok
        subst h1
        have hLn := Lib.hid (hL.out.symm.trans hLn)
        clear hH hL hok hB4
        go_wp2_with fail
        refine (hF4.out _ hX3.out).mono ?_
        rintro e w4 ⟨rfl, hg4, hX4⟩
        have hB4 := hB3'.out.grown hg4 hb
        have hgw4 := Lib.hid (grown_trans hgw3.out hg4)
        have hB4' := Lib.hid hB4
        replace hX4 := Lib.hid hX4
        clear s s0 s1 s2 s3 s4 s5 hg4 hB4 hX3 hgw3 hB3'
        have s := fun i v (hv : ([.int .u8 K, .string t.s, .int .i64 t.w, .int .u64 0, .int .u64 L, .int .i64 (t.at_ : Int)] : List Value)[i]? = some v) => hB4'.out.t i v (by rw [hTL.out]; exact hv)
        have s0 := s 0 _ rfl
        have s1 := s 1 _ rfl
        have s2 := s 2 _ rfl
        have s3 := s 3 _ rfl
        have s4 := s 4 _ rfl
        have s5 := s 5 _ rfl
        have c5 := hX4.out.c5
        have hB9 := hB4'.out
        obtain ⟨u0, r0⟩ := hB9.r 0 (by decide)
        obtain ⟨u1, r1⟩ := hB9.r 1 (by decide)
        obtain ⟨u2, r2⟩ := hB9.r 2 (by decide)
        obtain ⟨u3, r3⟩ := hB9.r 3 (by decide)
        obtain ⟨u4, r4⟩ := hB9.r 4 (by decide)
        obtain ⟨u5, r5⟩ := hB9.r 5 (by decide)
        have fr := hB9.fr
        have hTA' := hTA
        clear hB9 s
        cases hb5 : D4.bad with
        | true =>
          rw [hb5] at c5
          have hE := Lib.hid (hfin.out (.int .i64 0) _ hX4.out hgw4.out)
          clear hfin
          go_wp2
          refine bodyPost_ret (v := .tuple #[tokA t, .int .i64 0]) ?_ rfl (by rw [hV.out, if_pos hb5]; exact hE.out)
          rw [hTA'.out]; simp [results, Tryz.results48, go_sem, r0, r1, r2, r3, r4, r5]
        | false =>
          have hE := Lib.hid (hfin.out (.int .i64 L) _ hX4.out hgw4.out)
          have u1 : (L + 9223372036854775808) % 18446744073709551616 - 9223372036854775808 = L := by omega
          have zn1 : ¬ z = w.heap.size := by have := hB4'.out.lt; omega
          have zn2 : ¬ w.heap.size = z := by have := hB4'.out.lt; omega
          clear hfin
          go_wp2
          go_region
          go_wp2
          refine bodyPost_ret (v := .tuple #[tokA t, .int .i64 L]) ?_ rfl (by rw [hV.out, if_neg (by rw [hb5]; simp), ← hLn.out]; exact rd_drew hE.out)
          rw [hTA'.out]; simp [results, Tryz.results48, go_sem, cell_drew, r0, r1, r2, r3, r4, r5]
      · obtain rfl : B4 = false := by rw [← hB4.out]; exact decide_eq_false (rng_high (hH.out.trans h1) (by rw [hL.out]; exact h3))
        subst h1
        replace h3 := decide_eq_false h3
        clear hH hL hB4
        go_wp2_with fail
        refine (hF4.out _ hX3.out).mono ?_
        rintro e w4 ⟨rfl, hg4, hX4⟩
        have hB4 := hB3'.out.grown hg4 hb
        have hgw4 := Lib.hid (grown_trans hgw3.out hg4)
        have hB4' := Lib.hid hB4
        replace hX4 := Lib.hid hX4
        clear s s0 s1 s2 s3 s4 s5 hg4 hB4 hX3 hgw3 hB3'
        have s := fun i v (hv : ([.int .u8 K, .string t.s, .int .i64 t.w, .int .u64 0, .int .u64 L, .int .i64 (t.at_ : Int)] : List Value)[i]? = some v) => hB4'.out.t i v (by rw [hTL.out]; exact hv)
        have s0 := s 0 _ rfl
        have s1 := s 1 _ rfl
        have s2 := s 2 _ rfl
        have s3 := s 3 _ rfl
        have s4 := s 4 _ rfl
        have s5 := s 5 _ rfl
        have c5 := hX4.out.c5
        have hB9 := hB4'.out
        obtain ⟨u0, r0⟩ := hB9.r 0 (by decide)
        obtain ⟨u1, r1⟩ := hB9.r 1 (by decide)
        obtain ⟨u2, r2⟩ := hB9.r 2 (by decide)
        obtain ⟨u3, r3⟩ := hB9.r 3 (by decide)
        obtain ⟨u4, r4⟩ := hB9.r 4 (by decide)
        obtain ⟨u5, r5⟩ := hB9.r 5 (by decide)
        have fr := hB9.fr
        have hTA' := hTA
        clear hB9 s
        have hb5 := hbad4.out trivial
        rw [hb5] at c5
        have hE := Lib.hid (hfin.out (.int .i64 0) _ hX4.out hgw4.out)
        clear hfin
        go_wp2
        refine bodyPost_ret (v := .tuple #[tokA t, .int .i64 0]) ?_ rfl (by rw [hV.out, if_pos hb5]; exact hE.out)
        rw [hTA'.out]; simp [results, Tryz.results48, go_sem, r0, r1, r2, r3, r4, r5]
    · obtain rfl : B4 = false := by rw [← hB4.out]; exact decide_eq_false (rng_low (hH.out.trans h1) (by rw [hL.out]; exact h2))
      subst h1
      replace h2 := decide_eq_false h2
      clear hH hL hB4
      go_wp2_with fail
      refine (hF4.out _ hX3.out).mono ?_
      rintro e w4 ⟨rfl, hg4, hX4⟩
      have hB4 := hB3'.out.grown hg4 hb
      have hgw4 := Lib.hid (grown_trans hgw3.out hg4)
      have hB4' := Lib.hid hB4
      replace hX4 := Lib.hid hX4
      clear s s0 s1 s2 s3 s4 s5 hg4 hB4 hX3 hgw3 hB3'
      have s := fun i v (hv : ([.int .u8 K, .string t.s, .int .i64 t.w, .int .u64 0, .int .u64 L, .int .i64 (t.at_ : Int)] : List Value)[i]? = some v) => hB4'.out.t i v (by rw [hTL.out]; exact hv)
      have s0 := s 0 _ rfl
      have s1 := s 1 _ rfl
      have s2 := s 2 _ rfl
      have s3 := s 3 _ rfl
      have s4 := s 4 _ rfl
      have s5 := s 5 _ rfl
      have c5 := hX4.out.c5
      have hB9 := hB4'.out
      obtain ⟨u0, r0⟩ := hB9.r 0 (by decide)
      obtain ⟨u1, r1⟩ := hB9.r 1 (by decide)
      obtain ⟨u2, r2⟩ := hB9.r 2 (by decide)
      obtain ⟨u3, r3⟩ := hB9.r 3 (by decide)
      obtain ⟨u4, r4⟩ := hB9.r 4 (by decide)
      obtain ⟨u5, r5⟩ := hB9.r 5 (by decide)
      have fr := hB9.fr
      have hTA' := hTA
      clear hB9 s
      have hb5 := hbad4.out trivial
      rw [hb5] at c5
      have hE := Lib.hid (hfin.out (.int .i64 0) _ hX4.out hgw4.out)
      clear hfin
      go_wp2
      refine bodyPost_ret (v := .tuple #[tokA t, .int .i64 0]) ?_ rfl (by rw [hV.out, if_pos hb5]; exact hE.out)
      rw [hTA'.out]; simp [results, Tryz.results48, go_sem, r0, r1, r2, r3, r4, r5]
  · obtain rfl : B4 = false := by rw [← hB4.out]; exact decide_eq_false (rng_hi (by rw [hH.out]; exact h1))
    have h1 : (H == 0) = false := by simpa using h1
    clear hH hL hB4
    go_wp2_with fail
    refine (hF4.out _ hX3.out).mono ?_
    rintro e w4 ⟨rfl, hg4, hX4⟩
    have hB4 := hB3'.out.grown hg4 hb
    have hgw4 := Lib.hid (grown_trans hgw3.out hg4)
    have hB4' := Lib.hid hB4
    replace hX4 := Lib.hid hX4
    clear s s0 s1 s2 s3 s4 s5 hg4 hB4 hX3 hgw3 hB3'
    have s := fun i v (hv : ([.int .u8 K, .string t.s, .int .i64 t.w, .int .u64 H, .int .u64 L, .int .i64 (t.at_ : Int)] : List Value)[i]? = some v) => hB4'.out.t i v (by rw [hTL.out]; exact hv)
    have s0 := s 0 _ rfl
    have s1 := s 1 _ rfl
    have s2 := s 2 _ rfl
    have s3 := s 3 _ rfl
    have s4 := s 4 _ rfl
    have s5 := s 5 _ rfl
    have c5 := hX4.out.c5
    have hB9 := hB4'.out
    obtain ⟨u0, r0⟩ := hB9.r 0 (by decide)
    obtain ⟨u1, r1⟩ := hB9.r 1 (by decide)
    obtain ⟨u2, r2⟩ := hB9.r 2 (by decide)
    obtain ⟨u3, r3⟩ := hB9.r 3 (by decide)
    obtain ⟨u4, r4⟩ := hB9.r 4 (by decide)
    obtain ⟨u5, r5⟩ := hB9.r 5 (by decide)
    have fr := hB9.fr
    have hTA' := hTA
    clear hB9 s
    have hb5 := hbad4.out trivial
    rw [hb5] at c5
    have hE := Lib.hid (hfin.out (.int .i64 0) _ hX4.out hgw4.out)
    clear hfin
    go_wp2
    refine bodyPost_ret (v := .tuple #[tokA t, .int .i64 0]) ?_ rfl (by rw [hV.out, if_pos hb5]; exact hE.out)
    rw [hTA'.out]; simp [results, Tryz.results48, go_sem, r0, r1, r2, r3, r4, r5]
end
end Go.Proofs.YtkffjjlmoojffaaGreatDoor
