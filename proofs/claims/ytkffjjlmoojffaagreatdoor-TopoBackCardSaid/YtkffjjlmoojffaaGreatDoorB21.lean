/-
  WHAT IS PROVED HERE: a part of the proof of the claim's theorem: CurC.
-/
import Derived.Test.YtkffjjlmoojffaaGreatDoorRows
import Derived.Test.YtkffjjlmoojffaaGreatDoorB20
set_option linter.all false
namespace Go.Proofs.YtkffjjlmoojffaaGreatDoor
open Go.RowKit
section
variable {w : World} {b : Nat} {s : ByteArray} {g cap : Nat} {l : List Tok} {k : Nat} {t : Tok}
set_option maxHeartbeats 1000000 in
theorem cur_number (h : Cu w b s g cap l k) (ht : l[k]? = some t) (hx : t.kind = 2 → k + 1 < l.length) (hs : s.size ≤ 140737488355328) (ha : t.at_ ≤ s.size) :
    Calls Tryz.prog 88 #[.pointer (some ⟨b, 0, none⟩)] w (CuEnds w b s g cap l (numM l k) tokA) := by
  have hX0 := h.alloc (.cells #[.int .u8 0, .string ⟨#[]⟩, .int .i64 0, .int .u64 0, .int .u64 0, .int .i64 0] 60)
  have hN0 := cur_next hX0 ht
  have hM : numM l k = if t.kind = 2 then .ok t (k + 1) else .bad t.at_ 4 := by unfold numM; rw [getT_of ht]
  have f0 := tok_field0
  have h' := Lib.hid h
  have q : ((t.kind : Int) == 2) = decide (t.kind = 2) := by rw [Bool.eq_iff_iff, beq_iff_eq, decide_eq_true_eq]; omega
  have hTA : ∀ K, (t.kind : Int) = K → tokA t = .agg #[.int .u8 K, .string t.s, .int .i64 t.w, .int .u64 (hi t.n), .int .u64 (lo t.n), .int .i64 (t.at_ : Int)] := fun K e => by rw [← e]
  obtain ⟨K, hK⟩ : ∃ K, (t.kind : Int) = K := ⟨_, rfl⟩
  rw [hTA K hK] at hN0
  rw [hK] at q
  have hN := Lib.hid hN0
  rw [hM]
  by_cases e : t.kind = 2
  · rw [if_pos e]
    rw [decide_eq_true e] at q
    have hA := Lib.hid (fun (w : World) h => cur_need_yes (w := w) (b := b) (s := s) (g := g) (cap := cap) h ht 4)
    have hT := Lib.hid (fun w h => cur_take (w := w) (b := b) (s := s) (g := g) (cap := cap) h ht (hx e))
    have hK' := Lib.hid hK
    have hTA' := Lib.hid hTA
    have hX' := Lib.hid hX0
    have hbw := h.lt
    have hgw : Hid (g < w.heap.size) := h.glt (by have := (List.getElem?_eq_some_iff.1 ht).1; omega)
    obtain ⟨W, hW, hBW, hzW, ca, fa⟩ := box1 w #[.int .u8 0, .string ⟨#[]⟩, .int .i64 0, .int .u64 0, .int .u64 0, .int .i64 0] 60
    have hBW' := Lib.hid hBW
    have ca' := Lib.hid ca
    have fa' := Lib.hid fa
    have hzW' := Lib.hid hzW
    have hW' := Lib.hid hW
    clear e hM hx h ht ha hN0 hK hTA hX0 hW ca fa hBW hzW
    go_enter Tryz.func88, Tryz.ntmps88
    go_wp2_with fail
    refine hN.out.mono ?_
    rintro e w' ⟨rfl, x, rfl⟩
    go_wp2_with fail
    refine (hA.out _ (hX'.out.plus x)).mono ?_
    rintro e w' ⟨rfl, z, rfl⟩
    go_wp2_with fail
    have hXz := (hX'.out.plus x).plus z
    rw [← hW'.out] at hXz ⊢
    rw [plus_plus] at hXz ⊢
    obtain ⟨y, hy⟩ : ∃ y : Ext, (⟨x.blocks ++ z.blocks, z.draws⟩ : Ext) = y := ⟨_, rfl⟩
    rw [hy] at hXz ⊢
    refine (hT.out _ hXz).mono ?_
    rintro e w2 ⟨rfl, hg, hX⟩
    have c := fun i v hv => (grown_cell hg i (c := w.heap.size) (by have := size_plus W y; have := hzW'.out; omega) (by omega)).trans (ca'.out i v hv y)
    have r0 := c 0 _ rfl
    have r1 := c 1 _ rfl
    have r2 := c 2 _ rfl
    have r3 := c 3 _ rfl
    have r4 := c 4 _ rfl
    have r5 := c 5 _ rfl
    have rf : ∀ o, w2.frozen? ⟨w.heap.size, o, none⟩ = false := fun o => (World.frozen?_of_block (a := ⟨w.heap.size, o, none⟩) (hg.block _ (by show w.heap.size < _; have := size_plus W y; have := hzW'.out; omega) (fun e => by have : w.heap.size = b := Option.some.inj e; omega))).trans (fa'.out y o)
    have hg2 := Lib.hid (grown_trans (grown_of_below (hBW'.out.trans ((below_plus W y).mono hBW'.out.size)) (some b)) hg)
    have hX2 := Lib.hid hX
    have hne1 : ¬ w.heap.size = b := by omega
    have hne2 : ¬ b = w.heap.size := by omega
    rw [hTA'.out K hK'.out]
    clear hg hX hXz hy c
    go_wp2
    refine bodyPost_ret (v := tokA t) ?_ rfl ⟨rfl, ?_, ?_⟩
    · rw [hTA'.out K hK'.out]; simp [results, Tryz.results88, go_sem, r0, r1, r2, r3, r4, r5, hne1, hne2]
    · exact grown_six hg2.out _ _ _ _ _ _
    · have hgg : ¬ w.heap.size = g := fun e => by have := hgw.out; omega
      exact (((((hX2.out.set hne1 hgg 0 _).set hne1 hgg 1 _).set hne1 hgg 2 _).set hne1 hgg 3 _).set hne1 hgg 4 _).set hne1 hgg 5 _
  · rw [if_neg e]
    rw [decide_eq_false e] at q
    have hA := Lib.hid (fun (w : World) h => cur_need (w := w) (b := b) (g := g) (cap := cap) h ht 4 (by decide) hs ha)
    have hX' := Lib.hid hX0
    clear e hM hx h ht ha hN0 hK hTA hX0
    go_enter Tryz.func88, Tryz.ntmps88
    go_wp2_with fail
    refine hN.out.mono ?_
    rintro e w' ⟨rfl, x, rfl⟩
    go_wp2_with fail
    refine (hA.out _ (hX'.out.plus x)).mono ?_
    rintro e w' ⟨rfl, z, rfl⟩
    go_wp2
    exact ⟨rfl, rfl, grown_trans (grown_trans (grown_of_below ((Below.refl _ w).alloc (Nat.le_refl _) _) _) (grown_plus_any _ _ _)) (grown_plus_any _ _ _)⟩
set_option maxRecDepth 100000 in
set_option maxHeartbeats 2000000 in
theorem cur_bare (t : Tok) (least most : Nat) (e0 : Int) (hw : t.w = 0) (hl : least ≤ t.n) (hm : t.n ≤ most) (hb : most ≤ 9223372036854775807) (b : Nat) (w : World) :
    Calls Tryz.prog 104 #[.pointer (some ⟨b, 0, none⟩), tokA t, .int .i64 (least : Int), .int .i64 (most : Int), .int .i64 e0] w (Back w (.int .i64 (t.n : Int))) := by
  obtain ⟨K, S, D, N, A⟩ := t
  simp only at hw hl hm
  subst hw
  have hA := Lib.hid (fun e0 w => cur_needAt_yes ⟨K, S, 0, N, A⟩ e0 b w)
  unfold tokA at hA ⊢
  simp only at hA ⊢
  have h1 : hi N = 0 := by unfold hi; omega
  have h2 : lo N = (N : Int) := by unfold lo; omega
  rw [h1, h2] at hA ⊢
  obtain ⟨W, hW, hB, hz, ca, fa⟩ := box1 w #[.int .u8 (K : Int), .string S, .int .i64 0, .int .u64 0, .int .u64 (N : Int), .int .i64 (A : Int)] 60
  have a0 := ca 0 _ rfl
  have a1 := ca 1 _ rfl
  have a2 := ca 2 _ rfl
  have a3 := ca 3 _ rfl
  have a4 := ca 4 _ rfl
  have a5 := ca 5 _ rfl
  have u1 : (least : Int) % 18446744073709551616 = least := by omega
  have u2 : (most : Int) % 18446744073709551616 = most := by omega
  have u3 : ((N : Int) + 9223372036854775808) % 18446744073709551616 - 9223372036854775808 = N := by omega
  have u4 : (least : Int) ≤ (N : Int) := by omega
  have u5 : (N : Int) ≤ (most : Int) := by omega
  replace u1 := Lib.hid u1
  replace u2 := Lib.hid u2
  replace u3 := Lib.hid u3
  replace u4 := Lib.hid u4
  replace u5 := Lib.hid u5
  replace hB := Lib.hid hB
  clear ca h1 h2 hl hm hb hz
  go_enter Tryz.func104, Tryz.ntmps104
  go_upto_region 1 with (fail)
  rw [← hW, ← plus_self W]
  clear hW
  go_wp2_with fail
  refine (hA.out _ _).mono ?_
  rintro e w' ⟨rfl, x, rfl⟩
  rw [plus_plus]
  generalize (⟨(⟨#[], W.drawn⟩ : Ext).blocks ++ x.blocks, x.draws⟩ : Ext) = z
  have v1 := u1.out
  have v2 := u2.out
  have v4 := u4.out
  have v5 := u5.out
  go_wp2_with fail
  refine (hA.out _ _).mono ?_
  rintro e w' ⟨rfl, y, rfl⟩
  rw [plus_plus]
  go_wp2
  go_ret
  exact ⟨by show Ending.returned (Value.int .i64 (wrap64 (N : Int))) = _; rw [show wrap64 (N : Int) = (N : Int) by have := u3.out; unfold wrap64; omega], plus_of_below (hB.out.trans ((below_plus W _).mono hB.out.size))⟩
set_option maxRecDepth 100000 in
set_option maxHeartbeats 2000000 in
theorem cur_bare_low (h : Cu w b s g cap l k) (t : Tok) (least most : Nat) (e0 : Int) (he : ¬ e0 = 0) (hs : s.size ≤ 140737488355328) (ha : t.at_ ≤ s.size) (hw : t.w = 0) (hN : t.n < 340282366920938463463374607431768211456) (hb : most ≤ 9223372036854775807) (hlm : least ≤ most) (hn : t.n < least) :
    Calls Tryz.prog 104 #[.pointer (some ⟨b, 0, none⟩), tokA t, .int .i64 (least : Int), .int .i64 (most : Int), .int .i64 e0] w (Gives w e0 (lineOf s t.at_ : Nat) (colOf s t.at_ : Nat)) := by
  obtain ⟨K, S, D, N, A⟩ := t
  simp only at hw hN ha hn
  subst hw
  have hA := Lib.hid (fun e0 w => cur_needAt_yes ⟨K, S, 0, N, A⟩ e0 b w)
  have hF := Lib.hid (fun (w : World) h => cur_needAt (w := w) (b := b) (s := s) (g := g) (cap := cap) (l := l) (k := k) h ⟨K, S, 0, N, A⟩ e0 he hs ha)
  unfold tokA at hA hF ⊢
  simp only at hA hF ⊢
  have h1 : hi N = 0 := by unfold hi; omega
  have h2 : lo N = (N : Int) := by unfold lo; omega
  rw [h1, h2] at hA hF ⊢
  clear h1 h2
  obtain ⟨W, hW, hB, hz, ca, fa⟩ := box1 w #[.int .u8 (K : Int), .string S, .int .i64 0, .int .u64 0, .int .u64 (N : Int), .int .i64 (A : Int)] 60
  have a0 := ca 0 _ rfl
  have a1 := ca 1 _ rfl
  have a2 := ca 2 _ rfl
  have a3 := ca 3 _ rfl
  have a4 := ca 4 _ rfl
  have a5 := ca 5 _ rfl
  replace hB := Lib.hid hB
  have hX : Hid (Cu W b s g cap l k) := Lib.hid (hW ▸ h.alloc _)
  have u1 : Hid ((least : Int) % 18446744073709551616 = least) := by show _ = _; omega
  have u2 : Hid ((most : Int) % 18446744073709551616 = most) := by show _ = _; omega
  have u4 : Hid (¬ (least : Int) ≤ (N : Int)) := by show ¬ _; omega
  clear ca hb hz hN hlm hn h he hs ha
  go_enter Tryz.func104, Tryz.ntmps104
  go_upto_region 1 with (fail)
  rw [← hW, ← plus_self W]
  clear hW
  go_wp2_with fail
  refine (hA.out _ _).mono ?_
  rintro e w' ⟨rfl, x, rfl⟩
  rw [plus_plus]
  generalize (⟨(⟨#[], W.drawn⟩ : Ext).blocks ++ x.blocks, x.draws⟩ : Ext) = z
  have v1 := u1.out
  have v2 := u2.out
  have v4 := u4.out
  go_wp2_with fail
  refine (hF.out _ (hX.out.plus _)).mono ?_
  rintro e w' ⟨rfl, y, rfl⟩
  rw [plus_plus]
  go_wp2
  exact ⟨rfl, rfl, plus_of_below (hB.out.trans ((below_plus W _).mono hB.out.size))⟩
set_option maxRecDepth 100000 in
set_option maxHeartbeats 2000000 in
theorem cur_bare_mid (h : Cu w b s g cap l k) (t : Tok) (least most : Nat) (e0 : Int) (he : ¬ e0 = 0) (hs : s.size ≤ 140737488355328) (ha : t.at_ ≤ s.size) (hw : t.w = 0) (hN : t.n < 340282366920938463463374607431768211456) (hb : most ≤ 9223372036854775807) (hlm : least ≤ most) (h1 : hi t.n = 0) (h2 : lo t.n = (t.n : Int)) (hn : least ≤ t.n) (hn2 : most < t.n) :
    Calls Tryz.prog 104 #[.pointer (some ⟨b, 0, none⟩), tokA t, .int .i64 (least : Int), .int .i64 (most : Int), .int .i64 e0] w (Gives w e0 (lineOf s t.at_ : Nat) (colOf s t.at_ : Nat)) := by
  obtain ⟨K, S, D, N, A⟩ := t
  simp only at hw hN ha hn hn2 h1 h2
  subst hw
  have hA := Lib.hid (fun e0 w => cur_needAt_yes ⟨K, S, 0, N, A⟩ e0 b w)
  have hF := Lib.hid (fun (w : World) h => cur_needAt (w := w) (b := b) (s := s) (g := g) (cap := cap) (l := l) (k := k) h ⟨K, S, 0, N, A⟩ e0 he hs ha)
  unfold tokA at hA hF ⊢
  simp only at hA hF ⊢
  rw [h1, h2] at hA hF ⊢
  clear h1 h2
  obtain ⟨W, hW, hB, hz, ca, fa⟩ := box1 w #[.int .u8 (K : Int), .string S, .int .i64 0, .int .u64 0, .int .u64 (N : Int), .int .i64 (A : Int)] 60
  have a0 := ca 0 _ rfl
  have a1 := ca 1 _ rfl
  have a2 := ca 2 _ rfl
  have a3 := ca 3 _ rfl
  have a4 := ca 4 _ rfl
  have a5 := ca 5 _ rfl
  replace hB := Lib.hid hB
  have hX : Hid (Cu W b s g cap l k) := Lib.hid (hW ▸ h.alloc _)
  have u1 : Hid ((least : Int) % 18446744073709551616 = least) := by show _ = _; omega
  have u2 : Hid ((most : Int) % 18446744073709551616 = most) := by show _ = _; omega
  have u4 : Hid ((least : Int) ≤ (N : Int)) := by show _ ≤ _; omega
  have u5 : Hid (decide (N ≤ most) = false) := by show _ = _; rw [decide_eq_false_iff_not]; omega
  clear ca hb hz hN hlm hn hn2 h he hs ha
  go_enter Tryz.func104, Tryz.ntmps104
  go_upto_region 1 with (fail)
  rw [← hW, ← plus_self W]
  clear hW
  go_wp2_with fail
  refine (hA.out _ _).mono ?_
  rintro e w' ⟨rfl, x, rfl⟩
  rw [plus_plus]
  generalize (⟨(⟨#[], W.drawn⟩ : Ext).blocks ++ x.blocks, x.draws⟩ : Ext) = z
  have v1 := u1.out
  have v2 := u2.out
  have v4 := u4.out
  have v5 := u5.out
  go_wp2_with fail
  refine (hF.out _ (hX.out.plus _)).mono ?_
  rintro e w' ⟨rfl, y, rfl⟩
  rw [plus_plus]
  go_wp2
  exact ⟨rfl, rfl, plus_of_below (hB.out.trans ((below_plus W _).mono hB.out.size))⟩
set_option maxRecDepth 100000 in
set_option maxHeartbeats 2000000 in
theorem cur_bare_high (h : Cu w b s g cap l k) (t : Tok) (least most : Nat) (e0 : Int) (he : ¬ e0 = 0) (hs : s.size ≤ 140737488355328) (ha : t.at_ ≤ s.size) (hw : t.w = 0) (hN : t.n < 340282366920938463463374607431768211456) (hb : most ≤ 9223372036854775807) (hlm : least ≤ most) (hn : 18446744073709551616 ≤ t.n) :
    Calls Tryz.prog 104 #[.pointer (some ⟨b, 0, none⟩), tokA t, .int .i64 (least : Int), .int .i64 (most : Int), .int .i64 e0] w (Gives w e0 (lineOf s t.at_ : Nat) (colOf s t.at_ : Nat)) := by
  obtain ⟨K, S, D, N, A⟩ := t
  simp only at hw hN ha hn
  subst hw
  have hA := Lib.hid (fun e0 w => cur_needAt_yes ⟨K, S, 0, N, A⟩ e0 b w)
  have hF := Lib.hid (fun (w : World) h => cur_needAt (w := w) (b := b) (s := s) (g := g) (cap := cap) (l := l) (k := k) h ⟨K, S, 0, N, A⟩ e0 he hs ha)
  unfold tokA at hA hF ⊢
  simp only at hA hF ⊢
  have h1 : ¬ hi N = 0 := by unfold hi; omega
  generalize hi N = H at h1 hA hF ⊢
  generalize lo N = L at hA hF ⊢
  have h1 : (H == 0) = false := by simpa using h1
  obtain ⟨W, hW, hB, hz, ca, fa⟩ := box1 w #[.int .u8 (K : Int), .string S, .int .i64 0, .int .u64 H, .int .u64 L, .int .i64 (A : Int)] 60
  have a0 := ca 0 _ rfl
  have a1 := ca 1 _ rfl
  have a2 := ca 2 _ rfl
  have a3 := ca 3 _ rfl
  have a4 := ca 4 _ rfl
  have a5 := ca 5 _ rfl
  replace hB := Lib.hid hB
  have hX : Hid (Cu W b s g cap l k) := Lib.hid (hW ▸ h.alloc _)
  have u1 : Hid ((least : Int) % 18446744073709551616 = least) := by show _ = _; omega
  have u2 : Hid ((most : Int) % 18446744073709551616 = most) := by show _ = _; omega
  clear ca hb hz hN hlm hn h he hs ha
  go_enter Tryz.func104, Tryz.ntmps104
  go_upto_region 1 with (fail)
  rw [← hW, ← plus_self W]
  clear hW
  go_wp2_with fail
  refine (hA.out _ _).mono ?_
  rintro e w' ⟨rfl, x, rfl⟩
  rw [plus_plus]
  generalize (⟨(⟨#[], W.drawn⟩ : Ext).blocks ++ x.blocks, x.draws⟩ : Ext) = z
  have v1 := u1.out
  have v2 := u2.out

  go_wp2_with fail
  refine (hF.out _ (hX.out.plus _)).mono ?_
  rintro e w' ⟨rfl, y, rfl⟩
  rw [plus_plus]
  go_wp2
  exact ⟨rfl, rfl, plus_of_below (hB.out.trans ((below_plus W _).mono hB.out.size))⟩
set_option maxRecDepth 100000 in
set_option maxHeartbeats 2000000 in
theorem cur_bare_wide (h : Cu w b s g cap l k) (t : Tok) (least most : Nat) (e0 : Int) (hs : s.size ≤ 140737488355328) (ha : t.at_ ≤ s.size) (hw : ¬ t.w = 0) :
    Calls Tryz.prog 104 #[.pointer (some ⟨b, 0, none⟩), tokA t, .int .i64 (least : Int), .int .i64 (most : Int), .int .i64 e0] w (Gives w 10 (lineOf s t.at_ : Nat) (colOf s t.at_ : Nat)) := by
  obtain ⟨K, S, D, N, A⟩ := t
  simp only at hw ha
  have hF := Lib.hid (fun (w : World) h => cur_needAt (w := w) (b := b) (s := s) (g := g) (cap := cap) (l := l) (k := k) h ⟨K, S, D, N, A⟩ 10 (by decide) hs ha)
  unfold tokA at hF ⊢
  simp only at hF ⊢
  generalize hi N = H at hF ⊢
  generalize lo N = L at hF ⊢
  have h1 : (D == 0) = false := by simpa using hw
  obtain ⟨W, hW, hB, hz, ca, fa⟩ := box1 w #[.int .u8 (K : Int), .string S, .int .i64 D, .int .u64 H, .int .u64 L, .int .i64 (A : Int)] 60
  have a0 := ca 0 _ rfl
  have a1 := ca 1 _ rfl
  have a2 := ca 2 _ rfl
  have a3 := ca 3 _ rfl
  have a4 := ca 4 _ rfl
  have a5 := ca 5 _ rfl
  replace hB := Lib.hid hB
  have hX : Hid (Cu W b s g cap l k) := Lib.hid (hW ▸ h.alloc _)
  clear ca hz h hs ha hw
  go_enter Tryz.func104, Tryz.ntmps104
  go_upto_region 1 with (fail)
  rw [← hW, ← plus_self W]
  clear hW
  go_wp2_with fail
  refine (hF.out _ (hX.out.plus _)).mono ?_
  rintro e w' ⟨rfl, y, rfl⟩
  rw [plus_plus]
  go_wp2
  exact ⟨rfl, rfl, plus_of_below (hB.out.trans ((below_plus W _).mono hB.out.size))⟩
theorem cur_bare_any (h : Cu w b s g cap l k) (t : Tok) (least most : Nat) (e0 : Int) (he : ¬ e0 = 0) (hs : s.size ≤ 140737488355328) (ha : t.at_ ≤ s.size) (hN : t.n < 340282366920938463463374607431768211456) (hb : most ≤ 9223372036854775807) (hlm : least ≤ most) :
    Calls Tryz.prog 104 #[.pointer (some ⟨b, 0, none⟩), tokA t, .int .i64 (least : Int), .int .i64 (most : Int), .int .i64 e0] w (CuEnds w b s g cap l (bareM t k least most e0) fun n => .int .i64 (n : Int)) := by
  unfold bareM
  by_cases hw : t.w = 0
  · by_cases hn : least ≤ t.n ∧ t.n ≤ most
    · have e : bareE t least most e0 = 0 := by unfold bareE; rw [if_neg (by omega), if_pos hn]
      rw [if_pos e]
      refine (cur_bare t least most e0 hw hn.1 hn.2 hb b w).mono ?_
      rintro e w' ⟨rfl, x, rfl⟩
      exact ⟨rfl, grown_plus_any _ _ _, h.plus x⟩
    · have e : bareE t least most e0 = e0 := by unfold bareE; rw [if_neg (by omega), if_neg hn]
      rw [e, if_neg he]
      have hG : Calls Tryz.prog 104 #[.pointer (some ⟨b, 0, none⟩), tokA t, .int .i64 (least : Int), .int .i64 (most : Int), .int .i64 e0] w (Gives w e0 (lineOf s t.at_ : Nat) (colOf s t.at_ : Nat)) := by
        by_cases h1 : t.n < least
        · exact cur_bare_low h t least most e0 he hs ha hw hN hb hlm h1
        · by_cases h2 : t.n < 18446744073709551616
          · exact cur_bare_mid h t least most e0 he hs ha hw hN hb hlm (by unfold hi; omega) (by unfold lo; omega) (by omega) (by omega)
          · exact cur_bare_high h t least most e0 he hs ha hw hN hb hlm (by omega)
      refine hG.mono ?_
      rintro e w' ⟨rfl, x, rfl⟩
      exact ⟨rfl, grown_plus_any _ _ _⟩
  · have e : bareE t least most e0 = 10 := by unfold bareE; rw [if_pos hw]
    rw [e, if_neg (by decide)]
    refine (cur_bare_wide h t least most e0 hs ha hw).mono ?_
    rintro e w' ⟨rfl, x, rfl⟩
    exact ⟨rfl, grown_plus_any _ _ _⟩
end
end Go.Proofs.YtkffjjlmoojffaaGreatDoor
