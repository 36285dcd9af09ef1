/-
  WHAT IS PROVED HERE: a part of the proof of the claim's theorem: NetR.
-/
import Derived.Test.YtkffjjlmoojffaaGreatDoorRows
import Derived.Test.YtkffjjlmoojffaaGreatDoorB25
set_option linter.all false
namespace Go.Proofs.YtkffjjlmoojffaaGreatDoor
open Go.RowKit
section
variable {w w' : World} {rb cb : Nat} {sw po li lk : Value} {s : ByteArray} {g cap : Nat} {l : List Tok} {k : Nat}
set_option maxRecDepth 100000 in
set_option maxHeartbeats 4000000 in
theorem tp_newPort (hl : TL l s.size) (hs : s.size ≤ 140737488355328) (hcr : cb < rb) (hR : w.cell? ⟨rb, 0, none⟩ = some (.pointer (some ⟨cb, 0, none⟩))) (hlt : rb < w.heap.size) (h : Cu w cb s g cap l k) (hk : k < l.length) (p : Option Addr) (n c : Nat) (ps : List Int) (hn : ps.length = n) (hb : ps.length ≤ 1048576) (hP : ∀ W, w.grownBy W (some cb) → Lies W 1 intC (.slice p n c) ps) :
    Calls Tryz.prog 67 #[.pointer (some ⟨rb, 0, none⟩), .slice p n c] w (CuEnds w cb s g cap l (newPortM l k ps) fun a => .int .i64 a) := by
  have hRg : Hid (∀ W, w.grownBy W (some cb) → W.cell? ⟨rb, 0, none⟩ = some (.pointer (some ⟨cb, 0, none⟩)) ∧ rb < W.heap.size) := Lib.hid fun W hg => ⟨(grown_cell hg 0 hlt (by omega)).trans hR, Nat.lt_of_lt_of_le hlt hg.size⟩
  obtain ⟨t, ht⟩ : ∃ t, l[k]? = some t := ⟨_, List.getElem?_eq_getElem hk⟩
  have hgt := getT_of ht
  have hat := hl.at_ _ _ ht
  have htn := hl.n _ _ ht
  have hNu := cur_number h ht (fun e => next_lt hl k hk (by rw [hgt, e]; decide)) hs hat
  have hcl := h.lt
  unfold newPortM
  by_cases hk2 : t.kind = 2
  · have hM : numM l k = .ok t (k + 1) := by unfold numM; rw [hgt, if_pos hk2]
    have hk1 : k + 1 < l.length := next_lt hl k hk (by rw [hgt, hk2]; decide)
    rw [hM] at hNu ⊢
    rw [Rs.bind_ok rfl]
    obtain ⟨K, hK⟩ : ∃ K, (t.kind : Int) = K := ⟨_, rfl⟩
    have hTA : Hid (tokA t = .agg #[.int .u8 K, .string t.s, .int .i64 t.w, .int .u64 (hi t.n), .int .u64 (lo t.n), .int .i64 (t.at_ : Int)]) := by show _ = _; rw [← hK]
    have hNu' : Hid (Calls Tryz.prog 88 #[.pointer (some ⟨cb, 0, none⟩)] w fun e w' => e = .returned (.agg #[.int .u8 K, .string t.s, .int .i64 t.w, .int .u64 (hi t.n), .int .u64 (lo t.n), .int .i64 (t.at_ : Int)]) ∧ w.grownBy w' (some cb) ∧ Cu w' cb s g cap l (k + 1)) := Lib.hid (hNu.mono (fun e w' hE => by obtain ⟨h1, h2, h3⟩ := hE; exact ⟨by rw [h1, hTA.out], h2, h3⟩))
    have hNo := Lib.hid (fun (W : World) (h : Cu W cb s g cap l (k + 1)) => cur_needAt h t 5 (by decide) hs hat)
    have hNo8 := Lib.hid (fun (W : World) (j : Nat) (h : Cu W cb s g cap l j) => cur_needAt h t 8 (by decide) hs hat)
    have hYes := Lib.hid (fun e0 w => cur_needAt_yes t e0 cb w)
    have hPo := Lib.hid (fun (W : World) (hr : W.cell? ⟨rb, 0, none⟩ = some (.pointer (some ⟨cb, 0, none⟩))) (h1 : rb < W.heap.size) (h : Cu W cb s g cap l (k + 1)) => tp_port hr h1 h t hs hat htn)
    rw [hTA.out] at hNo hNo8 hYes hPo
    have hP' := Lib.hid hP
    have hn' := Lib.hid hn
    clear hNu h hP hl hgt ht hk hk2 hM hk1 hK htn hn
    by_cases h8 : ps.length < 8
    · rw [if_neg (by omega)]
      have q8 : decide (n < 8) = true := decide_eq_true (by have := hn'.out; omega)
      have q8' : (n : Int) < 8 := by have := hn'.out; omega
      obtain ⟨R, hRR⟩ : ∃ R, bareM t (k + 1) 1 511 5 = R := ⟨_, rfl⟩
      rw [hRR] at hPo ⊢
      obtain ⟨RT, hRT⟩ : ∃ RT : Rs Int, (R.bind fun m k2 => if ((m : Int) ∈ ps) then .bad t.at_ 8 else .ok (m : Int) k2) = RT := ⟨_, rfl⟩
      rw [hRT]
      replace hRT := Lib.hid hRT
      have hat' := Lib.hid hat
      have hb' := Lib.hid hb
      clear hRR h8 hat hb
      go_enter Tryz.func67, Tryz.ntmps67
      go_wp2_with fail
      refine hNu'.out.mono ?_
      rintro e X1 ⟨rfl, hg1, hX1⟩
      clear hR
      go_upto_region 2 with (fail)
      have hK5 := (Kn.nil cb X1).new hX1.lt [.int .u8 K, .string t.s, .int .i64 t.w, .int .u64 (hi t.n), .int .u64 (lo t.n), .int .i64 (t.at_ : Int)] 60
      have hXW := hX1.alloc (.cells #[.int .u8 K, .string t.s, .int .i64 t.w, .int .u64 (hi t.n), .int .u64 (lo t.n), .int .i64 (t.at_ : Int)] 60)
      have hgW := grown_trans hg1 (grown_alloc X1 (.cells #[.int .u8 K, .string t.s, .int .i64 t.w, .int .u64 (hi t.n), .int .u64 (lo t.n), .int .i64 (t.at_ : Int)] 60) (some cb))
      change Kn cb _ (X1.alloc (.cells #[.int .u8 K, .string t.s, .int .i64 t.w, .int .u64 (hi t.n), .int .u64 (lo t.n), .int .i64 (t.at_ : Int)] 60)) at hK5
      obtain ⟨W, hW⟩ : ∃ W, X1.alloc (.cells #[.int .u8 K, .string t.s, .int .i64 t.w, .int .u64 (hi t.n), .int .u64 (lo t.n), .int .i64 (t.at_ : Int)] 60) = W := ⟨_, rfl⟩
      rw [hW] at hK5 hXW hgW ⊢
      clear hW hg1 hX1
      generalize X1.heap.size = z5 at hK5 ⊢
      have r0 := fun y => (hRg.out (Go.Proofs.YtkffjjlmoojffaaGreatDoor.plus W y) (grown_trans hgW (grown_plus_any _ _ _))).1
      have a0 := fun y => (hK5.plus y).cell z5 _ (.head _) 0 _ rfl
      have a1 := fun y => (hK5.plus y).cell z5 _ (.head _) 1 _ rfl
      have a2 := fun y => (hK5.plus y).cell z5 _ (.head _) 2 _ rfl
      have a3 := fun y => (hK5.plus y).cell z5 _ (.head _) 3 _ rfl
      have a4 := fun y => (hK5.plus y).cell z5 _ (.head _) 4 _ rfl
      have a5 := fun y => (hK5.plus y).cell z5 _ (.head _) 5 _ rfl
      replace hK5 := Lib.hid hK5
      replace hXW := Lib.hid hXW
      replace hgW := Lib.hid hgW
      refine wp_region_own_tail0 8 (by kernel_rfl) (by kernel_rfl) ?_
      simp only [List.take_succ_cons, List.take_zero, List.drop_succ_cons, List.drop_zero]
      repeat (go_big_quiet_step (fail))
      refine wpQuiet_nil ?_
      rintro _ ⟨y, rfl⟩
      go_wp2_with fail
      refine (hYes.out _ _).mono ?_
      rintro e w' ⟨rfl, x, rfl⟩
      have hK6 := Lib.hid ((hK5.out.plus y).plus x)
      have hX6 := Lib.hid ((hXW.out.plus y).plus x)
      have hg6 := Lib.hid (grown_trans (grown_trans hgW.out (grown_plus_any W y _)) (grown_plus_any _ x _))
      clear a0 a1 a2 a3 a4 a5 r0 hK5 hXW hgW
      generalize Go.Proofs.YtkffjjlmoojffaaGreatDoor.plus (Go.Proofs.YtkffjjlmoojffaaGreatDoor.plus W y) x = V at hK6 hX6 hg6 ⊢
      have a0 := hK6.out.cell z5 _ (.head _) 0 _ rfl
      have a1 := hK6.out.cell z5 _ (.head _) 1 _ rfl
      have a2 := hK6.out.cell z5 _ (.head _) 2 _ rfl
      have a3 := hK6.out.cell z5 _ (.head _) 3 _ rfl
      have a4 := hK6.out.cell z5 _ (.head _) 4 _ rfl
      have a5 := hK6.out.cell z5 _ (.head _) 5 _ rfl
      go_wp2_with fail
      refine (hPo.out _ (hRg.out _ hg6.out).1 (hRg.out _ hg6.out).2 hX6.out).mono ?_
      intro e w2 hE
      cases R with
      | bad q E =>
        obtain ⟨rfl, hg2⟩ := hE
        replace hg2 := Lib.hid hg2
        obtain rfl : RT = .bad q E := hRT.out.symm
        go_wp2
        exact ⟨rfl, rfl, grown_trans hg6.out hg2.out⟩
      | ok m k' =>
        obtain ⟨rfl, hg2, hX2⟩ := hE
        have hK7 := hK6.out.grown hg2
        have hg7 := grown_trans hg6.out hg2
        have r0 := fun y => (hRg.out (Go.Proofs.YtkffjjlmoojffaaGreatDoor.plus w2 y) (grown_trans hg7 (grown_plus_any _ _ _))).1
        clear a0 a1 a2 a3 a4 a5
        have a0 := fun y => (hK7.plus y).cell z5 _ (.head _) 0 _ rfl
        have a1 := fun y => (hK7.plus y).cell z5 _ (.head _) 1 _ rfl
        have a2 := fun y => (hK7.plus y).cell z5 _ (.head _) 2 _ rfl
        have a3 := fun y => (hK7.plus y).cell z5 _ (.head _) 3 _ rfl
        have a4 := fun y => (hK7.plus y).cell z5 _ (.head _) 4 _ rfl
        have a5 := fun y => (hK7.plus y).cell z5 _ (.head _) 5 _ rfl
        have hC := Lib.hid (fun y => (tp_contains (w := Go.Proofs.YtkffjjlmoojffaaGreatDoor.plus w2 y) (.slice p n c) ps (m : Int) (hP'.out _ (grown_trans hg7 (grown_plus_any _ _ _))) hb'.out).mono (fun _ _ ⟨he, hz⟩ => (⟨he, y, hz⟩ : (_ = Ending.returned (.bool (decide ((m : Int) ∈ ps)))) ∧ ∃ z, _ = Go.Proofs.YtkffjjlmoojffaaGreatDoor.plus w2 z)))
        obtain ⟨B, hB⟩ : ∃ B, decide ((m : Int) ∈ ps) = B := ⟨_, rfl⟩
        rw [hB] at hC
        replace hB := Lib.hid hB
        replace hK7 := Lib.hid hK7
        replace hX2 := Lib.hid hX2
        replace hg7 := Lib.hid hg7
        clear hg2 hK6 hX6 hg6
        go_upto_region 4 with (fail)
        refine wp_region_own_tail0 9 (by kernel_rfl) (by kernel_rfl) ?_
        simp only [List.take_succ_cons, List.take_zero, List.drop_succ_cons, List.drop_zero]
        repeat (go_big_quiet_step (first | (with_reducible exact hC.out _)))
        refine wpQuiet_nil ?_
        rintro _ ⟨y2, rfl⟩
        cases B with
        | true =>
          obtain rfl : RT = .bad t.at_ 8 := hRT.out.symm.trans (if_pos (of_decide_eq_true hB.out))
          go_wp2_with fail
          refine (hNo8.out _ _ (hX2.out.plus y2)).mono ?_
          rintro e w3 ⟨rfl, x3, rfl⟩
          go_wp2
          exact ⟨rfl, rfl, grown_trans (grown_trans hg7.out (grown_plus_any _ _ _)) (grown_plus_any _ _ _)⟩
        | false =>
          obtain rfl : RT = .ok (m : Int) k' := hRT.out.symm.trans (if_neg (of_decide_eq_false hB.out))
          go_wp2_with fail
          refine (hYes.out _ _).mono ?_
          rintro e w3 ⟨rfl, x3, rfl⟩
          go_wp2
          go_ret
          exact ⟨rfl, grown_trans (grown_trans hg7.out (grown_plus_any _ _ _)) (grown_plus_any _ _ _), (hX2.out.plus y2).plus x3⟩
    · rw [if_pos h8]
      have q8' : decide ((n : Int) < 8) = false := decide_eq_false (by have := hn'.out; omega)
      have q8 : decide (n < 8) = false := decide_eq_false (by have := hn'.out; omega)
      clear h8 hb hPo hNo8 hYes hat hP'
      go_enter Tryz.func67, Tryz.ntmps67
      go_wp2_with fail
      refine hNu'.out.mono ?_
      rintro e X1 ⟨rfl, hg1, hX1⟩
      clear hR
      go_upto_region 2 with (fail)
      have hK5 := (Kn.nil cb X1).new hX1.lt [.int .u8 K, .string t.s, .int .i64 t.w, .int .u64 (hi t.n), .int .u64 (lo t.n), .int .i64 (t.at_ : Int)] 60
      have hXW := hX1.alloc (.cells #[.int .u8 K, .string t.s, .int .i64 t.w, .int .u64 (hi t.n), .int .u64 (lo t.n), .int .i64 (t.at_ : Int)] 60)
      have hgW := grown_trans hg1 (grown_alloc X1 (.cells #[.int .u8 K, .string t.s, .int .i64 t.w, .int .u64 (hi t.n), .int .u64 (lo t.n), .int .i64 (t.at_ : Int)] 60) (some cb))
      change Kn cb _ (X1.alloc (.cells #[.int .u8 K, .string t.s, .int .i64 t.w, .int .u64 (hi t.n), .int .u64 (lo t.n), .int .i64 (t.at_ : Int)] 60)) at hK5
      obtain ⟨W, hW⟩ : ∃ W, X1.alloc (.cells #[.int .u8 K, .string t.s, .int .i64 t.w, .int .u64 (hi t.n), .int .u64 (lo t.n), .int .i64 (t.at_ : Int)] 60) = W := ⟨_, rfl⟩
      rw [hW] at hK5 hXW hgW ⊢
      clear hW hg1 hX1
      generalize X1.heap.size = z5 at hK5 ⊢
      have r0 := fun y => (hRg.out (Go.Proofs.YtkffjjlmoojffaaGreatDoor.plus W y) (grown_trans hgW (grown_plus_any _ _ _))).1
      have a0 := fun y => (hK5.plus y).cell z5 _ (.head _) 0 _ rfl
      have a1 := fun y => (hK5.plus y).cell z5 _ (.head _) 1 _ rfl
      have a2 := fun y => (hK5.plus y).cell z5 _ (.head _) 2 _ rfl
      have a3 := fun y => (hK5.plus y).cell z5 _ (.head _) 3 _ rfl
      have a4 := fun y => (hK5.plus y).cell z5 _ (.head _) 4 _ rfl
      have a5 := fun y => (hK5.plus y).cell z5 _ (.head _) 5 _ rfl
      replace hK5 := Lib.hid hK5
      replace hXW := Lib.hid hXW
      replace hgW := Lib.hid hgW
      refine wp_region_own_tail0 8 (by kernel_rfl) (by kernel_rfl) ?_
      simp only [List.take_succ_cons, List.take_zero, List.drop_succ_cons, List.drop_zero]
      repeat (go_big_quiet_step (fail))
      refine wpQuiet_nil ?_
      rintro _ ⟨y, rfl⟩
      go_wp2_with fail
      refine (hNo.out _ (hXW.out.plus y)).mono ?_
      rintro e w3 ⟨rfl, x3, rfl⟩
      go_wp2
      exact ⟨rfl, rfl, grown_trans (grown_trans hgW.out (grown_plus_any _ _ _)) (grown_plus_any _ _ _)⟩
  · have hM : numM l k = .bad t.at_ 4 := by unfold numM; rw [hgt, if_neg hk2]
    rw [hM] at hNu ⊢
    rw [Rs.bind_bad rfl]
    have hNu' := Lib.hid hNu
    clear hNu h hP hl hgt ht hk hk2 hM hat htn
    go_enter Tryz.func67, Tryz.ntmps67
    go_wp2_with fail
    refine hNu'.out.mono ?_
    rintro e X1 ⟨rfl, hg1⟩
    have hg1' := Lib.hid hg1
    clear hg1
    go_wp2
    exact ⟨rfl, rfl, hg1'.out⟩
end
end Go.Proofs.YtkffjjlmoojffaaGreatDoor
