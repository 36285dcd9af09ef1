/-
  WHAT IS PROVED HERE: a part of the proof of the claim's theorem: NetV.
-/
import Derived.Test.YtkffjjlmoojffaaGreatDoorRows
import Derived.Test.YtkffjjlmoojffaaGreatDoorB28
set_option linter.all false
namespace Go.Proofs.YtkffjjlmoojffaaGreatDoor
open Go.RowKit
theorem grown_over {V W W' : World} {r r' : Option Nat} (h : V.grownBy W r) (h2 : W.grownBy W' r') (hr : ∀ k, r' = some k → V.heap.size ≤ k) : V.grownBy W' r :=
  ⟨h2.os.trans h.os, h2.tape.trans h.tape, h2.output.trans h.output, Nat.le_trans h.size h2.size, fun k hk hk2 => (h2.block k (Nat.lt_of_lt_of_le hk h.size) (fun e => by have := hr k e.symm; omega)).trans (h.block k hk hk2)⟩
def cMeas (W : World) (cb : Nat) : Nat := match W.cell? ⟨cb, 1, none⟩ with
  | some (.slice _ m _) => m
  | _ => 0
theorem cMeas_of {W : World} {cb : Nat} {s : ByteArray} {g cap : Nat} {l : List Tok} {k : Nat} (h : Cu W cb s g cap l k) : cMeas W cb = l.length - k := by unfold cMeas; rw [h.c1]
section
variable {rb cb : Nat} {s : ByteArray} {g cap : Nat} {l : List Tok} {W5 w0 W W' : World} {sw po li lk : Value} {pvs : List Sl3} {n : Net'} {linked : List End'} {k : Nat}
theorem PI.bel (h : PI rb cb s g cap l W5 sw po li lk pvs n linked k W) (hg : W.grownBy W' (some cb)) : Below cb W5 W' :=
  h.below.grown hg (by have := h.cu.lt; omega) (fun k e => by have := Option.some.inj e; omega)
theorem newPortM_ok (hl : TL l s.size) {k : Nat} (hk : k < l.length) {ps : List Int} {a : Int} {k' : Nat} (e : newPortM l k ps = .ok a k') : k' < l.length ∧ ps.length < 8 ∧ k' = k + 1 := by
  unfold newPortM at e
  cases h1 : numM l k with
  | bad _ _ => rw [h1, Rs.bind_bad rfl] at e; cases e
  | ok t k1 =>
    rw [h1, Rs.bind_ok rfl] at e
    have h2 := (numM_ok hl hk h1).1
    have h3 : k1 = k + 1 := by
      unfold numM at h1
      split at h1
      · cases h1; rfl
      · cases h1
    split at e
    · cases e
    · rename_i h8
      cases h4 : bareM t k1 1 511 5 with
      | bad _ _ => rw [h4, Rs.bind_bad rfl] at e; cases e
      | ok p k4 =>
        rw [h4, Rs.bind_ok rfl] at e
        have : k4 = k1 := by
          unfold bareM at h4
          split at h4
          · cases h4; rfl
          · cases h4
        subst this
        split at e
        · cases e
        · cases e
          exact ⟨h2, by omega, h3⟩
theorem wantM_eq {k : Nat} {x : ByteArray} {a : Unit} {k' : Nat} (e : wantM l k x = .ok a k') : k' = k + 1 := by
  unfold wantM at e
  split at e
  · cases e; rfl
  · cases e
set_option maxRecDepth 100000 in
set_option maxHeartbeats 16000000 in
theorem tp_node (hl : TL l s.size) (hs : s.size ≤ 140737488355328) (h : PI rb cb s g cap l W5 sw po li lk pvs n linked k w0) (hk : k < l.length) (hb1 : n.names.length ≤ 1048575) (hb2 : n.ports.length ≤ 1048575) :
    Calls Tryz.prog 42 #[.pointer (some ⟨rb, 0, none⟩)] w0 (PEnds rb cb s g cap l W5 (nodeM l k n) (fun _ => .tuple #[]) id (fun _ => linked) (fun _ => True)) := by
  obtain ⟨RT, hRT⟩ : ∃ R, nodeM l k n = R := ⟨_, rfl⟩
  rw [hRT]
  unfold nodeM at hRT
  obtain ⟨t, ht⟩ : ∃ t, getT l k = t := ⟨_, rfl⟩
  have hgt := getT_get k hk
  rw [ht] at hgt
  have hat := hl.at_ k _ hgt
  obtain ⟨p1, c1, rfl⟩ := own_sl3 h.ni.sw
  obtain ⟨p2, c2, rfl⟩ := own_sl3 h.ni.po
  obtain ⟨p3, c3, rfl⟩ := own_sl3 h.ni.li
  obtain ⟨n1, hn1⟩ : ∃ m, n.names.length = m := ⟨_, rfl⟩
  obtain ⟨n2, hn2⟩ : ∃ m, pvs.length = m := ⟨_, rfl⟩
  obtain ⟨n3, hn3⟩ : ∃ m, n.links.length = m := ⟨_, rfl⟩
  rw [hn1, hn2, hn3] at h
  have r0 := fun y => (h.plus y).rp.c0
  have r1 := fun y => (h.plus y).rp.c1
  have hNeed := Lib.hid (fun y => cur_need (h.cu.plus y) hgt 5 (by decide) hs hat)
  have hNeedY := Lib.hid (fun y => cur_need_yes (h.cu.plus y) hgt 5)
  have hl' := Lib.hid hl
  have hs' := Lib.hid hs
  have hH := Lib.hid h
  have hn1' := Lib.hid hn1
  have hn2' := Lib.hid hn2
  have hn3' := Lib.hid hn3
  have hbs : Hid (n.names.length ≤ 1048575 ∧ n.ports.length ≤ 1048575) := Lib.hid ⟨hb1, hb2⟩
  have hk' := Lib.hid hk
  by_cases h8 : n1 < 8
  · rw [hn1, if_neg (by omega)] at hRT
    have q8 : decide (n1 < 8) = true := decide_eq_true h8
    have q8' : (n1 : Int) < 8 := by omega
    replace hRT := Lib.hid hRT
    clear hl hs h hk hb1 hb2 hn1 hn2 hn3 h8 hat hgt ht hNeed
    go_enter Tryz.func42, Tryz.ntmps42
    go_upto_region 0 with (fail)
    refine wp_region_own_tail0 11 (by kernel_rfl) (by kernel_rfl) ?_
    simp only [List.take_succ_cons, List.take_zero, List.drop_succ_cons, List.drop_zero]
    repeat (go_big_quiet_step (fail))
    refine wpQuiet_nil ?_
    rintro _ ⟨y0, rfl⟩
    go_wp2_with fail
    refine (hNeedY.out y0).mono ?_
    rintro e w1 ⟨rfl, x0, rfl⟩
    have hP0 := (hH.out.plus y0).plus x0
    obtain ⟨V0, hV0⟩ : ∃ W, Go.Proofs.YtkffjjlmoojffaaGreatDoor.plus (Go.Proofs.YtkffjjlmoojffaaGreatDoor.plus w0 y0) x0 = W := ⟨_, rfl⟩
    rw [hV0] at hP0 ⊢
    clear hV0 r0 r1 hNeedY hH q8 q8'
    have r0 := hP0.rp.c0
    have hW := cu_want hl'.out hs'.out wSwitch w_ok.1 (hP0.cu.alloc (.cells #[.string ⟨#[115, 119, 105, 116, 99, 104]⟩] 9)) hk'.out V0.heap.size (cell_new V0 #[.string ⟨#[115, 119, 105, 116, 99, 104]⟩] 9 V0.heap.size 0 rfl)
    obtain ⟨RW, hRW⟩ : ∃ R, wantM l k wSwitch = R := ⟨_, rfl⟩
    have hRT0 := hRT.out
    rw [hRW] at hRT0 hW
    replace hRT0 := Lib.hid hRT0
    replace hW := Lib.hid hW
    have hH := Lib.hid (hP0.alloc (.cells #[.string ⟨#[115, 119, 105, 116, 99, 104]⟩] 9))
    clear hP0 hRT hRW
    go_wp2_with fail
    refine hW.out.mono ?_
    rintro e V1 ⟨hE, hlt⟩
    clear hW
    cases RW with
    | bad q E =>
      obtain ⟨rfl, hg9⟩ := hE
      obtain rfl : RT = .bad q E := hRT0.out.symm
      have hB := Lib.hid (hH.out.bel hg9)
      clear hg9 hlt r0
      go_wp2
      exact ⟨rfl, rfl, hB.out⟩
    | ok u1 k1 =>
      obtain ⟨rfl, hg9, hX1⟩ := hE
      have hk1 := hlt _ _ rfl
      have hP1 := hH.out.step hg9 hX1
      have hRT1 := hRT0.out
      rw [Rs.bind_ok rfl] at hRT1
      obtain ⟨t1, ht1⟩ : ∃ t, getT l k1 = t := ⟨_, rfl⟩
      have hgt1 := getT_get k1 hk1
      rw [ht1] at hgt1
      have hat1 := hl'.out.at_ k1 _ hgt1
      obtain ⟨K, hK⟩ : ∃ K, (t1.kind : Int) = K := ⟨_, rfl⟩
      have hTA : Hid (tokA t1 = .agg #[.int .u8 K, .string t1.s, .int .i64 t1.w, .int .u64 (hi t1.n), .int .u64 (lo t1.n), .int .i64 (t1.at_ : Int)]) := by show _ = _; rw [← hK]
      have hNx := cur_next hP1.cu hgt1
      rw [hTA.out] at hNx
      have hNo := Lib.hid (fun (W : World) (j : Nat) (hX : Cu W cb s g cap l j) => cur_needAt hX t1 8 (by decide) hs'.out hat1)
      have hYes := Lib.hid (fun e0 w => cur_needAt_yes t1 e0 cb w)
      rw [hTA.out] at hNo hYes
      have hNmk := Lib.hid (fun (W : World) (hX : Cu W cb s g cap l k1) => cu_name hl'.out hs'.out hX hk1)
      obtain ⟨RN, hRN⟩ : ∃ R, nameM l k1 = R := ⟨_, rfl⟩
      rw [hRN, ht1] at hRT1
      rw [hRN] at hNmk
      have hNl : Hid (∀ x k2, RN = .ok x k2 → k2 < l.length) := Lib.hid (fun x k2 e => nameM_lt hl'.out hk1 (hRN.trans e))
      replace hRT1 := Lib.hid hRT1
      replace hNx := Lib.hid hNx
      have r0 := hP1.rp.c0
      replace hP1 := Lib.hid hP1
      clear hlt hg9 hX1 hRT0 hH ht1 hgt1 hat1 hK hRN hk1 
      go_wp2_with fail
      refine hNx.out.mono ?_
      rintro e w2 ⟨rfl, y2, rfl⟩
      have hP2 := hP1.out.plus y2
      obtain ⟨V2, hV2⟩ : ∃ W, Go.Proofs.YtkffjjlmoojffaaGreatDoor.plus V1 y2 = W := ⟨_, rfl⟩
      rw [hV2] at hP2 ⊢
      clear hV2 hP1 r0 hNx
      go_upto_region 3 with (fail)
      have hP3 := hP2.alloc (.cells #[.int .u8 K, .string t1.s, .int .i64 t1.w, .int .u64 (hi t1.n), .int .u64 (lo t1.n), .int .i64 (t1.at_ : Int)] 60)
      have hz3 := (Kn.nil cb V2).new hP2.cu.lt [.int .u8 K, .string t1.s, .int .i64 t1.w, .int .u64 (hi t1.n), .int .u64 (lo t1.n), .int .i64 (t1.at_ : Int)] 60
      change Kn cb _ (V2.alloc (.cells #[.int .u8 K, .string t1.s, .int .i64 t1.w, .int .u64 (hi t1.n), .int .u64 (lo t1.n), .int .i64 (t1.at_ : Int)] 60)) at hz3
      obtain ⟨V3, hV3⟩ : ∃ W, V2.alloc (.cells #[.int .u8 K, .string t1.s, .int .i64 t1.w, .int .u64 (hi t1.n), .int .u64 (lo t1.n), .int .i64 (t1.at_ : Int)] 60) = W := ⟨_, rfl⟩
      rw [hV3] at hP3 hz3 ⊢
      clear hV3 hP2
      generalize V2.heap.size = zt at hz3 ⊢
      have r0 := hP3.rp.c0
      have hNm := Lib.hid (hNmk.out V3 hP3.cu)
      replace hP3 := Lib.hid hP3
      replace hz3 := Lib.hid hz3
      clear hNmk
      go_wp2_with fail
      refine hNm.out.mono ?_
      intro e V4 hE
      clear hNm
      cases RN with
      | bad q E =>
        obtain ⟨rfl, hg9⟩ := hE
        obtain rfl : RT = .bad q E := hRT1.out.symm
        have hB := Lib.hid (hP3.out.bel hg9)
        clear hg9 r0
        go_wp2
        exact ⟨rfl, rfl, hB.out⟩
      | ok x k2 =>
        obtain ⟨rfl, hg9, hX4⟩ := hE
        have hk2 := hNl.out _ _ rfl
        have hP4 := hP3.out.step hg9 hX4
        have hz4 := hz3.out.grown hg9
        have hRT2 := hRT1.out
        rw [Rs.bind_ok rfl] at hRT2
        obtain ⟨B4, hB4⟩ : ∃ B, decide (findF n.names x < 0) = B := ⟨_, rfl⟩
        obtain ⟨i, hii⟩ : ∃ i, findF n.names x = i := ⟨_, rfl⟩
        rw [hii] at hRT2 hB4
        have hFi : Hid (∀ y, Calls Tryz.prog 65 #[.agg #[.slice p1 n1 c1, .slice p2 n2 c2, .slice p3 n3 c3], .string x] (Go.Proofs.YtkffjjlmoojffaaGreatDoor.plus V4 y) (fun e w' => e = .returned (.int .i64 i) ∧ ∃ z, w' = Go.Proofs.YtkffjjlmoojffaaGreatDoor.plus V4 z)) := Lib.hid (fun y => (tp_find (w := Go.Proofs.YtkffjjlmoojffaaGreatDoor.plus V4 y) (.slice p1 n1 c1) n.names x p2 p3 n2 c2 n3 c3 (hP4.ni.ok (b := cb) (by have := hP4.cr; omega) _ (grown_plus_any _ y _)).1 (by have := hbs.out.1; omega)).mono (fun e w' ⟨he, z, hz⟩ => ⟨by rw [he, hii], _, hz.trans (plus_plus _ _ _)⟩))
        have q4 := hB4
        replace hB4 := Lib.hid hB4
        have r0 := fun y => (hP4.plus y).rp.c0
        have r1 := fun y => (hP4.plus y).rp.c1
        have r2 := fun y => (hP4.plus y).rp.c2
        have r3 := fun y => (hP4.plus y).rp.c3
        have a0 := fun y => (hz4.plus y).cell zt _ (.head _) 0 _ rfl
        have a1 := fun y => (hz4.plus y).cell zt _ (.head _) 1 _ rfl
        have a2 := fun y => (hz4.plus y).cell zt _ (.head _) 2 _ rfl
        have a3 := fun y => (hz4.plus y).cell zt _ (.head _) 3 _ rfl
        have a4 := fun y => (hz4.plus y).cell zt _ (.head _) 4 _ rfl
        have a5 := fun y => (hz4.plus y).cell zt _ (.head _) 5 _ rfl
        replace hP4 := Lib.hid hP4
        replace hRT2 := Lib.hid hRT2
        have hk2' := Lib.hid hk2
        clear hg9 hX4 hk2 hz4 hz3 hP3 hii hRT1 hNl
        go_upto_region 4 with (fail)
        refine wp_region_own_tail0 12 (by kernel_rfl) (by kernel_rfl) ?_
        simp only [List.take_succ_cons, List.take_zero, List.drop_succ_cons, List.drop_zero]
        repeat (go_big_quiet_step (first | (with_reducible exact hFi.out _)))
        refine wpQuiet_nil ?_
        rintro _ ⟨y4, rfl⟩
        clear r0 r1 r2 r3 a0 a1 a2 a3 a4 a5 q4 hFi
        have hP5 := hP4.out.plus y4
        obtain ⟨V5, hV5⟩ : ∃ W, Go.Proofs.YtkffjjlmoojffaaGreatDoor.plus V4 y4 = W := ⟨_, rfl⟩
        rw [hV5] at hP5 ⊢
        clear hV5 hP4
        cases B4 with
        | false =>
          obtain rfl : RT = .bad t1.at_ 8 := hRT2.out.symm.trans (if_pos (by have := of_decide_eq_false hB4.out; omega))
          have hcu := hP5.cu
          replace hP5 := Lib.hid hP5
          go_wp2_with fail
          refine (hNo.out _ _ hcu).mono ?_
          rintro e w3 ⟨rfl, x3, rfl⟩
          clear hcu
          go_wp2
          exact ⟨rfl, rfl, hP5.out.bel (grown_plus_any _ _ _)⟩
        | true =>
          have hRT3 := hRT2.out
          rw [if_neg (by have := of_decide_eq_true hB4.out; omega)] at hRT3
          replace hRT3 := Lib.hid hRT3
          replace hP5 := Lib.hid hP5
          clear hRT2 hB4 hNo
          go_wp2_with fail
          refine (hYes.out _ _).mono ?_
          rintro e w3 ⟨rfl, x3, rfl⟩
          have hP6 := hP5.out.plus x3
          obtain ⟨V6, hV6⟩ : ∃ W, Go.Proofs.YtkffjjlmoojffaaGreatDoor.plus V5 x3 = W := ⟨_, rfl⟩
          rw [hV6] at hP6 ⊢
          clear hV6 hP5 hYes
          have r0 := hP6.rp.c0
          have r1 := hP6.rp.c1
          have r1a := (hP6.alloc (.cells #[.string x] 9)).rp.c1
          have hRA : Hid (PI rb cb s g cap l W5 (.slice p1 n1 c1) (.slice p2 n2 c2) (.slice p3 n3 c3) lk pvs n linked k2 (V6.alloc (.cells #[.string x] 9))) := Lib.hid (hP6.alloc (.cells #[.string x] 9))
          have hown : Hid ((V6.alloc (.cells #[.string x] 9)).ownsRow (rb + 1) 9 1 (.slice p1 n1 c1) n1 ((n.names.map strC).flatten)) := Lib.hid (by have := hRA.out.ni.sw; unfold Own at this; rwa [hn1'.out] at this)
          have hszE : Hid (rb + 1 ≤ V6.heap.size) := Lib.hid hP6.rp.lt
          have hv : Hid (∀ k, (Value.slice p1 n1 c1).ownBlock = some k → rb + 1 ≤ k) := Lib.hid (fun k e => (hP6.ni.sw.lt k e).1)
          clear hP6
          go_wp2_with (at_builtin; refine rowApp strC 9 23 1 16 (.string ⟨#[]⟩) Tryz.underlying23 str_info rfl (by decide) (by decide) strC_len strC_one (.slice p1 n1 c1) n1 hn1'.out hown.out (by have := hszE.out; simp; omega) (Nat.le_succ_of_le hbs.out.1) x V6.heap.size (fun j u hu => (cell_new V6 _ _ _ j rfl).trans (by simpa [strC] using hu)) rfl _ _ rfl rfl rfl ?_)
          intro v10 w11 hown2 hgrow
          obtain ⟨p10, c10, rfl⟩ := own_sl3 hown2
          have hR9 := hRA.out.rpr hgrow hv.out
          have hI := hRA.out.row (i := 1) (u := .slice p10 (n.names ++ [x]).length c10) (sw' := .slice p10 (n.names ++ [x]).length c10) hgrow hv.out (fun _ _ _ hh => own_nonet hRA.out.ni.sw (by decide) hh) (hRA.out.ni.name hgrow hown2) (own_other hRA.out.lk hgrow (own_type hRA.out.lk hRA.out.ni.sw (by decide))) rfl
          have f1 := hR9.c1
          have f3 := hR9.fz
          obtain ⟨m1, hm1⟩ : ∃ m, (n.names ++ [x]).length = m := ⟨_, rfl⟩
          rw [hm1] at hI ⊢
          replace hm1 := Lib.hid hm1
          replace hI := Lib.hid hI
          clear hown hRA hown2 hgrow hR9 r0 r1 r1a hv
          go_upto_region 6 with (fail)
          obtain ⟨V7, hV7⟩ : ∃ W, w11.setCell ⟨rb, 1, none⟩ (.slice p10 m1 c10) = W := ⟨_, rfl⟩
          rw [hV7] at hI ⊢
          clear hV7 f1 f3 hszE
          have r0 := hI.out.rp.c0
          have hW := cu_want hl'.out hs'.out wOpen w_ok.2.2.1 (hI.out.cu.alloc (.cells #[.string ⟨#[123]⟩] 9)) hk2'.out V7.heap.size (cell_new V7 #[.string ⟨#[123]⟩] 9 V7.heap.size 0 rfl)
          obtain ⟨RW, hRW⟩ : ∃ R, wantM l k2 wOpen = R := ⟨_, rfl⟩
          have hRT4 := hRT3.out
          rw [hRW] at hRT4 hW
          replace hRT4 := Lib.hid hRT4
          replace hW := Lib.hid hW
          have hH := Lib.hid (hI.out.alloc (.cells #[.string ⟨#[123]⟩] 9))
          clear hI hRT3 hRW
          go_wp2_with fail
          refine hW.out.mono ?_
          rintro e V8 ⟨hE, hlt⟩
          clear hW
          cases RW with
          | bad q E =>
            obtain ⟨rfl, hg9⟩ := hE
            obtain rfl : RT = .bad q E := hRT4.out.symm
            have hB := Lib.hid (hH.out.bel hg9)
            clear hg9 hlt r0
            go_wp2
            exact ⟨rfl, rfl, hB.out⟩
          | ok u3 k3 =>
            obtain ⟨rfl, hg9, hX8⟩ := hE
            have hk3 := Lib.hid (hlt _ _ rfl)
            have hP8 := Lib.hid (hH.out.step hg9 hX8)
            obtain ⟨RP, hRP⟩ : ∃ R, portsM l (l.length - k3) k3 [] = R := ⟨_, rfl⟩
            have hRT5 := hRT4.out
            rw [Rs.bind_ok rfl, hRP] at hRT5
            replace hRT5 := Lib.hid hRT5
            replace hRP := Lib.hid hRP
            clear hg9 hX8 hlt r0 hH hRT4
            go_wp2
            go_loopw [4] (fun s4 wr => Hid (∃ f k ps p m c, s4 = .slice p m c ∧ ps.length = m ∧ V8.grownBy wr (some cb) ∧ Cu wr cb s g cap l k ∧ Own wr V8.heap.size 3 1 intC (.slice p m c) ps ∧ k < l.length ∧ l.length - k ≤ f ∧ ps.length ≤ 8 ∧ portsM l f k ps = RP)) (fun _ wr => cMeas wr cb)
            case atStart => exact Lib.hid ⟨_, k3, [], none, 0, 0, rfl, rfl, grown_refl _ _, hP8.out.cu, World.ownsRow_nil _ _ _ _, hk3.out, Nat.le_refl _, Nat.zero_le _, hRP.out⟩
            case round =>
              obtain ⟨f, kk, ps, p, m, c, rfl, hm, hgr, hcu, how, hkk, hf, hp8, hres⟩ := hrel.out
              clear hrel hRP
              obtain ⟨f, rfl⟩ : ∃ f', f = f' + 1 := ⟨f - 1, by omega⟩
              have hmeas := Lib.hid (cMeas_of hcu)
              obtain ⟨t5, ht5⟩ : ∃ t, getT l kk = t := ⟨_, rfl⟩
              have hgt5 := getT_get kk hkk
              rw [ht5] at hgt5
              have hSk := cur_skip hcu hgt5 wShut (fun e => want_next hl'.out hkk wShut w_ok.2.2.2.1 (by rw [ht5]; exact e))
              unfold portsM at hres
              have hb8 : Hid (cb < V8.heap.size) := Lib.hid hP8.out.cu.lt
              have r0 := (hP8.out.step hgr hcu).rp.c0
              by_cases hsh : t5.s = wShut
              · rw [if_pos (by unfold isM; rw [ht5]; exact decide_eq_true hsh)] at hres
                rw [decide_eq_true hsh, if_pos hsh] at hSk
                subst hres
                replace hm := Lib.hid hm
                replace hp8 := Lib.hid hp8
                replace hSk := Lib.hid hSk
                replace hgr := Lib.hid hgr
                replace how := Lib.hid how
                clear hcu hkk hf ht5 hgt5 hsh hmeas
                obtain rfl : RT = .ok ⟨n.names ++ [x], n.ports ++ [sortF ps], n.links⟩ (kk + 1) := hRT5.out.symm
                go_wp2_with fail
                refine hSk.out.mono ?_
                rintro e wx ⟨rfl, hgx, hX⟩
                have hox := how.out.kept hgx (own_block how.out cb hb8.out)
                have hgx2 := grown_trans hgr.out hgx
                have hSo := Lib.hid (tp_sort (.slice p m c) ps hox (by have := hp8.out; omega))
                have hlt := Lib.hid (fun k e => (hox.lt k e).1)
                replace hgx2 := Lib.hid hgx2
                replace hX := Lib.hid hX
                clear hgx hox hSk hgr how r0
                go_wp2_with fail
                refine hSo.out.mono ?_
                rintro e wy ⟨rfl, hgy, hoy⟩
                have hgVy := grown_over hgx2.out hgy hlt.out
                have hXy := hX.out.app hP8.out.gb hgy (fun k e => by have := hlt.out k e; have := hb8.out; omega)
                have hPy := hP8.out.step hgVy hXy
                have hlen : Hid ((sortF ps).length = m) := Lib.hid (by rw [← hm.out]; exact List.length_mergeSort _)
                have hrb : Hid (rb + 1 ≤ V8.heap.size) := Lib.hid hP8.out.rp.lt
                have hoz : Hid (Own (wy.alloc (.cells #[.slice p m c] 39)) (rb + 1) 3 1 intC (.slice p m c) (sortF ps)) := Lib.hid (own_base (hoy.kept (grown_alloc wy _ (some cb)) (own_block hoy cb hb8.out)) hrb.out)
                have r0 := hPy.rp.c0
                have r2 := hPy.rp.c2
                have r2a := (hPy.alloc (.cells #[.slice p m c] 39)).rp.c2
                have hRA : Hid (PI rb cb s g cap l W5 (.slice p10 m1 c10) (.slice p2 n2 c2) (.slice p3 n3 c3) lk pvs ⟨n.names ++ [x], n.ports, n.links⟩ linked (kk + 1) (wy.alloc (.cells #[.slice p m c] 39))) := Lib.hid (hPy.alloc (.cells #[.slice p m c] 39))
                have hown : Hid ((wy.alloc (.cells #[.slice p m c] 39)).ownsRow (rb + 1) 39 1 (.slice p2 n2 c2) n2 ((pvs.map slC).flatten)) := Lib.hid (by have := hRA.out.ni.po; unfold Own at this; rwa [hn2'.out] at this)
                have hszE : Hid (rb + 1 ≤ wy.heap.size) := Lib.hid hPy.rp.lt
                have hv : Hid (∀ k, (Value.slice p2 n2 c2).ownBlock = some k → rb + 1 ≤ k) := Lib.hid (fun k e => (hPy.ni.po.lt k e).1)
                have hpl : Hid (pvs.length ≤ 1048576) := Lib.hid (by have := hRA.out.ni.len; have := hbs.out.2; simp at *; omega)
                have hpl2 : Hid ((sortF ps).length ≤ 1048576) := Lib.hid (by have := hlen.out; have := hm.out; have := hp8.out; omega)
                clear hPy hXy hgVy hgy hoy hX hgx2 hSo hlt
                go_wp2_with (at_builtin; refine rowApp slC 39 24 1 24 (.slice none 0 0) Tryz.underlying24 sli_info rfl (by decide) (by decide) slC_len slC_one (.slice p2 n2 c2) n2 hn2'.out hown.out (by have := hszE.out; simp; omega) hpl.out ⟨p, m, c⟩ wy.heap.size (fun j u hu => (cell_new wy _ _ _ j rfl).trans (by simpa [slC] using hu)) rfl _ _ rfl rfl rfl ?_)
                intro v12 w12 hown2 hgrow
                obtain ⟨p12, c12, rfl⟩ := own_sl3 hown2
                have hR9 := hRA.out.rpr hgrow hv.out
                have hoz' := hoz.out
                rw [← hlen.out] at hoz'
                have hI := hRA.out.row (i := 2) (u := .slice p12 (pvs ++ [(⟨p, m, c⟩ : Sl3)]).length c12) (po' := .slice p12 (pvs ++ [(⟨p, m, c⟩ : Sl3)]).length c12) hgrow hv.out (fun _ _ _ hh => own_nonet hRA.out.ni.po (by decide) hh) (hRA.out.ni.port (x := ⟨p, m, c⟩) (ps := sortF ps) hoz.out hpl2.out hgrow hown2) (own_other hRA.out.lk hgrow (own_type hRA.out.lk hRA.out.ni.po (by decide))) rfl
                obtain ⟨m12, hm12⟩ : ∃ m', (pvs ++ [(⟨p, m, c⟩ : Sl3)]).length = m' := ⟨_, rfl⟩
                rw [hm12] at hI ⊢
                replace hm12 := Lib.hid hm12
                have f1 := hR9.c2
                have f3 := hR9.fz
                replace hI := Lib.hid hI
                clear hown hRA hown2 hgrow hR9 r0 r2 r2a hv hoz'
                go_wp2
                refine bodyPost_ret (v := .tuple #[]) ?_ rfl ⟨rfl, ⟨_, _, _, _, _, hI.out⟩, trivial⟩
                simp [results, Tryz.results42, go_sem]
              · rw [if_neg (by unfold isM; rw [ht5, decide_eq_false hsh]; decide)] at hres
                rw [decide_eq_false hsh, if_neg hsh] at hSk
                obtain ⟨RQ, hRQ⟩ : ∃ R, newPortM l kk ps = R := ⟨_, rfl⟩
                rw [hRQ] at hres
                have hQ : Hid (∀ a k6, RQ = .ok a k6 → k6 < l.length ∧ ps.length < 8 ∧ k6 = kk + 1) := Lib.hid (fun a k6 e => newPortM_ok hl'.out hkk (hRQ.trans e))
                have hNP := Lib.hid (fun (W : World) (hg : V8.grownBy W (some cb)) (hX : Cu W cb s g cap l kk) (ho : Own W V8.heap.size 3 1 intC (.slice p m c) ps) => tp_newPort hl'.out hs'.out hP8.out.cr (hP8.out.step hg hX).rp.c0 (hP8.out.step hg hX).rp.lt hX hkk p m c ps hm (by omega) (fun W2 hg2 => own_lies (ho.kept hg2 (own_block ho cb hb8.out)) intC_len))
                rw [hRQ] at hNP
                replace hm := Lib.hid hm
                replace hp8 := Lib.hid hp8
                replace hSk := Lib.hid hSk
                replace hgr := Lib.hid hgr
                replace how := Lib.hid how
                replace hres := Lib.hid hres
                replace hkk := Lib.hid hkk
                replace hf := Lib.hid hf
                clear hcu ht5 hgt5 hsh hRQ
                go_wp2_with fail
                refine hSk.out.mono ?_
                rintro e wx ⟨rfl, hgx, hX⟩
                have hox := how.out.kept hgx (own_block how.out cb hb8.out)
                have hgx2 := grown_trans hgr.out hgx
                have hNPx := Lib.hid (hNP.out wx hgx2 hX hox)
                replace hgx2 := Lib.hid hgx2
                replace hox := Lib.hid hox
                clear hgx hSk hgr how r0 hNP hX
                go_wp2_with fail
                refine hNPx.out.mono ?_
                intro e wy hE
                clear hNPx
                cases RQ with
                | bad q E =>
                  obtain ⟨rfl, hg9⟩ := hE
                  obtain rfl : RP = .bad q E := hres.out.symm
                  obtain rfl : RT = .bad q E := hRT5.out.symm
                  have hB := Lib.hid (hP8.out.bel (grown_trans hgx2.out hg9))
                  clear hg9
                  go_wp2
                  exact ⟨rfl, rfl, hB.out⟩
                | ok a k6 =>
                  obtain ⟨rfl, hg9, hX⟩ := hE
                  obtain ⟨hk6, hps8, rfl⟩ := hQ.out _ _ rfl
                  have hgy := grown_trans hgx2.out hg9
                  have hoy := hox.out.kept hg9 (own_block hox.out cb hb8.out)
                  have hres2 := hres.out
                  rw [Rs.bind_ok rfl] at hres2
                  replace hres2 := Lib.hid hres2
                  have hown : Hid ((wy.alloc (.cells #[.int .i64 a] 3)).ownsRow V8.heap.size 3 1 (.slice p m c) m ((ps.map intC).flatten)) := Lib.hid (by have := hoy.kept (grown_alloc wy (.cells #[.int .i64 a] 3) (some cb)) (own_block hoy cb hb8.out); unfold Own at this; rwa [hm.out] at this)
                  have hga := Lib.hid (grown_trans hgy (grown_alloc wy (.cells #[.int .i64 a] 3) (some cb)))
                  have hXa := Lib.hid (hX.alloc (.cells #[.int .i64 a] 3))
                  have hszE : Hid (V8.heap.size ≤ wy.heap.size) := Lib.hid hgy.size
                  have hv : Hid (∀ k, (Value.slice p m c).ownBlock = some k → V8.heap.size ≤ k) := Lib.hid (fun k e => (hoy.lt k e).1)
                  replace hk6 := Lib.hid hk6
                  replace hps8 := Lib.hid hps8
                  clear hg9 hX hgx2 hox hres hQ hoy hgy
                  go_wp2_with (at_builtin; refine rowApp intC 3 39 1 8 (.int .i64 0) Tryz.underlying39 num_info rfl (by decide) (by decide) intC_len intC_one (.slice p m c) m hm.out hown.out (by have := hszE.out; simp; omega) (by have := hps8.out; omega) a wy.heap.size (fun j u hu => (cell_new wy _ _ _ j rfl).trans (by simpa [intC] using hu)) rfl _ _ rfl rfl rfl ?_)
                  intro v12 w12 hown2 hgrow
                  obtain ⟨p12, c12, rfl⟩ := own_sl3 hown2
                  obtain ⟨m12, hm12⟩ : ∃ m, (ps ++ [a]).length = m := ⟨_, rfl⟩
                  rw [hm12] at hown2 ⊢
                  have hgb := grown_over hga.out hgrow hv.out
                  have hXb := hXa.out.app hP8.out.gb hgrow (fun k e => by have := hv.out k e; have := hb8.out; omega)
                  have hPb := hP8.out.step hgb hXb
                  have r0 := hPb.rp.c0
                  have hW := cu_want hl'.out hs'.out wSemi w_ok.2.2.2.2.1 (hXb.alloc (.cells #[.string ⟨#[59]⟩] 9)) hk6.out w12.heap.size (cell_new w12 #[.string ⟨#[59]⟩] 9 w12.heap.size 0 rfl)
                  have hgc := Lib.hid (grown_trans hgb (grown_alloc w12 (.cells #[.string ⟨#[59]⟩] 9) (some cb)))
                  have hoc := Lib.hid (hown2.kept (grown_alloc w12 (.cells #[.string ⟨#[59]⟩] 9) (some cb)) (own_block hown2 cb hb8.out))
                  obtain ⟨RW, hRW⟩ : ∃ R, wantM l (kk + 1) wSemi = R := ⟨_, rfl⟩
                  have hres3 := hres2.out
                  rw [hRW] at hres3 hW
                  have hWe : Hid (∀ u k', RW = .ok u k' → k' = kk + 1 + 1) := Lib.hid (fun u k' e => wantM_eq (hRW.trans e))
                  replace hres3 := Lib.hid hres3
                  replace hW := Lib.hid hW
                  replace hm12 := Lib.hid hm12
                  clear hRW hPb hXb hgb hown2 hgrow hv hszE hXa hga hown hres2
                  go_wp2_with fail
                  refine hW.out.mono ?_
                  rintro e wz ⟨hE, hlt⟩
                  clear hW
                  cases RW with
                  | bad q E =>
                    obtain ⟨rfl, hg9⟩ := hE
                    obtain rfl : RP = .bad q E := hres3.out.symm
                    obtain rfl : RT = .bad q E := hRT5.out.symm
                    have hB := Lib.hid (hP8.out.bel (grown_trans hgc.out hg9))
                    clear hg9 hlt r0
                    go_wp2
                    exact ⟨rfl, rfl, hB.out⟩
                  | ok u7 k7 =>
                    obtain ⟨rfl, hg9, hX⟩ := hE
                    have hk7 := hlt _ _ rfl
                    obtain rfl := hWe.out _ _ rfl
                    have hres4 := hres3.out
                    rw [Rs.bind_ok rfl] at hres4
                    have hnew : Hid (∃ f k ps p m' c, (Value.slice p12 m12 c12) = .slice p m' c ∧ ps.length = m' ∧ V8.grownBy wz (some cb) ∧ Cu wz cb s g cap l k ∧ Own wz V8.heap.size 3 1 intC (.slice p m' c) ps ∧ k < l.length ∧ l.length - k ≤ f ∧ ps.length ≤ 8 ∧ portsM l f k ps = RP) := Lib.hid ⟨f, kk + 1 + 1, ps ++ [a], p12, m12, c12, rfl, hm12.out, grown_trans hgc.out hg9, hX, hoc.out.kept hg9 (own_block hoc.out cb hb8.out), hk7, by have := hf.out; omega, by have := hps8.out; simp; omega, hres4⟩
                    have hme : Hid (cMeas wz cb = l.length - (kk + 1 + 1)) := Lib.hid (cMeas_of hX)
                    replace hk7 := Lib.hid hk7
                    clear hg9 hX hlt hres4 hres3 r0 hgc hoc
                    go_wp2
                    go_roundw
                    case rel => exact hnew.out
                    case measure => rw [hme.out, hmeas.out]; have := hk7.out; omega
  · rw [hn1, if_pos h8, ht] at hRT
    obtain rfl : RT = .bad t.at_ 5 := hRT.symm
    have q8 : decide (n1 < 8) = false := decide_eq_false h8
    have q8' : decide ((n1 : Int) < 8) = false := decide_eq_false (by omega)
    clear hl hs h hk hb1 hb2 hn1 hn2 hn3 h8 hat hgt ht hNeedY hRT
    go_enter Tryz.func42, Tryz.ntmps42
    go_upto_region 0 with (fail)
    refine wp_region_own_tail0 11 (by kernel_rfl) (by kernel_rfl) ?_
    simp only [List.take_succ_cons, List.take_zero, List.drop_succ_cons, List.drop_zero]
    repeat (go_big_quiet_step (fail))
    refine wpQuiet_nil ?_
    rintro _ ⟨y0, rfl⟩
    clear r0 r1
    go_wp2_with fail
    refine (hNeed.out y0).mono ?_
    rintro e w1 ⟨rfl, x0, rfl⟩
    go_wp2
    exact ⟨rfl, rfl, hH.out.bel (grown_trans (grown_plus_any _ y0 _) (grown_plus_any _ x0 _))⟩
end
end Go.Proofs.YtkffjjlmoojffaaGreatDoor
