/-
  WHAT IS PROVED HERE: a part of the proof of the claim's theorem: NtM.
-/
import Derived.Test.YtkffjjlmoojffaaGreatDoorRows
import Derived.Test.YtkffjjlmoojffaaGreatDoorB45
import Derived.Test.YtkffjjlmoojffaaGreatDoorB46
import Derived.Test.YtkffjjlmoojffaaGreatDoorB47
set_option linter.all false
namespace Go.Proofs.YtkffjjlmoojffaaGreatDoor
open Go.RowKit
theorem eql_fv0 (a b c : Int) (w : World) : (binOp .eql 32 (fv a b c) (fv 0 0 0)).run Tryz.prog w = .ok (.bool ((a == 0) && (b == 0) && (c == 0))) w := by
  go_simp
  cases h1 : (a == 0) <;> cases h2 : (b == 0) <;> cases h3 : (c == 0) <;> simp_all
theorem tread_formO {s : ByteArray} (hs : s.size ≤ 2000) : ∃ (a b c : Int) (B : Bool), ((a == 0) && (b == 0) && (c == 0)) = B ∧ (B = true → netMay (netOf (readM s)) = true ∧ (netOf (readM s)).links.length ≤ 100000) ∧
    ∀ w e w', TRead w s (readM s) e w' → ∃ sw po li pvs, e = .returned (.tuple #[.agg #[sw, po, li], fv a b c]) ∧ Below w.heap.size w w' ∧ NetO w' sw po li pvs (netOf (readM s)) := by
  cases hr : readM s with
  | ok n k =>
    obtain ⟨h1, h2, h3, h4⟩ := readM_len hs hr
    refine ⟨0, 0, 0, true, rfl, fun _ => ⟨h4, by show n.links.length ≤ _; omega⟩, ?_⟩
    rintro w e w' ⟨x1, sw, po, li, pvs, rfl, x2⟩
    exact ⟨sw, po, li, pvs, rfl, x1, x2.netO (by show n.names.length ≤ _; omega) (by show n.ports.length ≤ _; omega) (by show n.links.length ≤ _; omega)⟩
  | bad p E =>
    have hE := readM_bad hr
    refine ⟨E, (lineOf s p : Nat), (colOf s p : Nat), false, by rw [show (E == 0) = false by simpa using hE]; rfl, fun h => (by cases h), ?_⟩
    rintro w e w' ⟨x1, rfl⟩
    exact ⟨_, _, _, [], rfl, x1, (NI.nil 0 w').netO (Nat.zero_le _) (Nat.zero_le _) (Nat.zero_le _)⟩
theorem NetO.slices {w : World} {sw po li : Value} {pvs : List Sl3} {n : Net'} (h : NetO w sw po li pvs n) : ∃ p1 c1 p2 c2 p3 c3, sw = .slice p1 n.names.length c1 ∧ po = .slice p2 pvs.length c2 ∧ li = .slice p3 n.links.length c3 := by
  obtain ⟨p1, c1, h1, -⟩ := h.sw
  obtain ⟨p2, c2, h2, -⟩ := h.po.row
  obtain ⟨p3, c3, h3, -⟩ := h.li
  exact ⟨p1, c1, p2, c2, p3, c3, h1, h2, h3⟩
theorem may_sizes {n : Net'} (h : netMay n = true) : ∀ x ∈ n.names, x.size ≤ 140737488355328 := fun x hx => by
  have := (word_ok (nmsMay_all _ _ (netMay_names h).1 x hx)).2.1
  omega
set_option maxRecDepth 100000 in
set_option maxHeartbeats 8000000 in
theorem tback_walk {w : World} (hS0 : Std w) (hT0 : Tab w) (s : ByteArray) (sw po li : Value) (pvs : List Sl3) (n : Net') (h : NetO w sw po li pvs n) :
    Calls Tryz.prog 4 #[.agg #[sw, po, li], .string s] w (Back w (.bool true)) := by
  have hK := Lib.hid known13
  obtain ⟨p1, c1, p2, c2, p3, c3, rfl, rfl, rfl⟩ := h.slices
  have hb1 := h.b1
  obtain ⟨n1, hn1⟩ : ∃ n1, n.names.length = n1 := ⟨_, rfl⟩
  obtain ⟨n2, hn2⟩ : ∃ n2, pvs.length = n2 := ⟨_, rfl⟩
  obtain ⟨n3, hn3⟩ : ∃ n3, n.links.length = n3 := ⟨_, rfl⟩
  rw [hn1, hn2, hn3] at h ⊢
  rw [hn1] at hb1
  obtain ⟨W, hW, hBW, hzz, ca, fa⟩ := box1 w #[.slice p1 n1 c1, .slice p2 n2 c2, .slice p3 n3 c3] 27
  have a0 := ca 0 _ rfl
  have a1 := ca 1 _ rfl
  have a2 := ca 2 _ rfl
  have hG := Lib.hid (dc_great (w := W) _ _ _ pvs n (h.below hBW))
  have hbx : w.heap.size < W.heap.size := by omega
  have hall : Hid (∀ X, Below W.heap.size W X → NetO X (.slice p1 n1 c1) (.slice p2 n2 c2) (.slice p3 n3 c3) pvs n ∧ Std X ∧ Tab X ∧ X.cell? ⟨w.heap.size, 0, none⟩ = some (.slice p1 n1 c1) ∧ X.cell? ⟨w.heap.size, 1, none⟩ = some (.slice p2 n2 c2) ∧ X.cell? ⟨w.heap.size, 2, none⟩ = some (.slice p3 n3 c3) ∧ ∃ x, X = Go.Proofs.YtkffjjlmoojffaaGreatDoor.plus w x) := Lib.hid fun X hB => by
    have hwX := hBW.trans (hB.mono hBW.size)
    have k0 := a0 ⟨#[], W.drawn⟩
    have k1 := a1 ⟨#[], W.drawn⟩
    have k2 := a2 ⟨#[], W.drawn⟩
    rw [plus_self] at k0 k1 k2
    exact ⟨h.below hwX, hS0.below hwX, hT0.below hwX, (hB.cell (p := ⟨w.heap.size, 0, none⟩) hbx).trans k0, (hB.cell (p := ⟨w.heap.size, 1, none⟩) hbx).trans k1, (hB.cell (p := ⟨w.heap.size, 2, none⟩) hbx).trans k2, plus_of_below hwX⟩
  have hn1' := Lib.hid hn1
  have hn2' := Lib.hid hn2
  have hn3' := Lib.hid hn3
  have aa0 := a0 ⟨#[], W.drawn⟩
  have aa1 := a1 ⟨#[], W.drawn⟩
  have aa2 := a2 ⟨#[], W.drawn⟩
  rw [plus_self] at aa0 aa1 aa2
  clear h hBW ca fa hS0 hT0 hn1 hn2 hn3 hzz hbx a0 a1 a2
  go_enter Tryz.func4, Tryz.ntmps4
  go_upto_region 1 with (fail)
  rw [← hW]
  clear hW
  go_wp2_with fail
  refine hG.out.mono ?_
  rintro e w' ⟨rfl, y, rfl⟩
  clear hG aa0 aa1 aa2
  have hV := below_plus W y
  obtain ⟨-, hStd, -, z0, z1, z2, -⟩ := hall.out _ hV
  cases hgr : greatN n with
  | true =>
    have hKK := Lib.hid (hK.out _ hStd)
    clear hgr
    go_wp2_with fail
    refine hKK.out.mono ?_
    rintro e w' ⟨rfl, x, rfl⟩
    go_wp2
    go_ret
    exact ⟨rfl, (hall.out _ (hV.trans ((below_plus _ x).mono hV.size))).2.2.2.2.2.2⟩
  | false =>
    by_cases hs : 2000 < s.size
    · have g1 : decide ((2000 : Int) < (s.size : Int)) = true := decide_eq_true (by omega)
      have g2 : (2000 : Int) < (s.size : Int) := by omega
      have hKK := Lib.hid (hK.out _ hStd)
      clear hgr
      go_wp2_with fail
      refine hKK.out.mono ?_
      rintro e w' ⟨rfl, x, rfl⟩
      go_wp2
      go_ret
      exact ⟨rfl, (hall.out _ (hV.trans ((below_plus _ x).mono hV.size))).2.2.2.2.2.2⟩
    · have g1 : decide ((2000 : Int) < (s.size : Int)) = false := decide_eq_false (by omega)
      have g2 : ¬ (2000 : Int) < (s.size : Int) := by omega
      obtain ⟨hz40, h12, h12p, h60⟩ := great_not hgr
      obtain ⟨fa, fb, fc, B, hB, hBm, hform⟩ := tread_formO (s := s) (by omega)
      have hR := Lib.hid ((tp_read s (by omega) _ hStd).mono (hform _))
      have qB := fun w => eql_fv0 fa fb fc w
      rw [hB] at qB
      generalize netOf (readM s) = m at hR hBm
      have hBm' := Lib.hid hBm
      have hz40' := Lib.hid hz40
      clear hgr hform hB hBm hz40 hs hStd
      have hV' := Lib.hid hV
      generalize Go.Proofs.YtkffjjlmoojffaaGreatDoor.plus W y = V at hV' hR z0 z1 z2 ⊢
      clear hV
      go_wp2_with fail
      refine hR.out.mono ?_
      rintro e W1 ⟨ms, mp, ml, mv, rfl, hB1, hN1⟩
      obtain ⟨q1, d1, q2, d2, q3, d3, rfl, rfl, rfl⟩ := hN1.slices
      clear hR z0 z1 z2
      go_upto_region 4 with (fail)
      obtain ⟨W2, hW2, hB2, hz2, cm, cf, fm, ff⟩ := box2 W1 #[.slice q1 m.names.length d1, .slice q2 mv.length d2, .slice q3 m.links.length d3] #[.int .i64 fa, .int .i64 fb, .int .i64 fc] 27 32
      rw [← hW2]
      clear hW2
      have m0 := cm 0 _ rfl ⟨#[], W2.drawn⟩
      have m1 := cm 1 _ rfl ⟨#[], W2.drawn⟩
      have m2 := cm 2 _ rfl ⟨#[], W2.drawn⟩
      have f0 := cf 0 _ rfl ⟨#[], W2.drawn⟩
      have f1 := cf 1 _ rfl ⟨#[], W2.drawn⟩
      have f2 := cf 2 _ rfl ⟨#[], W2.drawn⟩
      rw [plus_self] at m0 m1 m2 f0 f1 f2
      have hW2' := Lib.hid (hV'.out.trans ((hB1.trans (hB2.mono hB1.size)).mono hV'.out.size))
      have hMm : Hid (B = true → Calls Tryz.prog 10 #[.agg #[.slice q1 m.names.length d1, .slice q2 mv.length d2, .slice q3 m.links.length d3]] W2 (Back W2 (.bool true))) := Lib.hid fun hb => by
        obtain ⟨x1, x2⟩ := hBm'.out hb
        have := to_may (w := W2) _ _ _ mv m (hN1.below hB2) x2 (may_sizes x1)
        rwa [x1] at this
      clear hN1 hB1 hB2 hz2 cm cf fm ff hBm' hV'
      cases hBB : B
      case' false =>
        rw [hBB] at qB
        go_upto_region 6 with (fail)
        rw [← plus_self W2]
        obtain ⟨x, hx⟩ : ∃ x : Ext, (⟨#[], W2.drawn⟩ : Ext) = x := ⟨_, rfl⟩
        rw [hx]
        clear hx
      case' true =>
        rw [hBB] at qB
        have hMM := Lib.hid (hMm.out hBB)
        go_wp2_with fail
        refine hMM.out.mono ?_
        rintro e w' ⟨rfl, x, rfl⟩
        go_upto_region 6 with (fail)
        clear hMM
      all_goals
        have hU := hW2'.out.trans ((below_plus W2 x).mono hW2'.out.size)
        clear hMm m0 m1 m2 f0 f1 f2 qB hW2' hBB
        generalize Go.Proofs.YtkffjjlmoojffaaGreatDoor.plus W2 x = U at hU ⊢
        have hUy := Lib.hid (fun (y : Ext) => hU.trans ((below_plus U y).mono hU.size))
        obtain ⟨hNu, hStdU, hTabU, z0, z1, z2, -⟩ := hall.out _ hU
        have v0 := fun y => (hall.out _ (hUy.out y)).2.2.2.1
        have v1 := fun y => (hall.out _ (hUy.out y)).2.2.2.2.1
        have v2 := fun y => (hall.out _ (hUy.out y)).2.2.2.2.2.1
        have hMn := to_may (w := U) _ _ _ pvs n hNu (by omega) (fun x hx => Nat.le_trans (hz40'.out x hx) (by decide))
        have hTx0 := fun y => to_text (w := Go.Proofs.YtkffjjlmoojffaaGreatDoor.plus U y) (hall.out _ (hUy.out y)).2.2.1 _ _ _ pvs n (hall.out _ (hUy.out y)).1 (by omega) hz40'.out
        have hKn := Lib.hid (fun x => hK.out.at U hStdU x)
        cases hmay : netMay n with
        | false =>
          rw [hmay] at hMn
          have hTx : Hid (∀ y, Calls Tryz.prog 11 #[.agg #[.slice p1 n1 c1, .slice p2 n2 c2, .slice p3 n3 c3]] (Go.Proofs.YtkffjjlmoojffaaGreatDoor.plus U y) (fun e w' => e = .returned (.string ⟨#[]⟩) ∧ ∃ z, w' = Go.Proofs.YtkffjjlmoojffaaGreatDoor.plus U z)) := Lib.hid fun y => by
            have := hTx0 y
            rw [if_neg (by rw [hmay]; decide)] at this
            exact this.mono (fun _ _ ⟨he, z, hz⟩ => ⟨he, _, hz.trans (plus_plus _ _ _)⟩)
          replace hMn := Lib.hid hMn
          clear hTx0 hNu hStdU hTabU hmay
          go_wp2_with fail
          refine hMn.out.mono ?_
          rintro e w' ⟨rfl, x1, rfl⟩
          go_wp2_with fail
          refine (hTx.out _).mono ?_
          rintro e w' ⟨rfl, x2, rfl⟩
          go_wp2_with fail
          refine (hKn.out _).mono ?_
          rintro e w' ⟨rfl, x3, rfl⟩
          go_wp2
          go_ret
          exact ⟨rfl, (hall.out _ (hUy.out x3)).2.2.2.2.2.2⟩
        | true =>
          rw [hmay] at hMn
          obtain ⟨kk, hback⟩ := back_plain hmay (text_size hmay hz40'.out h60)
          have hsz := text_size hmay hz40'.out h60
          have hTx : Hid (∀ y, Calls Tryz.prog 11 #[.agg #[.slice p1 n1 c1, .slice p2 n2 c2, .slice p3 n3 c3]] (Go.Proofs.YtkffjjlmoojffaaGreatDoor.plus U y) (fun e w' => e = .returned (.string (txt (netP n))) ∧ ∃ z, w' = Go.Proofs.YtkffjjlmoojffaaGreatDoor.plus U z)) := Lib.hid fun y => by
            have := hTx0 y
            rw [if_pos hmay, ← net_txt] at this
            exact this.mono (fun _ _ ⟨he, z, hz⟩ => ⟨he, _, hz.trans (plus_plus _ _ _)⟩)
          have hRd : Hid (∀ y, Calls Tryz.prog 6 #[.string (txt (netP n))] (Go.Proofs.YtkffjjlmoojffaaGreatDoor.plus U y) (fun e w' => ∃ sw po li pv, e = .returned (.tuple #[.agg #[sw, po, li], fv 0 0 0]) ∧ Below (Go.Proofs.YtkffjjlmoojffaaGreatDoor.plus U y).heap.size (Go.Proofs.YtkffjjlmoojffaaGreatDoor.plus U y) w' ∧ NetO w' sw po li pv n)) := Lib.hid fun y => by
            have := tp_readW (txt (netP n)) hsz (Go.Proofs.YtkffjjlmoojffaaGreatDoor.plus U y) (hall.out _ (hUy.out y)).2.1
            rw [hback] at this
            refine this.mono ?_
            rintro e w' ⟨x1, sw, po, li, pv, rfl, x2⟩
            exact ⟨sw, po, li, pv, rfl, x1, x2.netO hNu.b1 hNu.b2 hNu.b3⟩
          have hmay' := Lib.hid hmay
          replace hMn := Lib.hid hMn
          clear hTx0 hNu hStdU hTabU hmay hback hsz hKn
          generalize txt (netP n) = tx at hTx hRd
          go_wp2_with fail
          refine hMn.out.mono ?_
          rintro e w' ⟨rfl, x1, rfl⟩
          go_wp2_with fail
          refine (hTx.out _).mono ?_
          rintro e w' ⟨rfl, x2, rfl⟩
          go_wp2_with fail
          refine (hRd.out _).mono ?_
          rintro e W3 ⟨gs, gp, gl, gv, rfl, hB3, hN3⟩
          obtain ⟨q1, d1, q2, d2, q3, d3, rfl, rfl, rfl⟩ := hN3.slices
          clear z0 z1 z2 v0 v1 v2 hTx hRd hMn
          go_upto_region 9 with (fail)
          obtain ⟨W4, hW4, hB4, hz4, cm, cf, fm, ff⟩ := box2 W3 #[.slice q1 n.names.length d1, .slice q2 gv.length d2, .slice q3 n.links.length d3] #[.int .i64 0, .int .i64 0, .int .i64 0] 27 32
          rw [← hW4]
          clear hW4
          have m0 := cm 0 _ rfl ⟨#[], W4.drawn⟩
          have m1 := cm 1 _ rfl ⟨#[], W4.drawn⟩
          have m2 := cm 2 _ rfl ⟨#[], W4.drawn⟩
          have f0 := cf 0 _ rfl ⟨#[], W4.drawn⟩
          have f1 := cf 1 _ rfl ⟨#[], W4.drawn⟩
          have f2 := cf 2 _ rfl ⟨#[], W4.drawn⟩
          rw [plus_self] at m0 m1 m2 f0 f1 f2
          have hZ0 := (hUy.out x2).trans ((hB3.trans (hB4.mono hB3.size)).mono (hUy.out x2).size)
          have hZ := Lib.hid (fun (y : Ext) => hZ0.trans ((below_plus W4 y).mono hZ0.size))
          obtain ⟨hNz, -, -, z0, z1, z2, -⟩ := hall.out _ hZ0
          have hSm := Lib.hid (to_same (w := W4) _ _ _ _ _ _ gv pvs n (hN3.below hB4) hNz)
          have hZ0' := Lib.hid hZ0
          clear hNz hN3 hB3 hB4 hz4 cm cf fm ff hUy hU hZ0
          go_wp2_with fail
          refine hSm.out.mono ?_
          rintro e w' ⟨rfl, x4, rfl⟩
          clear m0 m1 m2 f0 f1 f2 z0 z1 z2 hSm
          have z0 := (hall.out _ (hZ.out x4)).2.2.2.1
          go_wp2
          clear z0
          go_loopw [9, 11, 12, 13, 14, 15, 16, 17, 18, 67] (fun _ _ _ _ _ _ _ _ _ iv wr => ∃ k : Nat, k ≤ n1 ∧ iv = .int .i64 (k : Int) ∧ ∃ y, wr = Go.Proofs.YtkffjjlmoojffaaGreatDoor.plus W4 y) (fun _ _ _ _ _ _ _ _ _ iv _ => n1 - (intOf iv).toNat)
          case atStart => exact ⟨0, Nat.zero_le _, rfl, ⟨_, rfl⟩⟩
          case round =>
            obtain ⟨k, hk, rfl, yk, rfl⟩ := hrel
            by_cases hlt : k < n1
            · obtain ⟨ps, hps⟩ : ∃ q, n.ports[k]? = some q := ⟨n.ports[k]'(by have := (mayN hmay'.out).p; have := hn1'.out; omega), List.getElem?_eq_getElem _⟩
              obtain ⟨hNr, -, -, z0, z1, z2, -⟩ := hall.out _ (hZ.out yk)
              obtain ⟨s1, hs1⟩ : ∃ q, pvs[k]? = some q := ⟨pvs[k]'(by have := hNr.po.len; have := (List.getElem?_eq_some_iff.1 hps).1; omega), List.getElem?_eq_getElem _⟩
              obtain ⟨g2, o2, rfl, d0⟩ := hNr.po.row.at1 hs1 rfl
              have hq := (hNr.po.each k s1 ps hs1 hps).1
              obtain ⟨s1p, s1n, s1c⟩ := s1
              unfold Sl3.v at hq
              simp only at hq d0
              obtain rfl := hq.len
              have hbm := (hNr.po.each k _ ps hs1 hps).2
              obtain ⟨m, hm⟩ : ∃ m, ps.length = m := ⟨_, rfl⟩
              rw [hm] at d0 hs1 hbm
              have k0 : ¬ ((k : Int) < 0) := by omega
              have k1 : (k : Int) < (n1 : Int) := by omega
              have k2 : (k : Int) < (n2 : Int) := by have := hNr.po.len; have := (List.getElem?_eq_some_iff.1 hps).1; have := hn2'.out; omega
              replace hm := Lib.hid hm
              have hs1' := Lib.hid hs1
              have hps' := Lib.hid hps
              clear hNr hq hs1 hps
              go_wp2
              clear z0 z1 z2 d0
              go_loopw [11, 12, 13, 14, 15, 16, 17, 18, 76] (fun _ _ _ _ _ _ _ _ jv wr => ∃ j : Nat, j ≤ m ∧ jv = .int .i64 (j : Int) ∧ ∃ y, wr = Go.Proofs.YtkffjjlmoojffaaGreatDoor.plus W4 y) (fun _ _ _ _ _ _ _ _ jv _ => m - (intOf jv).toNat)
              case atStart => exact ⟨0, Nat.zero_le _, rfl, ⟨_, rfl⟩⟩
              case round =>
                obtain ⟨j, hj, rfl, yj, rfl⟩ := hrel
                by_cases hjl : j < m
                · obtain ⟨p, hp⟩ : ∃ q, ps[j]? = some q := ⟨ps[j]'(by rw [hm.out]; exact hjl), List.getElem?_eq_getElem _⟩
                  have hth := there_port hmay'.out hps'.out (List.mem_of_getElem? hp)
                  obtain ⟨⟨t0, t1⟩, L, hnv, hnb⟩ := next_law hmay'.out hth
                  obtain ⟨hNr, -, -, -, -, -, -⟩ := hall.out _ (hZ.out yj)
                  have hq := (hNr.po.each k _ ps hs1'.out hps'.out).1
                  unfold Sl3.v at hq
                  simp only at hq
                  obtain ⟨g3, o3, rfl, d0⟩ := hq.at1 hp rfl
                  have j0 : ¬ ((j : Int) < 0) := by omega
                  have j1 : (j : Int) < (m : Int) := by omega
                  obtain ⟨V1, hV1⟩ : ∃ V, (Go.Proofs.YtkffjjlmoojffaaGreatDoor.plus W4 yj).alloc (.cells #[.int .i64 (k : Int), .int .i64 p] 41) = V := ⟨_, rfl⟩
                  have hb1 : Below W.heap.size W V1 := by rw [← hV1]; exact (hZ.out yj).alloc (hZ.out yj).size _
                  have hbz1 : Below W4.heap.size W4 V1 := by rw [← hV1]; exact (below_plus W4 yj).alloc (below_plus W4 yj).size _
                  obtain ⟨K1, hK1⟩ : ∃ K1, (Go.Proofs.YtkffjjlmoojffaaGreatDoor.plus W4 yj).heap.size = K1 := ⟨_, rfl⟩
                  have hk1 : K1 < V1.heap.size := by rw [← hV1, ← hK1]; simp
                  have l0 : V1.cell? ⟨K1, 0, none⟩ = some (.int .i64 (k : Int)) := by rw [← hV1, ← hK1]; exact (cell_new _ _ _ _ 0 rfl).trans rfl
                  have l1 : V1.cell? ⟨K1, 1, none⟩ = some (.int .i64 p) := by rw [← hV1, ← hK1]; exact (cell_new _ _ _ _ 1 rfl).trans rfl
                  obtain ⟨hN1, -, -, z0, z1, z2, -⟩ := hall.out V1 hb1
                  have hX1 := to_next (w := V1) _ _ pvs n ⟨(k : Int), p⟩ p1 n1 c1 hN1.po hN1.b2 hn1'.out hN1.li hN1.b3
                  rw [hnv] at hX1
                  unfold endV at hX1
                  simp only at hX1
                  replace hX1 := Lib.hid hX1
                  replace hnb := Lib.hid hnb
                  clear hN1 hNr hq hth hnv hp
                  go_upto_region 18 with (fail)
                  try rw [hV1]
                  try rw [hK1]
                  clear hV1 hK1 d0
                  go_wp2_with fail
                  refine hX1.out.mono ?_
                  rintro e w' ⟨rfl, x5, rfl⟩
                  have hl0 := Lib.hid l0
                  have hl1 := Lib.hid l1
                  clear hX1 l0 l1 z0 z1 z2
                  go_upto_region 19 with (fail)
                  obtain ⟨V2, hV2⟩ : ∃ V, (Go.Proofs.YtkffjjlmoojffaaGreatDoor.plus V1 x5).alloc (.cells #[.int .i64 t0, .int .i64 t1] 41) = V := ⟨_, rfl⟩
                  obtain ⟨K2, hK2⟩ : ∃ K2, (Go.Proofs.YtkffjjlmoojffaaGreatDoor.plus V1 x5).heap.size = K2 := ⟨_, rfl⟩
                  have hb2 : Below V1.heap.size V1 V2 := by rw [← hV2]; exact (below_plus V1 x5).alloc (below_plus V1 x5).size _
                  have hbW2 := hb1.trans (hb2.mono hb1.size)
                  have hbz2 := hbz1.trans (hb2.mono hbz1.size)
                  have hk2 : K2 < V2.heap.size := by rw [← hV2, ← hK2]; simp
                  have hk12 : K1 < V2.heap.size := Nat.lt_of_lt_of_le hk1 hb2.size
                  have le0 : V2.cell? ⟨K1, 0, none⟩ = some (.int .i64 (k : Int)) := (hb2.cell (p := ⟨K1, 0, none⟩) hk1).trans hl0.out
                  have le1 : V2.cell? ⟨K1, 1, none⟩ = some (.int .i64 p) := (hb2.cell (p := ⟨K1, 1, none⟩) hk1).trans hl1.out
                  have lt0 : V2.cell? ⟨K2, 0, none⟩ = some (.int .i64 t0) := by rw [← hV2, ← hK2]; exact (cell_new _ _ _ _ 0 rfl).trans rfl
                  have lt1 : V2.cell? ⟨K2, 1, none⟩ = some (.int .i64 t1) := by rw [← hV2, ← hK2]; exact (cell_new _ _ _ _ 1 rfl).trans rfl
                  obtain ⟨hN2, -, -, z0, z1, z2, -⟩ := hall.out V2 hbW2
                  have hX2 := to_next (w := V2) _ _ pvs n ⟨t0, t1⟩ p1 n1 c1 hN2.po hN2.b2 hn1'.out hN2.li hN2.b3
                  obtain ⟨⟨⟨b0, b1⟩, th, ag⟩, hR2⟩ : ∃ R, nextV (thereF n ⟨t0, t1⟩) n.links ⟨t0, t1⟩ = R := ⟨_, rfl⟩
                  rw [hR2] at hX2
                  unfold endV at hX2
                  simp only at hX2
                  replace hX2 := Lib.hid hX2
                  have hnb2 : Hid (L = true → (⟨b0, b1⟩ : End') = ⟨(k : Int), p⟩ ∧ ag = true ∧ ¬ (⟨t0, t1⟩ : End') = ⟨(k : Int), p⟩) := Lib.hid fun hL => by
                    obtain ⟨u1, u2⟩ := hnb.out hL
                    rw [hR2] at u1
                    simp only [Prod.mk.injEq] at u1
                    exact ⟨u1.1, u1.2.2, u2⟩
                  rw [hV2, hK2]
                  clear hN2 hR2 hnb hV2 hK2 hb1 hb2 hl0 hl1 hbW2 hbz1 hk1
                  go_wp2_with fail
                  refine hX2.out.mono ?_
                  rintro e w' ⟨rfl, x6, rfl⟩
                  clear hX2 z0 z1 z2
                  go_upto_region 22 with (fail)
                  obtain ⟨V3, hV3⟩ : ∃ V, (Go.Proofs.YtkffjjlmoojffaaGreatDoor.plus V2 x6).alloc (.cells #[.int .i64 b0, .int .i64 b1] 41) = V := ⟨_, rfl⟩
                  obtain ⟨K3, hK3⟩ : ∃ K3, (Go.Proofs.YtkffjjlmoojffaaGreatDoor.plus V2 x6).heap.size = K3 := ⟨_, rfl⟩
                  have hb3 : Below V2.heap.size V2 V3 := by rw [← hV3]; exact (below_plus V2 x6).alloc (below_plus V2 x6).size _
                  obtain ⟨y9, hy9⟩ := plus_of_below (hbz2.trans (hb3.mono hbz2.size))
                  have e0 : V3.cell? ⟨K1, 0, none⟩ = some (.int .i64 (k : Int)) := (hb3.cell (p := ⟨K1, 0, none⟩) hk12).trans le0
                  have e1 : V3.cell? ⟨K1, 1, none⟩ = some (.int .i64 p) := (hb3.cell (p := ⟨K1, 1, none⟩) hk12).trans le1
                  have s0 : V3.cell? ⟨K2, 0, none⟩ = some (.int .i64 t0) := (hb3.cell (p := ⟨K2, 0, none⟩) hk2).trans lt0
                  have s1 : V3.cell? ⟨K2, 1, none⟩ = some (.int .i64 t1) := (hb3.cell (p := ⟨K2, 1, none⟩) hk2).trans lt1
                  have r0 : V3.cell? ⟨K3, 0, none⟩ = some (.int .i64 b0) := by rw [← hV3, ← hK3]; exact (cell_new _ _ _ _ 0 rfl).trans rfl
                  have r1 : V3.cell? ⟨K3, 1, none⟩ = some (.int .i64 b1) := by rw [← hV3, ← hK3]; exact (cell_new _ _ _ _ 1 rfl).trans rfl
                  rw [hV3, hK3]
                  clear hV3 hK3 le0 le1 lt0 lt1 hb3 hbz2 hk2 hk12
                  have hrel : Hid (∃ y, V3 = Go.Proofs.YtkffjjlmoojffaaGreatDoor.plus W4 y) := Lib.hid ⟨y9, hy9⟩
                  clear hy9
                  cases L with
                  | false =>
                    go_wp2
                    go_roundw
                    case rel => exact ⟨j + 1, hjl, congrArg (Value.int .i64) (by omega), hrel.out⟩
                    case measure => exact step_lt j m hjl
                  | true =>
                    obtain ⟨u1, rfl, u3⟩ := hnb2.out rfl
                    have qn := fun w => neq_end ⟨b0, b1⟩ ⟨(k : Int), p⟩ w
                    have qe := fun w => eql_end ⟨t0, t1⟩ ⟨(k : Int), p⟩ w
                    rw [decide_eq_true u1] at qn
                    rw [decide_eq_false u3] at qe
                    simp only at qn qe
                    clear u1 u3
                    go_wp2
                    go_roundw
                    case rel => exact ⟨j + 1, hjl, congrArg (Value.int .i64) (by omega), hrel.out⟩
                    case measure => exact step_lt j m hjl
                · obtain rfl : j = m := by omega
                  go_wp2
                  go_roundw
                  case rel => exact ⟨k + 1, hlt, congrArg (Value.int .i64) (by omega), _, rfl⟩
                  case measure => exact step_lt k n1 hlt
            · obtain rfl : k = n1 := by omega
              have hKn := Lib.hid (hK.out.at _ (hall.out _ hZ0'.out).2.1 yk)
              go_wp2_with fail
              refine hKn.out.mono ?_
              rintro e w' ⟨rfl, x3, rfl⟩
              go_wp2
              go_ret
              exact ⟨rfl, (hall.out _ (hZ.out x3)).2.2.2.2.2.2⟩
end Go.Proofs.YtkffjjlmoojffaaGreatDoor
