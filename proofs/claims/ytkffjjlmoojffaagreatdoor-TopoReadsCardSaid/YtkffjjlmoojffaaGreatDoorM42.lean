/-
  WHAT IS PROVED HERE: a part of the proof of the claim's theorem: NetTn; NetLw.
-/
import Derived.Test.YtkffjjlmoojffaaGreatDoorRows
import Derived.Test.YtkffjjlmoojffaaGreatDoorM32
import Derived.Test.YtkffjjlmoojffaaGreatDoorM40
import Derived.Test.YtkffjjlmoojffaaGreatDoorM41
set_option linter.all false
namespace Go.Proofs.YtkffjjlmoojffaaGreatDoor
open Go.RowKit
set_option maxHeartbeats 4000000 in
theorem tp_next {w : World} (vp vl : Value) (pvs : List Sl3) (N : Net') (e : End') (p1 : Option Addr) (n1 c1 : Nat) (h : PortsAt w vp pvs N.ports) (hb : N.ports.length ≤ 1048576) (hn1 : N.names.length = n1) (hl : Lies w 4 linkC vl N.links) (hlb : N.links.length ≤ 1048576) :
    Calls Tryz.prog 13 #[.agg #[.slice p1 n1 c1, vp, vl], endV e] w (Back w (.tuple #[endV (nextV (thereF N e) N.links e).1, .bool (nextV (thereF N e) N.links e).2.1, .bool (nextV (thereF N e) N.links e).2.2])) := by
  obtain ⟨R, hR⟩ : ∃ R, nextV (thereF N e) N.links e = R := ⟨_, rfl⟩
  rw [hR]
  obtain ⟨⟨Rs, Rp⟩, Rt, Rl⟩ := R
  simp only
  obtain ⟨pl, cl, rfl, hcl⟩ := hl
  obtain ⟨n, hn⟩ : ∃ n, N.links.length = n := ⟨_, rfl⟩
  rw [hn] at hlb ⊢
  have hT := fun (W : World) (hB : Below w.heap.size w W) => tp_there (w := W) pvs N e vp p1 pl n1 c1 n cl (h.below hB) hb hn1
  obtain ⟨B, hBb⟩ : ∃ B, thereF N e = B := ⟨_, rfl⟩
  rw [hBb] at hR hT
  obtain ⟨pp, cp, hpp, -⟩ := h.row
  obtain ⟨np, hnp⟩ : ∃ np, pvs.length = np := ⟨_, rfl⟩
  rw [hnp] at hpp
  subst hpp
  obtain ⟨sw, po⟩ := e
  obtain ⟨W, hW, hBW, hz, ca, cb, cc, fa, fb, fc⟩ := box3 w #[.slice p1 n1 c1, .slice pp np cp, .slice pl n cl] #[.int .i64 sw, .int .i64 po] #[.int .i64 0, .int .i64 0] 27 41 41
  have hT' := Lib.hid (hT W hBW)
  unfold endV at hT' ⊢
  simp only at hT' ⊢
  have a0 := ca 0 _ rfl
  have a1 := ca 1 _ rfl
  have a2 := ca 2 _ rfl
  have b0 := cb 0 _ rfl
  have b1 := cb 1 _ rfl
  have r0 := cc 0 _ rfl
  have r1 := cc 1 _ rfl
  have hBW' := Lib.hid hBW
  have hcl' := Lib.hid hcl
  have hn' := Lib.hid hn
  replace hR := Lib.hid hR
  have hfin : Hid (∀ (y : Ext) (u v : Value), ∃ x, ((Go.Proofs.YtkffjjlmoojffaaGreatDoor.plus W y).setCell ⟨w.heap.size + 1 + 1, 0, none⟩ u).setCell ⟨w.heap.size + 1 + 1, 1, none⟩ v = Go.Proofs.YtkffjjlmoojffaaGreatDoor.plus w x) := by
    show ∀ y u v, _
    intro y u v
    exact own_end hBW (show w.heap.size ≤ w.heap.size + 1 + 1 by omega) u v
  clear hT h hcl hn ca cb cc fa fb hz hBb hnp
  go_enter Tryz.func13, Tryz.ntmps13
  go_upto_region 1 with (fail)
  rw [← hW, ← plus_self W]
  clear hW
  rw [← plus_self W] at hT'
  go_wp2_with fail
  refine hT'.out.mono ?_
  rintro e w' ⟨rfl, x, rfl⟩
  rw [plus_plus]
  generalize (⟨(⟨#[], W.drawn⟩ : Ext).blocks ++ x.blocks, x.draws⟩ : Ext) = y
  clear a0 a1 hT'
  cases B with
  | false =>
    obtain ⟨rfl, rfl, rfl, rfl⟩ : Rs = 0 ∧ Rp = 0 ∧ Rt = false ∧ Rl = false := by have e := hR.out; unfold nextV at e; rw [if_neg (by decide)] at e; simp only [Prod.mk.injEq, End'.mk.injEq] at e; exact ⟨e.1.1.symm, e.1.2.symm, e.2.1.symm, e.2.2.symm⟩
    go_wp2
    refine bodyPost_ret (v := .tuple #[.agg #[.int .i64 0, .int .i64 0], .bool false, .bool false]) ?_ rfl ⟨rfl, hfin.out _ _ _⟩
    simp [results, Tryz.results13, go_sem, r0, r1]
  | true =>
    go_wp2
    go_loopw [8, 17] (fun _ iv wr => ∃ k : Nat, k ≤ n ∧ iv = .int .i64 (k : Int) ∧ (∃ y, wr = Go.Proofs.YtkffjjlmoojffaaGreatDoor.plus W y) ∧ Hid (∀ (j : Nat) (x : End' × End'), j < k → N.links[j]? = some x → ¬ x.1 = ⟨sw, po⟩ ∧ ¬ x.2 = ⟨sw, po⟩)) (fun _ iv _ => n - (intOf iv).toNat)
    case atStart => exact ⟨0, Nat.zero_le _, rfl, ⟨y, rfl⟩, fun j x hj => absurd hj (Nat.not_lt_zero _)⟩
    case round =>
      obtain ⟨k, hk, rfl, ⟨y2, rfl⟩, hno⟩ := hrel
      by_cases hlt : k < n
      · obtain ⟨⟨qa, qb⟩, hq⟩ : ∃ q, N.links[k]? = some q := ⟨N.links[k]'(by rw [hn'.out]; exact hlt), List.getElem?_eq_getElem _⟩
        obtain ⟨g, rfl, hg, hcell⟩ := hcl'.out k _ hq
        have hat := Lib.hid (nextF_at hq hno.out)
        have cc := fun j u (hu : (linkC (qa, qb))[j]? = some u) y => ((below_plus W y).cell (p := ⟨g, k * 4 + j, none⟩) (Nat.lt_of_lt_of_le hg hBW'.out.size)).trans ((hBW'.out.cell (p := ⟨g, k * 4 + j, none⟩) hg).trans (hcell j u hu))
        have d0 := cc 0 _ rfl
        have d1 := cc 1 _ rfl
        have d2 := cc 2 _ rfl
        have d3 := cc 3 _ rfl
        simp only [Nat.add_zero] at d0
        have k0 : ¬ ((k : Int) < 0) := by omega
        have k1 : (k : Int) < (n : Int) := by omega
        obtain ⟨BA, hBA⟩ : ∃ B, decide (qa = ⟨sw, po⟩) = B := ⟨_, rfl⟩
        obtain ⟨BB, hBB⟩ : ∃ B, decide (qb = ⟨sw, po⟩) = B := ⟨_, rfl⟩
        have q1 := fun w => eql_end qa ⟨sw, po⟩ w
        have q2 := fun w => eql_end qb ⟨sw, po⟩ w
        rw [hBA] at q1
        rw [hBB] at q2
        replace hBA := Lib.hid hBA
        replace hBB := Lib.hid hBB
        obtain ⟨qa0, qa1⟩ := qa
        obtain ⟨qb0, qb1⟩ := qb
        simp only at q1 q2 d0 d1 d2 d3
        have hq' := Lib.hid hq
        clear hcell hq cc
        obtain ⟨V, hV⟩ : ∃ V, (Go.Proofs.YtkffjjlmoojffaaGreatDoor.plus W y2).alloc (.cells #[.int .i64 qa0, .int .i64 qa1, .int .i64 qb0, .int .i64 qb1] 68) = V := ⟨_, rfl⟩
        obtain ⟨x3, hx3⟩ : ∃ x, V = Go.Proofs.YtkffjjlmoojffaaGreatDoor.plus W x := by
          rw [← hV]
          exact plus_of_below ((below_plus W y2).alloc (below_plus W y2).size _)
        have l0 : V.cell? ⟨(Go.Proofs.YtkffjjlmoojffaaGreatDoor.plus W y2).heap.size, 0, none⟩ = some (.int .i64 qa0) := by rw [← hV]; exact (cell_new _ _ _ _ 0 rfl).trans rfl
        have l1 : V.cell? ⟨(Go.Proofs.YtkffjjlmoojffaaGreatDoor.plus W y2).heap.size, 1, none⟩ = some (.int .i64 qa1) := by rw [← hV]; exact (cell_new _ _ _ _ 1 rfl).trans rfl
        have l2 : V.cell? ⟨(Go.Proofs.YtkffjjlmoojffaaGreatDoor.plus W y2).heap.size, 2, none⟩ = some (.int .i64 qb0) := by rw [← hV]; exact (cell_new _ _ _ _ 2 rfl).trans rfl
        have l3 : V.cell? ⟨(Go.Proofs.YtkffjjlmoojffaaGreatDoor.plus W y2).heap.size, 3, none⟩ = some (.int .i64 qb1) := by rw [← hV]; exact (cell_new _ _ _ _ 3 rfl).trans rfl
        rw [hx3] at l0 l1 l2 l3
        cases BA with
        | true =>
          obtain ⟨rfl, rfl, rfl, rfl⟩ : Rs = qb0 ∧ Rp = qb1 ∧ Rt = true ∧ Rl = true := by
            have e := hR.out
            unfold nextV at e
            rw [if_pos rfl, hat.out.1 (of_decide_eq_true hBA.out)] at e
            simp only [Prod.mk.injEq, End'.mk.injEq] at e
            exact ⟨e.1.1.symm, e.1.2.symm, e.2.1.symm, e.2.2.symm⟩
          go_upto_region 6 with (fail)
          try rw [hV, hx3]
          clear hV hx3
          go_wp2
          refine bodyPost_ret (v := .tuple #[.agg #[.int .i64 Rs, .int .i64 Rp], .bool true, .bool true]) ?_ rfl ⟨rfl, hfin.out _ _ _⟩
          simp [results, Tryz.results13, go_sem, r0, r1]
        | false =>
          cases BB with
          | true =>
            obtain ⟨rfl, rfl, rfl, rfl⟩ : Rs = qa0 ∧ Rp = qa1 ∧ Rt = true ∧ Rl = true := by
              have e := hR.out
              unfold nextV at e
              rw [if_pos rfl, hat.out.2 (of_decide_eq_false hBA.out) (of_decide_eq_true hBB.out)] at e
              simp only [Prod.mk.injEq, End'.mk.injEq] at e
              exact ⟨e.1.1.symm, e.1.2.symm, e.2.1.symm, e.2.2.symm⟩
            go_upto_region 6 with (fail)
            try rw [hV, hx3]
            clear hV hx3
            go_wp2
            refine bodyPost_ret (v := .tuple #[.agg #[.int .i64 Rs, .int .i64 Rp], .bool true, .bool true]) ?_ rfl ⟨rfl, hfin.out _ _ _⟩
            simp [results, Tryz.results13, go_sem, r0, r1]
          | false =>
            go_upto_region 6 with (fail)
            try rw [hV, hx3]
            clear hV hx3
            go_wp2
            go_roundw
            case rel =>
              refine ⟨k + 1, hlt, congrArg (Value.int .i64) (by omega), ⟨_, rfl⟩, Lib.hid fun j x hj hx => ?_⟩
              by_cases hjk : j = k
              · subst hjk
                obtain rfl := Option.some.inj (hq'.out.symm.trans hx)
                exact ⟨of_decide_eq_false hBA.out, of_decide_eq_false hBB.out⟩
              · exact hno.out j x (by omega) hx
            case measure => exact step_lt k n hlt
      · obtain rfl : k = n := by omega
        obtain ⟨rfl, rfl, rfl, rfl⟩ : Rs = 0 ∧ Rp = 0 ∧ Rt = true ∧ Rl = false := by
          have e := hR.out
          unfold nextV at e
          rw [if_pos rfl, nextF_none (fun j x hj hx => hno.out j x (by have := hn'.out; omega) hx)] at e
          simp only [Prod.mk.injEq, End'.mk.injEq] at e
          exact ⟨e.1.1.symm, e.1.2.symm, e.2.1.symm, e.2.2.symm⟩
        go_wp2
        refine bodyPost_ret (v := .tuple #[.agg #[.int .i64 0, .int .i64 0], .bool true, .bool false]) ?_ rfl ⟨rfl, hfin.out _ _ _⟩
        simp [results, Tryz.results13, go_sem, r0, r1]
end Go.Proofs.YtkffjjlmoojffaaGreatDoor
namespace Go.Proofs.YtkffjjlmoojffaaGreatDoor
open Go.RowKit
set_option maxHeartbeats 4000000 in
theorem known13 : PureS 5 #[] (.bool true) := by
  intro w hS
  obtain ⟨n, k, hA1, hA2⟩ := all_a
  have rA : readM netA = .ok n k := by unfold readM; rw [if_pos lexA.2]; exact hA1
  have rB : readM netB = .bad 14 8 := by unfold readM; rw [if_pos lexB.2]; exact all_b
  have ha := tp_read netA (by decide) w hS
  have hb := fun w hS => tp_read netB (by decide) w hS
  rw [rA] at ha
  simp only [rB] at hb
  unfold TRead at ha hb
  simp only [line_b.1, line_b.2] at ha hb
  have hnx : nextV (thereF n ⟨0, 2⟩) n.links ⟨0, 2⟩ = (⟨1, 1⟩, true, true) ∧ n.links.length = 1 ∧ n.names.length = 2 ∧ n.ports.length = 2 := by
    rw [hA2, next_a.1]; exact next_a.2
  have hS' := Lib.hid hS
  have ha' := Lib.hid ha
  have hb' := Lib.hid hb
  have hnx' := Lib.hid hnx
  clear ha hb hS hA1 hA2 rA rB hnx
  unfold netA at ha'
  unfold netB at hb'
  go_enter Tryz.func5, Tryz.ntmps5
  go_wp2_with fail
  refine ha'.out.mono ?_
  rintro e W1 ⟨hB1, sw, po, li, pvs, rfl, hNI⟩
  obtain ⟨p1, c1, rfl⟩ := own_sl3 hNI.sw
  obtain ⟨p2, c2, rfl⟩ := own_sl3 hNI.po
  obtain ⟨p3, c3, rfl⟩ := own_sl3 hNI.li
  clear ha'
  go_upto_region 2 with (fail)
  obtain ⟨W2, hW2, hB2, hz2, ca, cb, fa, fb⟩ := box2 W1 #[.slice p1 n.names.length c1, .slice p2 pvs.length c2, .slice p3 n.links.length c3] #[.int .i64 0, .int .i64 0, .int .i64 0] 27 32
  rw [← hW2]
  clear hW2
  have hS2 := hS'.out.below (hB1.trans (hB2.mono hB1.size))
  have hb2 := Lib.hid (hb'.out W2 hS2)
  clear hb' hS2
  go_wp2_with fail
  refine hb2.out.mono ?_
  rintro e W3 ⟨hB3, rfl⟩
  clear hb2
  go_upto_region 3 with (fail)
  obtain ⟨W4, hW4, hB4, hz4, da, db, ga, gb⟩ := box2 W3 #[.slice none 0 0, .slice none 0 0, .slice none 0 0] #[.int .i64 8, .int .i64 1, .int .i64 15] 27 32
  rw [← hW4]
  clear hW4
  have up : ∀ (b i : Nat) (v : Value), b < W2.heap.size → (∀ y, (Go.Proofs.YtkffjjlmoojffaaGreatDoor.plus W2 y).cell? ⟨b, i, none⟩ = some v) → ∀ y, (Go.Proofs.YtkffjjlmoojffaaGreatDoor.plus W4 y).cell? ⟨b, i, none⟩ = some v := fun b i v hb h y => by
    have h2 := h ⟨#[], W2.drawn⟩
    rw [plus_self] at h2
    have h3 := (hB3.cell (p := ⟨b, i, none⟩) hb).trans h2
    have h4 := (hB4.cell (p := ⟨b, i, none⟩) (Nat.lt_of_lt_of_le hb hB3.size)).trans h3
    exact plus_cell (Nat.lt_of_lt_of_le hb (Nat.le_trans hB3.size hB4.size)) h4 y
  have x0 := up _ 0 _ (by omega) (ca 0 _ rfl)
  have x1 := up _ 1 _ (by omega) (ca 1 _ rfl)
  have x2 := up _ 2 _ (by omega) (ca 2 _ rfl)
  have y0 := up _ 0 _ (by omega) (cb 0 _ rfl)
  have y1 := up _ 1 _ (by omega) (cb 1 _ rfl)
  have y2 := up _ 2 _ (by omega) (cb 2 _ rfl)
  have z0 := db 0 _ rfl
  have z1 := db 1 _ rfl
  have z2 := db 2 _ rfl
  have hB24 := hB3.trans (hB4.mono hB3.size)
  have hB14 := hB2.trans (hB24.mono hB2.size)
  have hAt := hNI.netAt.below hB14
  obtain ⟨hn1, hn2, hn3, hn4⟩ := hnx'.out
  have hN := tp_next (w := W4) (.slice p2 pvs.length c2) (.slice p3 n.links.length c3) pvs n ⟨0, 2⟩ p1 n.names.length c1 hAt.po (by omega) rfl hAt.li (by omega)
  rw [hn1] at hN
  unfold endV at hN
  simp only at hN
  replace hN := Lib.hid hN
  have hfin := Lib.hid (hB1.trans (hB14.mono hB1.size))
  have xx0 := x0 ⟨#[], W4.drawn⟩
  have xx1 := x1 ⟨#[], W4.drawn⟩
  have xx2 := x2 ⟨#[], W4.drawn⟩
  rw [plus_self] at xx0 xx1 xx2
  have hlt1 : W1.heap.size + 1 < W4.heap.size := by have := hB24.size; omega
  have hlt3 : W3.heap.size + 1 < W4.heap.size := by omega
  clear hAt hn1 hn2 hn3 hn4 hnx' hNI hB1 hB2 hB3 hB4 hB24 hB14 up ca cb fa fb da db ga gb hz2 hz4
  go_wp2_with fail
  refine hN.out.mono ?_
  rintro e W5 ⟨rfl, x, rfl⟩
  go_upto_region 4 with (fail)
  obtain ⟨W6, hW6, hB6, hz6, ea, ha⟩ := box1 (Go.Proofs.YtkffjjlmoojffaaGreatDoor.plus W4 x) #[.int .i64 1, .int .i64 1] 41
  rw [← hW6]
  clear hW6
  have hsz4 := size_plus W4 x
  have up : ∀ (b i : Nat) (v : Value), b < W4.heap.size → (∀ y, (Go.Proofs.YtkffjjlmoojffaaGreatDoor.plus W4 y).cell? ⟨b, i, none⟩ = some v) → ∀ y, (Go.Proofs.YtkffjjlmoojffaaGreatDoor.plus W6 y).cell? ⟨b, i, none⟩ = some v := fun b i v hb h y => by
    have h4 := (hB6.cell (p := ⟨b, i, none⟩) (Nat.lt_of_lt_of_le hb hsz4)).trans (h x)
    exact plus_cell (Nat.lt_of_lt_of_le hb (Nat.le_trans hsz4 hB6.size)) h4 y
  have k0 := up _ 0 _ (by omega) y0
  have k1 := up _ 1 _ (by omega) y1
  have k2 := up _ 2 _ (by omega) y2
  have m0 := up _ 0 _ (by omega) z0
  have m1 := up _ 1 _ (by omega) z1
  have m2 := up _ 2 _ (by omega) z2
  have q0 := ea 0 _ rfl
  have q1 := ea 1 _ rfl
  have hf6 := Lib.hid (hfin.out.trans (((below_plus W4 x).trans (hB6.mono hsz4)).mono hfin.out.size))
  clear up y0 y1 y2 z0 z1 z2 x0 x1 x2 xx0 xx1 xx2 hN hfin
  rw [← plus_self W6]
  go_wp2
  go_ret
  exact ⟨rfl, plus_of_below (by first | exact hf6.out.trans ((below_plus W6 _).mono hf6.out.size) | exact hf6.out)⟩
end Go.Proofs.YtkffjjlmoojffaaGreatDoor
