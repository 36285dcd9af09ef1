/-
  WHAT IS PROVED HERE: a part of the proof of the claim's theorem: NetTn; NetSm.
-/
import Derived.Test.YtkffjjlmoojffaaGreatDoorRows
import Derived.Test.YtkffjjlmoojffaaGreatDoorB22
import Derived.Test.YtkffjjlmoojffaaGreatDoorB20
set_option linter.all false
namespace Go.Proofs.YtkffjjlmoojffaaGreatDoor
open Go.RowKit
set_option maxHeartbeats 4000000 in
theorem tp_next {w : World} (vp vl : Value) (pvs : List Sl3) (N : Net') (e : End') (p1 : Option Addr) (n1 c1 : Nat) (h : PortsAt w vp pvs N.ports) (hb : N.ports.length ≤ 1048576) (hn1 : N.names.length = n1) (hl : Lies w 4 linkC vl N.links) (hlb : N.links.length ≤ 1048576) :
    Calls Tryz.prog 13 #[.agg #[.slice p1 n1 c1, vp, vl], endV e] w (Back w (.tuple #[endV (nextV (thereF N e) N.links e).1, .bool (nextV (thereF N e) N.links e).2.1, .bool (nextV (thereF N e) N.links e).2.2])) := by
  obtain ⟨R, hR⟩ : ∃ R, nextV (thereF N e) N.links e = R := ⟨_, rfl⟩
  rw [hR]
  obtain ⟨⟨Rs, Rp⟩, Rt, Rl⟩ := R
  simp only
  obtain ⟨pl, cl, rfl, hcl⟩ := hl
  obtain ⟨n, hn⟩ : ∃ n, N.links.length = n := ⟨_, rfl⟩
  rw [hn] at hlb ⊢
  have hT := fun (W : World) (hB : Below w.heap.size w W) => tp_there (w := W) pvs N e vp p1 pl n1 c1 n cl (h.below hB) hb hn1
  obtain ⟨B, hBb⟩ : ∃ B, thereF N e = B := ⟨_, rfl⟩
  rw [hBb] at hR hT
  obtain ⟨pp, cp, hpp, -⟩ := h.row
  obtain ⟨np, hnp⟩ : ∃ np, pvs.length = np := ⟨_, rfl⟩
  rw [hnp] at hpp
  subst hpp
  obtain ⟨sw, po⟩ := e
  obtain ⟨W, hW, hBW, hz, ca, cb, cc, fa, fb, fc⟩ := box3 w #[.slice p1 n1 c1, .slice pp np cp, .slice pl n cl] #[.int .i64 sw, .int .i64 po] #[.int .i64 0, .int .i64 0] 27 41 41
  have hT' := Lib.hid (hT W hBW)
  unfold endV at hT' ⊢
  simp only at hT' ⊢
  have a0 := ca 0 _ rfl
  have a1 := ca 1 _ rfl
  have a2 := ca 2 _ rfl
  have b0 := cb 0 _ rfl
  have b1 := cb 1 _ rfl
  have r0 := cc 0 _ rfl
  have r1 := cc 1 _ rfl
  have hBW' := Lib.hid hBW
  have hcl' := Lib.hid hcl
  have hn' := Lib.hid hn
  replace hR := Lib.hid hR
  have hfin : Hid (∀ (y : Ext) (u v : Value), ∃ x, ((Go.Proofs.YtkffjjlmoojffaaGreatDoor.plus W y).setCell ⟨w.heap.size + 1 + 1, 0, none⟩ u).setCell ⟨w.heap.size + 1 + 1, 1, none⟩ v = Go.Proofs.YtkffjjlmoojffaaGreatDoor.plus w x) := by
    show ∀ y u v, _
    intro y u v
    exact own_end hBW (show w.heap.size ≤ w.heap.size + 1 + 1 by omega) u v
  clear hT h hcl hn ca cb cc fa fb hz hBb hnp
  go_enter Tryz.func13, Tryz.ntmps13
  go_upto_region 1 with (fail)
  rw [← hW, ← plus_self W]
  clear hW
  rw [← plus_self W] at hT'
  go_wp2_with fail
  refine hT'.out.mono ?_
  rintro e w' ⟨rfl, x, rfl⟩
  rw [plus_plus]
  generalize (⟨(⟨#[], W.drawn⟩ : Ext).blocks ++ x.blocks, x.draws⟩ : Ext) = y
  clear a0 a1 hT'
  cases B with
  | false =>
    obtain ⟨rfl, rfl, rfl, rfl⟩ : Rs = 0 ∧ Rp = 0 ∧ Rt = false ∧ Rl = false := by have e := hR.out; unfold nextV at e; rw [if_neg (by decide)] at e; simp only [Prod.mk.injEq, End'.mk.injEq] at e; exact ⟨e.1.1.symm, e.1.2.symm, e.2.1.symm, e.2.2.symm⟩
    go_wp2
    refine bodyPost_ret (v := .tuple #[.agg #[.int .i64 0, .int .i64 0], .bool false, .bool false]) ?_ rfl ⟨rfl, hfin.out _ _ _⟩
    simp [results, Tryz.results13, go_sem, r0, r1]
  | true =>
    go_wp2
    go_loopw [8, 17] (fun _ iv wr => ∃ k : Nat, k ≤ n ∧ iv = .int .i64 (k : Int) ∧ (∃ y, wr = Go.Proofs.YtkffjjlmoojffaaGreatDoor.plus W y) ∧ Hid (∀ (j : Nat) (x : End' × End'), j < k → N.links[j]? = some x → ¬ x.1 = ⟨sw, po⟩ ∧ ¬ x.2 = ⟨sw, po⟩)) (fun _ iv _ => n - (intOf iv).toNat)
    case atStart => exact ⟨0, Nat.zero_le _, rfl, ⟨y, rfl⟩, fun j x hj => absurd hj (Nat.not_lt_zero _)⟩
    case round =>
      obtain ⟨k, hk, rfl, ⟨y2, rfl⟩, hno⟩ := hrel
      by_cases hlt : k < n
      · obtain ⟨⟨qa, qb⟩, hq⟩ : ∃ q, N.links[k]? = some q := ⟨N.links[k]'(by rw [hn'.out]; exact hlt), List.getElem?_eq_getElem _⟩
        obtain ⟨g, rfl, hg, hcell⟩ := hcl'.out k _ hq
        have hat := Lib.hid (nextF_at hq hno.out)
        have cc := fun j u (hu : (linkC (qa, qb))[j]? = some u) y => ((below_plus W y).cell (p := ⟨g, k * 4 + j, none⟩) (Nat.lt_of_lt_of_le hg hBW'.out.size)).trans ((hBW'.out.cell (p := ⟨g, k * 4 + j, none⟩) hg).trans (hcell j u hu))
        have d0 := cc 0 _ rfl
        have d1 := cc 1 _ rfl
        have d2 := cc 2 _ rfl
        have d3 := cc 3 _ rfl
        simp only [Nat.add_zero] at d0
        have k0 : ¬ ((k : Int) < 0) := by omega
        have k1 : (k : Int) < (n : Int) := by omega
        obtain ⟨BA, hBA⟩ : ∃ B, decide (qa = ⟨sw, po⟩) = B := ⟨_, rfl⟩
        obtain ⟨BB, hBB⟩ : ∃ B, decide (qb = ⟨sw, po⟩) = B := ⟨_, rfl⟩
        have q1 := fun w => eql_end qa ⟨sw, po⟩ w
        have q2 := fun w => eql_end qb ⟨sw, po⟩ w
        rw [hBA] at q1
        rw [hBB] at q2
        replace hBA := Lib.hid hBA
        replace hBB := Lib.hid hBB
        obtain ⟨qa0, qa1⟩ := qa
        obtain ⟨qb0, qb1⟩ := qb
        simp only at q1 q2 d0 d1 d2 d3
        have hq' := Lib.hid hq
        clear hcell hq cc
        obtain ⟨V, hV⟩ : ∃ V, (Go.Proofs.YtkffjjlmoojffaaGreatDoor.plus W y2).alloc (.cells #[.int .i64 qa0, .int .i64 qa1, .int .i64 qb0, .int .i64 qb1] 68) = V := ⟨_, rfl⟩
        obtain ⟨x3, hx3⟩ : ∃ x, V = Go.Proofs.YtkffjjlmoojffaaGreatDoor.plus W x := by
          rw [← hV]
          exact plus_of_below ((below_plus W y2).alloc (below_plus W y2).size _)
        have l0 : V.cell? ⟨(Go.Proofs.YtkffjjlmoojffaaGreatDoor.plus W y2).heap.size, 0, none⟩ = some (.int .i64 qa0) := by rw [← hV]; exact (cell_new _ _ _ _ 0 rfl).trans rfl
        have l1 : V.cell? ⟨(Go.Proofs.YtkffjjlmoojffaaGreatDoor.plus W y2).heap.size, 1, none⟩ = some (.int .i64 qa1) := by rw [← hV]; exact (cell_new _ _ _ _ 1 rfl).trans rfl
        have l2 : V.cell? ⟨(Go.Proofs.YtkffjjlmoojffaaGreatDoor.plus W y2).heap.size, 2, none⟩ = some (.int .i64 qb0) := by rw [← hV]; exact (cell_new _ _ _ _ 2 rfl).trans rfl
        have l3 : V.cell? ⟨(Go.Proofs.YtkffjjlmoojffaaGreatDoor.plus W y2).heap.size, 3, none⟩ = some (.int .i64 qb1) := by rw [← hV]; exact (cell_new _ _ _ _ 3 rfl).trans rfl
        rw [hx3] at l0 l1 l2 l3
        cases BA with
        | true =>
          obtain ⟨rfl, rfl, rfl, rfl⟩ : Rs = qb0 ∧ Rp = qb1 ∧ Rt = true ∧ Rl = true := by
            have e := hR.out
            unfold nextV at e
            rw [if_pos rfl, hat.out.1 (of_decide_eq_true hBA.out)] at e
            simp only [Prod.mk.injEq, End'.mk.injEq] at e
            exact ⟨e.1.1.symm, e.1.2.symm, e.2.1.symm, e.2.2.symm⟩
          go_upto_region 6 with (fail)
          try rw [hV, hx3]
          clear hV hx3
          go_wp2
          refine bodyPost_ret (v := .tuple #[.agg #[.int .i64 Rs, .int .i64 Rp], .bool true, .bool true]) ?_ rfl ⟨rfl, hfin.out _ _ _⟩
          simp [results, Tryz.results13, go_sem, r0, r1]
        | false =>
          cases BB with
          | true =>
            obtain ⟨rfl, rfl, rfl, rfl⟩ : Rs = qa0 ∧ Rp = qa1 ∧ Rt = true ∧ Rl = true := by
              have e := hR.out
              unfold nextV at e
              rw [if_pos rfl, hat.out.2 (of_decide_eq_false hBA.out) (of_decide_eq_true hBB.out)] at e
              simp only [Prod.mk.injEq, End'.mk.injEq] at e
              exact ⟨e.1.1.symm, e.1.2.symm, e.2.1.symm, e.2.2.symm⟩
            go_upto_region 6 with (fail)
            try rw [hV, hx3]
            clear hV hx3
            go_wp2
            refine bodyPost_ret (v := .tuple #[.agg #[.int .i64 Rs, .int .i64 Rp], .bool true, .bool true]) ?_ rfl ⟨rfl, hfin.out _ _ _⟩
            simp [results, Tryz.results13, go_sem, r0, r1]
          | false =>
            go_upto_region 6 with (fail)
            try rw [hV, hx3]
            clear hV hx3
            go_wp2
            go_roundw
            case rel =>
              refine ⟨k + 1, hlt, congrArg (Value.int .i64) (by omega), ⟨_, rfl⟩, Lib.hid fun j x hj hx => ?_⟩
              by_cases hjk : j = k
              · subst hjk
                obtain rfl := Option.some.inj (hq'.out.symm.trans hx)
                exact ⟨of_decide_eq_false hBA.out, of_decide_eq_false hBB.out⟩
              · exact hno.out j x (by omega) hx
            case measure => exact step_lt k n hlt
      · obtain rfl : k = n := by omega
        obtain ⟨rfl, rfl, rfl, rfl⟩ : Rs = 0 ∧ Rp = 0 ∧ Rt = true ∧ Rl = false := by
          have e := hR.out
          unfold nextV at e
          rw [if_pos rfl, nextF_none (fun j x hj hx => hno.out j x (by have := hn'.out; omega) hx)] at e
          simp only [Prod.mk.injEq, End'.mk.injEq] at e
          exact ⟨e.1.1.symm, e.1.2.symm, e.2.1.symm, e.2.2.symm⟩
        go_wp2
        refine bodyPost_ret (v := .tuple #[.agg #[.int .i64 0, .int .i64 0], .bool true, .bool false]) ?_ rfl ⟨rfl, hfin.out _ _ _⟩
        simp [results, Tryz.results13, go_sem, r0, r1]
end Go.Proofs.YtkffjjlmoojffaaGreatDoor
namespace Go.Proofs.YtkffjjlmoojffaaGreatDoor
open Go.RowKit
structure NetAt (w : World) (sw po li : Value) (pvs : List Sl3) (n : Net') : Prop where
  sw : Lies w 1 strC sw n.names
  po : PortsAt w po pvs n.ports
  li : Lies w 4 linkC li n.links
theorem NetAt.below {w w' : World} {sw po li : Value} {pvs : List Sl3} {n : Net'} (h : NetAt w sw po li pvs n) (hB : Below w.heap.size w w') : NetAt w' sw po li pvs n := ⟨h.sw.below hB, h.po.below hB, h.li.below hB⟩
theorem NI.netAt {base : Nat} {W : World} {sw po li : Value} {pvs : List Sl3} {n : Net'} (h : NI base W sw po li pvs n) : NetAt W sw po li pvs n :=
  ⟨own_lies h.sw strC_len, ⟨own_lies h.po slC_len, h.len, fun i x ps hx hp => ⟨own_lies (h.each i x ps hx hp).1 intC_len, (h.each i x ps hx hp).2⟩⟩, own_lies h.li linkC_len⟩
theorem neq_link (x : End' × End') (w : World) : (binOp .neq 68 (.agg #[.int .i64 x.1.sw, .int .i64 x.1.po, .int .i64 x.2.sw, .int .i64 x.2.po]) (.agg #[.int .i64 x.1.sw, .int .i64 x.1.po, .int .i64 x.2.sw, .int .i64 x.2.po])).run Tryz.prog w = .ok (.bool false) w := by
  obtain ⟨⟨a, b⟩, c, d⟩ := x
  go_simp
end Go.Proofs.YtkffjjlmoojffaaGreatDoor
