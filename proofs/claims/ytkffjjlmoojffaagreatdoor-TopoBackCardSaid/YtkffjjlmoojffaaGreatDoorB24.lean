/-
  WHAT IS PROVED HERE: a part of the proof of the claim's theorem: NtA.
-/
import Derived.Test.YtkffjjlmoojffaaGreatDoorRows
import Derived.Test.YtkffjjlmoojffaaGreatDoorB23
set_option linter.all false
namespace Go.Proofs.YtkffjjlmoojffaaGreatDoor
open Go.RowKit
def LiesO {α : Type} (w : World) (C : Nat) (f : α → List Value) (v : Value) (l : List α) : Prop :=
  ∃ p c, v = .slice p l.length c ∧ ∀ i x, l[i]? = some x → ∃ g o, p = some ⟨g, o, none⟩ ∧ g < w.heap.size ∧ ∀ j u, (f x)[j]? = some u → w.cell? ⟨g, o + i * C + j, none⟩ = some u
theorem LiesO.below {α : Type} {w w' : World} {C : Nat} {f : α → List Value} {v : Value} {l : List α} (h : LiesO w C f v l) (hB : Below w.heap.size w w') : LiesO w' C f v l := by
  obtain ⟨p, c, hv, h⟩ := h
  refine ⟨p, c, hv, fun i x hx => ?_⟩
  obtain ⟨g, o, hp, hg, hc⟩ := h i x hx
  exact ⟨g, o, hp, Nat.lt_of_lt_of_le hg hB.size, fun j u hu => (hB.cell (p := ⟨g, o + i * C + j, none⟩) hg).trans (hc j u hu)⟩
theorem LiesO.plus {α : Type} {w : World} {C : Nat} {f : α → List Value} {v : Value} {l : List α} (h : LiesO w C f v l) (x : Ext) : LiesO (plus w x) C f v l := h.below (below_plus w x)
theorem Lies.any {α : Type} {w : World} {C : Nat} {f : α → List Value} {v : Value} {l : List α} (h : Lies w C f v l) : LiesO w C f v l := by
  obtain ⟨p, c, hv, h⟩ := h
  refine ⟨p, c, hv, fun i x hx => ?_⟩
  obtain ⟨g, hp, hg, hc⟩ := h i x hx
  exact ⟨g, 0, hp, hg, fun j u hu => by rw [Nat.zero_add]; exact hc j u hu⟩
structure PortsO (w : World) (v : Value) (pvs : List Sl3) (ports : List (List Int)) : Prop where
  row : LiesO w 1 slC v pvs
  len : pvs.length = ports.length
  each : ∀ (i : Nat) (x : Sl3) (ps : List Int), pvs[i]? = some x → ports[i]? = some ps → LiesO w 1 intC x.v ps ∧ ps.length ≤ 281474976710656
theorem PortsO.below {w w' : World} {v : Value} {pvs : List Sl3} {ports : List (List Int)} (h : PortsO w v pvs ports) (hB : Below w.heap.size w w') : PortsO w' v pvs ports :=
  ⟨h.row.below hB, h.len, fun i x ps hx hp => ⟨(h.each i x ps hx hp).1.below hB, (h.each i x ps hx hp).2⟩⟩
structure NetO (w : World) (sw po li : Value) (pvs : List Sl3) (n : Net') : Prop where
  cap : ∀ p m c, sw = .slice p m c → m ≤ c
  sw : LiesO w 1 strC sw n.names
  po : PortsO w po pvs n.ports
  li : LiesO w 4 linkC li n.links
  b1 : n.names.length ≤ 281474976710656
  b2 : n.ports.length ≤ 281474976710656
  b3 : n.links.length ≤ 281474976710656
theorem NetO.below {w w' : World} {sw po li : Value} {pvs : List Sl3} {n : Net'} (h : NetO w sw po li pvs n) (hB : Below w.heap.size w w') : NetO w' sw po li pvs n := ⟨h.cap, h.sw.below hB, h.po.below hB, h.li.below hB, h.b1, h.b2, h.b3⟩
theorem NetAt.any {w : World} {sw po li : Value} {pvs : List Sl3} {n : Net'} (h : NetAt w sw po li pvs n) (hc : ∀ p m c, sw = .slice p m c → m ≤ c) (b1 : n.names.length ≤ 281474976710656) (b2 : n.ports.length ≤ 281474976710656) (b3 : n.links.length ≤ 281474976710656) : NetO w sw po li pvs n :=
  ⟨hc, h.sw.any, ⟨h.po.row.any, h.po.len, fun i x ps hx hp => ⟨(h.po.each i x ps hx hp).1.any, Nat.le_trans (h.po.each i x ps hx hp).2 (by decide)⟩⟩, h.li.any, b1, b2, b3⟩
theorem to_contains {w : World} (v : Value) (zs : List Int) (x : Int) (h : LiesO w 1 intC v zs) (hb : zs.length ≤ 281474976710656) :
    Calls Tryz.prog 58 #[v, .int .i64 x] w fun e w' => e = .returned (.bool (decide (x ∈ zs))) ∧ w' = w := by
  obtain ⟨p, c, rfl, hc⟩ := h
  by_cases hn : 0 < zs.length
  · obtain ⟨g, o, rfl, hg, _⟩ := hc 0 (zs[0]'hn) (List.getElem?_eq_getElem hn)
    have := Tryz.slices_Contains_int g o zs.length c zs x w (Nat.le_refl _) (by omega) (fun j hj => by
      obtain ⟨g', o', hg', _, hcell⟩ := hc j (zs[j]'hj) (List.getElem?_eq_getElem hj)
      simp only [Option.some.injEq, Addr.mk.injEq, and_true] at hg'
      obtain ⟨rfl, rfl⟩ := hg'
      have := hcell 0 _ rfl
      simpa [List.getD, hj] using this)
    rw [List.take_length, show zs.contains x = decide (x ∈ zs) by rw [Bool.eq_iff_iff, List.contains_iff_mem, decide_eq_true_eq]] at this
    exact this
  · obtain rfl : zs = [] := List.length_eq_zero_iff.1 (by omega)
    exact Tryz.slices_Contains_int_empty p c x w
set_option maxHeartbeats 2000000 in
theorem to_there {w : World} (pvs : List Sl3) (n : Net') (e : End') (vp : Value) (p1 p3 : Option Addr) (n1 c1 n3 c3 : Nat) (h : PortsO w vp pvs n.ports) (hb : n.ports.length ≤ 281474976710656) (hn1 : n.names.length = n1) :
    Calls Tryz.prog 39 #[.agg #[.slice p1 n1 c1, vp, .slice p3 n3 c3], endV e] w (Back w (.bool (thereF n e))) := by
  obtain ⟨p, c, rfl, hc⟩ := h.row
  obtain ⟨np, hnp⟩ : ∃ np, n.ports.length = np := ⟨_, rfl⟩
  have hpn : pvs.length = np := h.len.trans hnp
  rw [hpn]
  obtain ⟨sw, po⟩ := e
  obtain ⟨B, hB⟩ : ∃ B, thereF n ⟨sw, po⟩ = B := ⟨_, rfl⟩
  rw [hB]
  unfold thereF at hB
  simp only at hB
  rw [hnp] at hB hb
  rw [hn1] at hB
  obtain ⟨W, hW, hBW, hz, ca, cb, fa, fb⟩ := box2 w #[.slice p1 n1 c1, .slice p np c, .slice p3 n3 c3] #[.int .i64 sw, .int .i64 po] 27 41
  have a0 := ca 0 _ rfl
  have a1 := ca 1 _ rfl
  have b0 := cb 0 _ rfl
  have b1 := cb 1 _ rfl
  have hBW' := Lib.hid hBW
  unfold endV
  by_cases h0 : 0 ≤ sw
  · obtain ⟨k, rfl⟩ : ∃ k : Nat, sw = (k : Int) := ⟨sw.toNat, by omega⟩
    by_cases h2 : k < n1
    · by_cases h1 : k < np
      · obtain ⟨x, hx⟩ : ∃ x, pvs[k]? = some x := ⟨_, List.getElem?_eq_getElem (by omega)⟩
        obtain ⟨ps, hps⟩ : ∃ ps, n.ports[k]? = some ps := ⟨_, List.getElem?_eq_getElem (by omega)⟩
        obtain ⟨g, o, rfl, hg, hcell⟩ := hc k x hx
        have hcg := fun y => ((below_plus W y).cell (p := ⟨g, o + k, none⟩) (by show g < W.heap.size; omega)).trans ((hBW.cell (p := ⟨g, o + k, none⟩) hg).trans (by simpa using hcell 0 _ rfl))
        obtain ⟨hl, hlb⟩ := h.each k x ps hx hps
        have hH := Lib.hid (fun y => (to_contains (w := Go.Proofs.YtkffjjlmoojffaaGreatDoor.plus W y) x.v ps po ((hl.below hBW).plus y) hlb).mono (fun _ _ ⟨he, hz⟩ => (⟨he, y, hz⟩ : (_ = Ending.returned (.bool (decide (po ∈ ps)))) ∧ ∃ z, _ = Go.Proofs.YtkffjjlmoojffaaGreatDoor.plus W z)))
        have hB2 : decide (po ∈ ps) = B := by
          rw [← hB]
          have e1 : ((k : Int)).toNat = k := by omega
          rw [e1, hps]
          simp [h1, h2]
        rw [hB2] at hH
        obtain ⟨xp, xn, xc⟩ := x
        unfold Sl3.v at hH
        simp only at hH hcg
        have k0 : ¬ ((k : Int) < 0) := by omega
        have k1 : (k : Int) < (np : Int) := by omega
        have k3 : (k : Int) < (n1 : Int) := by omega
        have k2 : (0 : Int) ≤ (k : Int) := by omega
        clear hB hB2 hl hlb hps hx hcell hc h hpn hnp hn1 hBW ca cb fa fb hz h0
        go_enter Tryz.func39, Tryz.ntmps39
        go_upto_region 1 with (fail)
        rw [← hW]
        clear hW
        refine wp_region_own0 (by kernel_rfl) (by kernel_rfl) ?_
        repeat (go_big_quiet_step (first | (with_reducible exact hH.out _)))
        refine wpQuiet_nil ?_
        rintro _ ⟨y, rfl⟩
        go_wp2
        go_ret
        exact ⟨rfl, plus_of_below (hBW'.out.trans ((below_plus W y).mono hBW'.out.size))⟩
      · obtain rfl : B = false := by rw [← hB]; simp [h1]
        have k3 : (k : Int) < (n1 : Int) := by omega
        have k2 : (0 : Int) ≤ (k : Int) := by omega
        have h1' : decide ((k : Int) < (np : Int)) = false := decide_eq_false (by omega)
        have h1'' : decide (k < np) = false := decide_eq_false h1
        clear hB hc h hpn hnp hn1 hBW ca cb fa fb hz h0
        go_enter Tryz.func39, Tryz.ntmps39
        go_upto_region 1 with (fail)
        rw [← hW]
        clear hW
        refine wp_region_own0 (by kernel_rfl) (by kernel_rfl) ?_
        repeat (go_big_quiet_step (fail))
        refine wpQuiet_nil ?_
        rintro _ ⟨y, rfl⟩
        go_wp2
        go_ret
        exact ⟨rfl, plus_of_below (hBW'.out.trans ((below_plus W y).mono hBW'.out.size))⟩
    · obtain rfl : B = false := by rw [← hB]; simp [h2]
      have k2 : (0 : Int) ≤ (k : Int) := by omega
      have h1' : decide ((k : Int) < (n1 : Int)) = false := decide_eq_false (by omega)
      have h1'' : decide (k < n1) = false := decide_eq_false h2
      clear hB hc h hpn hnp hn1 hBW ca cb fa fb hz h0
      go_enter Tryz.func39, Tryz.ntmps39
      go_upto_region 1 with (fail)
      rw [← hW]
      clear hW
      refine wp_region_own0 (by kernel_rfl) (by kernel_rfl) ?_
      repeat (go_big_quiet_step (fail))
      refine wpQuiet_nil ?_
      rintro _ ⟨y, rfl⟩
      go_wp2
      go_ret
      exact ⟨rfl, plus_of_below (hBW'.out.trans ((below_plus W y).mono hBW'.out.size))⟩
  · obtain rfl : B = false := by rw [← hB]; simp [h0]
    replace h0 : decide (0 ≤ sw) = false := decide_eq_false h0
    clear hB hc h hpn hnp hn1 hBW ca cb fa fb hz
    go_enter Tryz.func39, Tryz.ntmps39
    go_upto_region 1 with (fail)
    rw [← hW]
    clear hW
    refine wp_region_own0 (by kernel_rfl) (by kernel_rfl) ?_
    repeat (go_big_quiet_step (fail))
    refine wpQuiet_nil ?_
    rintro _ ⟨y, rfl⟩
    go_wp2
    go_ret
    exact ⟨rfl, plus_of_below (hBW'.out.trans ((below_plus W y).mono hBW'.out.size))⟩
set_option maxHeartbeats 4000000 in
theorem to_next {w : World} (vp vl : Value) (pvs : List Sl3) (N : Net') (e : End') (p1 : Option Addr) (n1 c1 : Nat) (h : PortsO w vp pvs N.ports) (hb : N.ports.length ≤ 281474976710656) (hn1 : N.names.length = n1) (hl : LiesO w 4 linkC vl N.links) (hlb : N.links.length ≤ 281474976710656) :
    Calls Tryz.prog 13 #[.agg #[.slice p1 n1 c1, vp, vl], endV e] w (Back w (.tuple #[endV (nextV (thereF N e) N.links e).1, .bool (nextV (thereF N e) N.links e).2.1, .bool (nextV (thereF N e) N.links e).2.2])) := by
  obtain ⟨R, hR⟩ : ∃ R, nextV (thereF N e) N.links e = R := ⟨_, rfl⟩
  rw [hR]
  obtain ⟨⟨Rs, Rp⟩, Rt, Rl⟩ := R
  simp only
  obtain ⟨pl, cl, rfl, hcl⟩ := hl
  obtain ⟨n, hn⟩ : ∃ n, N.links.length = n := ⟨_, rfl⟩
  rw [hn] at hlb ⊢
  have hT := fun (W : World) (hB : Below w.heap.size w W) => to_there (w := W) pvs N e vp p1 pl n1 c1 n cl (h.below hB) hb hn1
  obtain ⟨B, hBb⟩ : ∃ B, thereF N e = B := ⟨_, rfl⟩
  rw [hBb] at hR hT
  obtain ⟨pp, cp, hpp, -⟩ := h.row
  obtain ⟨np, hnp⟩ : ∃ np, pvs.length = np := ⟨_, rfl⟩
  rw [hnp] at hpp
  subst hpp
  obtain ⟨sw, po⟩ := e
  obtain ⟨W, hW, hBW, hz, ca, cb, cc, fa, fb, fc⟩ := box3 w #[.slice p1 n1 c1, .slice pp np cp, .slice pl n cl] #[.int .i64 sw, .int .i64 po] #[.int .i64 0, .int .i64 0] 27 41 41
  have hT' := Lib.hid (hT W hBW)
  unfold endV at hT' ⊢
  simp only at hT' ⊢
  have a0 := ca 0 _ rfl
  have a1 := ca 1 _ rfl
  have a2 := ca 2 _ rfl
  have b0 := cb 0 _ rfl
  have b1 := cb 1 _ rfl
  have r0 := cc 0 _ rfl
  have r1 := cc 1 _ rfl
  have hBW' := Lib.hid hBW
  have hcl' := Lib.hid hcl
  have hn' := Lib.hid hn
  replace hR := Lib.hid hR
  have hfin : Hid (∀ (y : Ext) (u v : Value), ∃ x, ((Go.Proofs.YtkffjjlmoojffaaGreatDoor.plus W y).setCell ⟨w.heap.size + 1 + 1, 0, none⟩ u).setCell ⟨w.heap.size + 1 + 1, 1, none⟩ v = Go.Proofs.YtkffjjlmoojffaaGreatDoor.plus w x) := by
    show ∀ y u v, _
    intro y u v
    exact own_end hBW (show w.heap.size ≤ w.heap.size + 1 + 1 by omega) u v
  clear hT h hcl hn ca cb cc fa fb hz hBb hnp
  go_enter Tryz.func13, Tryz.ntmps13
  go_upto_region 1 with (fail)
  rw [← hW, ← plus_self W]
  clear hW
  rw [← plus_self W] at hT'
  go_wp2_with fail
  refine hT'.out.mono ?_
  rintro e w' ⟨rfl, x, rfl⟩
  rw [plus_plus]
  generalize (⟨(⟨#[], W.drawn⟩ : Ext).blocks ++ x.blocks, x.draws⟩ : Ext) = y
  clear a0 a1 hT'
  cases B with
  | false =>
    obtain ⟨rfl, rfl, rfl, rfl⟩ : Rs = 0 ∧ Rp = 0 ∧ Rt = false ∧ Rl = false := by have e := hR.out; unfold nextV at e; rw [if_neg (by decide)] at e; simp only [Prod.mk.injEq, End'.mk.injEq] at e; exact ⟨e.1.1.symm, e.1.2.symm, e.2.1.symm, e.2.2.symm⟩
    go_wp2
    refine bodyPost_ret (v := .tuple #[.agg #[.int .i64 0, .int .i64 0], .bool false, .bool false]) ?_ rfl ⟨rfl, hfin.out _ _ _⟩
    simp [results, Tryz.results13, go_sem, r0, r1]
  | true =>
    go_wp2
    go_loopw [8, 17] (fun _ iv wr => ∃ k : Nat, k ≤ n ∧ iv = .int .i64 (k : Int) ∧ (∃ y, wr = Go.Proofs.YtkffjjlmoojffaaGreatDoor.plus W y) ∧ Hid (∀ (j : Nat) (x : End' × End'), j < k → N.links[j]? = some x → ¬ x.1 = ⟨sw, po⟩ ∧ ¬ x.2 = ⟨sw, po⟩)) (fun _ iv _ => n - (intOf iv).toNat)
    case atStart => exact ⟨0, Nat.zero_le _, rfl, ⟨y, rfl⟩, fun j x hj => absurd hj (Nat.not_lt_zero _)⟩
    case round =>
      obtain ⟨k, hk, rfl, ⟨y2, rfl⟩, hno⟩ := hrel
      by_cases hlt : k < n
      · obtain ⟨⟨qa, qb⟩, hq⟩ : ∃ q, N.links[k]? = some q := ⟨N.links[k]'(by rw [hn'.out]; exact hlt), List.getElem?_eq_getElem _⟩
        obtain ⟨g, o, rfl, hg, hcell⟩ := hcl'.out k _ hq
        have hat := Lib.hid (nextF_at hq hno.out)
        have cc := fun j u (hu : (linkC (qa, qb))[j]? = some u) y => ((below_plus W y).cell (p := ⟨g, o + k * 4 + j, none⟩) (Nat.lt_of_lt_of_le hg hBW'.out.size)).trans ((hBW'.out.cell (p := ⟨g, o + k * 4 + j, none⟩) hg).trans (hcell j u hu))
        have d0 := cc 0 _ rfl
        have d1 := cc 1 _ rfl
        have d2 := cc 2 _ rfl
        have d3 := cc 3 _ rfl
        simp only [Nat.add_zero] at d0
        have k0 : ¬ ((k : Int) < 0) := by omega
        have k1 : (k : Int) < (n : Int) := by omega
        obtain ⟨BA, hBA⟩ : ∃ B, decide (qa = ⟨sw, po⟩) = B := ⟨_, rfl⟩
        obtain ⟨BB, hBB⟩ : ∃ B, decide (qb = ⟨sw, po⟩) = B := ⟨_, rfl⟩
        have q1 := fun w => eql_end qa ⟨sw, po⟩ w
        have q2 := fun w => eql_end qb ⟨sw, po⟩ w
        rw [hBA] at q1
        rw [hBB] at q2
        replace hBA := Lib.hid hBA
        replace hBB := Lib.hid hBB
        obtain ⟨qa0, qa1⟩ := qa
        obtain ⟨qb0, qb1⟩ := qb
        simp only at q1 q2 d0 d1 d2 d3
        have hq' := Lib.hid hq
        clear hcell hq cc
        obtain ⟨V, hV⟩ : ∃ V, (Go.Proofs.YtkffjjlmoojffaaGreatDoor.plus W y2).alloc (.cells #[.int .i64 qa0, .int .i64 qa1, .int .i64 qb0, .int .i64 qb1] 68) = V := ⟨_, rfl⟩
        obtain ⟨x3, hx3⟩ : ∃ x, V = Go.Proofs.YtkffjjlmoojffaaGreatDoor.plus W x := by
          rw [← hV]
          exact plus_of_below ((below_plus W y2).alloc (below_plus W y2).size _)
        have l0 : V.cell? ⟨(Go.Proofs.YtkffjjlmoojffaaGreatDoor.plus W y2).heap.size, 0, none⟩ = some (.int .i64 qa0) := by rw [← hV]; exact (cell_new _ _ _ _ 0 rfl).trans rfl
        have l1 : V.cell? ⟨(Go.Proofs.YtkffjjlmoojffaaGreatDoor.plus W y2).heap.size, 1, none⟩ = some (.int .i64 qa1) := by rw [← hV]; exact (cell_new _ _ _ _ 1 rfl).trans rfl
        have l2 : V.cell? ⟨(Go.Proofs.YtkffjjlmoojffaaGreatDoor.plus W y2).heap.size, 2, none⟩ = some (.int .i64 qb0) := by rw [← hV]; exact (cell_new _ _ _ _ 2 rfl).trans rfl
        have l3 : V.cell? ⟨(Go.Proofs.YtkffjjlmoojffaaGreatDoor.plus W y2).heap.size, 3, none⟩ = some (.int .i64 qb1) := by rw [← hV]; exact (cell_new _ _ _ _ 3 rfl).trans rfl
        rw [hx3] at l0 l1 l2 l3
        cases BA with
        | true =>
          obtain ⟨rfl, rfl, rfl, rfl⟩ : Rs = qb0 ∧ Rp = qb1 ∧ Rt = true ∧ Rl = true := by
            have e := hR.out
            unfold nextV at e
            rw [if_pos rfl, hat.out.1 (of_decide_eq_true hBA.out)] at e
            simp only [Prod.mk.injEq, End'.mk.injEq] at e
            exact ⟨e.1.1.symm, e.1.2.symm, e.2.1.symm, e.2.2.symm⟩
          go_upto_region 6 with (fail)
          try rw [hV, hx3]
          clear hV hx3
          go_wp2
          refine bodyPost_ret (v := .tuple #[.agg #[.int .i64 Rs, .int .i64 Rp], .bool true, .bool true]) ?_ rfl ⟨rfl, hfin.out _ _ _⟩
          simp [results, Tryz.results13, go_sem, r0, r1]
        | false =>
          cases BB with
          | true =>
            obtain ⟨rfl, rfl, rfl, rfl⟩ : Rs = qa0 ∧ Rp = qa1 ∧ Rt = true ∧ Rl = true := by
              have e := hR.out
              unfold nextV at e
              rw [if_pos rfl, hat.out.2 (of_decide_eq_false hBA.out) (of_decide_eq_true hBB.out)] at e
              simp only [Prod.mk.injEq, End'.mk.injEq] at e
              exact ⟨e.1.1.symm, e.1.2.symm, e.2.1.symm, e.2.2.symm⟩
            go_upto_region 6 with (fail)
            try rw [hV, hx3]
            clear hV hx3
            go_wp2
            refine bodyPost_ret (v := .tuple #[.agg #[.int .i64 Rs, .int .i64 Rp], .bool true, .bool true]) ?_ rfl ⟨rfl, hfin.out _ _ _⟩
            simp [results, Tryz.results13, go_sem, r0, r1]
          | false =>
            go_upto_region 6 with (fail)
            try rw [hV, hx3]
            clear hV hx3
            go_wp2
            go_roundw
            case rel =>
              refine ⟨k + 1, hlt, congrArg (Value.int .i64) (by omega), ⟨_, rfl⟩, Lib.hid fun j x hj hx => ?_⟩
              by_cases hjk : j = k
              · subst hjk
                obtain rfl := Option.some.inj (hq'.out.symm.trans hx)
                exact ⟨of_decide_eq_false hBA.out, of_decide_eq_false hBB.out⟩
              · exact hno.out j x (by omega) hx
            case measure => exact step_lt k n hlt
      · obtain rfl : k = n := by omega
        obtain ⟨rfl, rfl, rfl, rfl⟩ : Rs = 0 ∧ Rp = 0 ∧ Rt = true ∧ Rl = false := by
          have e := hR.out
          unfold nextV at e
          rw [if_pos rfl, nextF_none (fun j x hj hx => hno.out j x (by have := hn'.out; omega) hx)] at e
          simp only [Prod.mk.injEq, End'.mk.injEq] at e
          exact ⟨e.1.1.symm, e.1.2.symm, e.2.1.symm, e.2.2.symm⟩
        go_wp2
        refine bodyPost_ret (v := .tuple #[.agg #[.int .i64 0, .int .i64 0], .bool true, .bool false]) ?_ rfl ⟨rfl, hfin.out _ _ _⟩
        simp [results, Tryz.results13, go_sem, r0, r1]
end Go.Proofs.YtkffjjlmoojffaaGreatDoor
