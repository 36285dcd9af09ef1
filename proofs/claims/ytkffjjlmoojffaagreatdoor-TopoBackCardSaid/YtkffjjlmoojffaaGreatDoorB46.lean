/-
  WHAT IS PROVED HERE: a part of the proof of the claim's theorem: NtI.
-/
import Derived.Test.YtkffjjlmoojffaaGreatDoorRows
import Derived.Test.YtkffjjlmoojffaaGreatDoorB36
set_option linter.all false
namespace Go.Proofs.YtkffjjlmoojffaaGreatDoor
open Go.RowKit
theorem LiesO.at1 {α : Type} {w : World} {f : α → List Value} {p : Option Addr} {m c : Nat} {l : List α} (h : LiesO w 1 f (.slice p m c) l) {k : Nat} {x : α} (hx : l[k]? = some x) {u : Value} (hf : f x = [u]) : ∃ g o, p = some ⟨g, o, none⟩ ∧ w.cell? ⟨g, o + k, none⟩ = some u := by
  obtain ⟨q, c', hv, hc⟩ := h
  obtain ⟨g, o, hq, _, hcell⟩ := hc k x hx
  simp only [Value.slice.injEq] at hv
  refine ⟨g, o, hv.1.trans hq, ?_⟩
  have := hcell 0 u (by rw [hf]; rfl)
  simpa using this
theorem LiesO.len {α : Type} {w : World} {C : Nat} {f : α → List Value} {p : Option Addr} {m c : Nat} {l : List α} (h : LiesO w C f (.slice p m c) l) : m = l.length := by
  obtain ⟨q, c', hv, -⟩ := h
  simp only [Value.slice.injEq] at hv
  exact hv.2.1
set_option maxRecDepth 100000 in
set_option maxHeartbeats 8000000 in
theorem to_text {w : World} (hT0 : Tab w) (sw po li : Value) (pvs : List Sl3) (n : Net') (h : NetO w sw po li pvs n) (hlb : n.links.length ≤ 100000) (hz : ∀ x ∈ n.names, x.size ≤ 40) :
    Calls Tryz.prog 11 #[.agg #[sw, po, li]] w (Back w (.string (if netMay n = true then ⟨(textL n).toArray⟩ else ⟨#[]⟩))) := by
  have hN := h
  obtain ⟨p1, c1, rfl, -⟩ := h.sw
  obtain ⟨p2, c2, rfl, -⟩ := h.po.row
  obtain ⟨p3, c3, rfl, -⟩ := h.li
  have hplen := h.po.len
  obtain ⟨n1, hn1⟩ : ∃ n1, n.names.length = n1 := ⟨_, rfl⟩
  obtain ⟨n2, hn2⟩ : ∃ n2, pvs.length = n2 := ⟨_, rfl⟩
  obtain ⟨n3, hn3⟩ : ∃ n3, n.links.length = n3 := ⟨_, rfl⟩
  obtain ⟨W, hW, hBW, hzz, ca, fa⟩ := box1 w #[.slice p1 n1 c1, .slice p2 n2 c2, .slice p3 n3 c3] 27
  have a0 := ca 0 _ rfl
  have a1 := ca 1 _ rfl
  have a2 := ca 2 _ rfl
  have hM := to_may (w := W) _ _ _ pvs n (hN.below hBW) hlb (fun x hx => Nat.le_trans (hz x hx) (by decide))
  rw [hn1, hn2, hn3] at hM ⊢
  rw [hn1, hn2, hn3] at hN
  have hN' := Lib.hid (fun y => (hN.below hBW).below (below_plus W y))
  have hTW := Lib.hid (fun y => tab_plus (hT0.below hBW) y)
  have hBW' := Lib.hid hBW
  have hbx : w.heap.size < W.heap.size := by omega
  have hz' := Lib.hid hz
  have hn1' := Lib.hid hn1
  have hn2' := Lib.hid hn2
  have hn3' := Lib.hid hn3
  rw [hn3] at hlb
  have hplen' := Lib.hid hplen
  replace hM := Lib.hid hM
  obtain ⟨RT, hRT⟩ : ∃ R : ByteArray, (if netMay n = true then (⟨(textL n).toArray⟩ : ByteArray) else ⟨#[]⟩) = R := ⟨_, rfl⟩
  rw [hRT]
  replace hRT := Lib.hid hRT
  clear h hN hBW ca fa hT0 hz hn1 hn2 hn3 hzz hplen
  go_enter Tryz.func11, Tryz.ntmps11
  go_upto_region 1 with (fail)
  rw [← hW]
  clear hW
  have aa0 := a0 ⟨#[], W.drawn⟩
  have aa1 := a1 ⟨#[], W.drawn⟩
  have aa2 := a2 ⟨#[], W.drawn⟩
  rw [plus_self] at aa0 aa1 aa2
  go_wp2_with fail
  refine hM.out.mono ?_
  rintro e w' ⟨rfl, y, rfl⟩
  clear hM aa0 aa1 aa2
  cases hmay : netMay n with
  | false =>
    have hRT' := hRT.out
    rw [if_neg (by rw [hmay]; decide)] at hRT'
    subst hRT'
    go_wp2
    go_ret
    exact ⟨rfl, plus_of_below (hBW'.out.trans ((below_plus W y).mono hBW'.out.size))⟩
  | true =>
    have mm := mayN hmay
    have hN2 := hN'.out y
    have hT2 := hTW.out y
    have v0 := a0 y
    have v1 := a1 y
    have v2 := a2 y
    have hBV := hBW'.out.trans ((below_plus W y).mono hBW'.out.size)
    have hbv : w.heap.size < (Go.Proofs.YtkffjjlmoojffaaGreatDoor.plus W y).heap.size := Nat.lt_of_lt_of_le hbx (size_plus W y)
    have hRT' := hRT.out
    rw [if_pos hmay] at hRT'
    replace hRT' := Lib.hid hRT'
    clear hRT
    generalize Go.Proofs.YtkffjjlmoojffaaGreatDoor.plus W y = V at hN2 hT2 v0 v1 v2 hBV hbv ⊢
    have hcells : Hid (∀ wr, Below V.heap.size V wr → NetO wr (.slice p1 n1 c1) (.slice p2 n2 c2) (.slice p3 n3 c3) pvs n ∧ Tab wr ∧ wr.cell? ⟨w.heap.size, 0, none⟩ = some (.slice p1 n1 c1) ∧ wr.cell? ⟨w.heap.size, 1, none⟩ = some (.slice p2 n2 c2) ∧ wr.cell? ⟨w.heap.size, 2, none⟩ = some (.slice p3 n3 c3)) := Lib.hid fun wr hB =>
      ⟨hN2.below hB, hT2.below hB, (hB.cell (p := ⟨w.heap.size, 0, none⟩) hbv).trans v0, (hB.cell (p := ⟨w.heap.size, 1, none⟩) hbv).trans v1, (hB.cell (p := ⟨w.heap.size, 2, none⟩) hbv).trans v2⟩
    have hTI0 : Hid (TI V [] (V.alloc (.cells #[.pointer none, .slice none 0 0] 75))) := Lib.hid ⟨(Below.refl _ V).alloc (Nat.le_refl _) _, Lib.fresh_isBuilder _ _ V⟩
    have hfin : Hid (∀ wr, Below V.heap.size V wr → ∃ x, wr = Go.Proofs.YtkffjjlmoojffaaGreatDoor.plus w x) := Lib.hid fun wr hB => plus_of_below (hBV.trans (hB.mono hBV.size))
    have mm' := Lib.hid mm
    have hzip : Hid ((n.names.zip n.ports).length = n1) := Lib.hid (by rw [List.length_zip, mm.p]; have := hn1'.out; omega)
    have hn8 : n1 ≤ 8 := by have := mm.a; have := hn1'.out; omega
    have hn12 : n2 = n1 := by have := mm.p; have := hn1'.out; have := hn2'.out; have := hplen'.out; omega
    subst hn12
    clear hN2 hT2 v0 v1 v2 hBV hbv mm hN' hTW a0 a1 a2 hBW' hbx hmay
    go_upto_region 4 with (fail)
    generalize V.alloc (.cells #[.pointer none, .slice none 0 0] 75) = X0 at hTI0 ⊢
    obtain ⟨-, -, x0, -, -⟩ := hcells.out X0 hTI0.out.below
    go_wp2
    clear x0
    go_loopw [4, 5, 7, 16] (fun _ _ _ iv wr => ∃ k : Nat, k ≤ n2 ∧ iv = .int .i64 (k : Int) ∧ Hid (TI V (swsL ((n.names.zip n.ports).take k)) wr ∧ (swsL ((n.names.zip n.ports).take k)).length ≤ 300 * k)) (fun _ _ _ iv _ => n2 - (intOf iv).toNat)
    case atStart => exact ⟨0, Nat.zero_le _, rfl, hTI0.out, Nat.zero_le _⟩
    case round =>
      obtain ⟨k, hk, rfl, hI⟩ := hrel
      clear hTI0
      by_cases hlt : k < n2
      · obtain ⟨x, hx⟩ : ∃ q, n.names[k]? = some q := ⟨n.names[k]'(by rw [hn1'.out]; exact hlt), List.getElem?_eq_getElem _⟩
        obtain ⟨ps, hps⟩ : ∃ q, n.ports[k]? = some q := ⟨n.ports[k]'(by rw [mm'.out.p, hn1'.out]; exact hlt), List.getElem?_eq_getElem _⟩
        obtain ⟨s1, hs1⟩ : ∃ q, pvs[k]? = some q := ⟨pvs[k]'(by rw [hn2'.out]; exact hlt), List.getElem?_eq_getElem _⟩
        have hzk : (n.names.zip n.ports)[k]? = some (x, ps) := by rw [List.getElem?_zip_eq_some]; exact ⟨hx, hps⟩
        have hzk' := Lib.hid (swsL_take hzk)
        have hxz := hz'.out x (List.mem_of_getElem? hx)
        obtain ⟨hp8, -, hpin⟩ := portsMay_at mm'.out.ps hps
        replace hpin := Lib.hid hpin
        obtain ⟨hNr, hTr, z0, z1, z2⟩ := hcells.out wr hI.out.1.below
        obtain ⟨g, o, rfl, d0⟩ := hNr.sw.at1 hx rfl
        have k0 : ¬ ((k : Int) < 0) := by omega
        have k1 : (k : Int) < (n2 : Int) := by omega
        have hhz := headB_size hxz
        have hsz1 : ((⟨#[115, 119, 105, 116, 99, 104, 32]⟩ : ByteArray) ++ x).size ≤ 47 := by rw [ByteArray.size_append]; show 7 + x.size ≤ 47; omega
        have hwr := Lib.hid (bw_write V.heap.size V.heap.size _ (headB x) wr hI.out.1.b (by have := hI.out.2; omega) hI.out.1.below.size)
        unfold headB at hwr hhz
        clear hx hzk hNr hTr
        go_wp2_with fail
        refine hwr.out.mono ?_
        rintro e X1 ⟨rfl, hB1, hbel1⟩
        have hI1 : Hid (TI V (swsL ((n.names.zip n.ports).take k) ++ (headB x).data.toList) X1) := Lib.hid (hI.out.1.step hbel1 hB1)
        have hL1 : (swsL ((n.names.zip n.ports).take k) ++ (headB x).data.toList).length ≤ 300 * k + 49 := by
          rw [List.length_append, toList_size]
          have := headB_size hxz
          have := hI.out.2
          omega
        obtain ⟨T1, hT1⟩ : ∃ T1, swsL ((n.names.zip n.ports).take k) ++ (headB x).data.toList = T1 := ⟨_, rfl⟩
        rw [hT1] at hI1 hL1
        replace hT1 := Lib.hid hT1
        clear hwr hB1 hbel1 hI z0 z1 z2 d0 hhz hsz1
        obtain ⟨hNr, hTr, z0, z1, z2⟩ := hcells.out X1 hI1.out.below
        obtain ⟨g2, o2, rfl, d0⟩ := hNr.po.row.at1 hs1 rfl
        have hq := (hNr.po.each k s1 ps hs1 hps).1
        obtain ⟨s1p, s1n, s1c⟩ := s1
        unfold Sl3.v at hq
        simp only at hq d0
        obtain rfl := hq.len
        obtain ⟨m, hm⟩ : ∃ m, ps.length = m := ⟨_, rfl⟩
        rw [hm] at d0 hp8 hs1
        replace hm := Lib.hid hm
        have hs1' := Lib.hid hs1
        have hps' := Lib.hid hps
        clear hNr hTr hq hs1 hps
        go_wp2
        clear z0 z1 z2 d0
        go_loopw [7, 31] (fun _ jv wr => ∃ j : Nat, j ≤ m ∧ jv = .int .i64 (j : Int) ∧ Hid (TI V (T1 ++ portsL (ps.take j)) wr ∧ (T1 ++ portsL (ps.take j)).length ≤ 300 * k + 49 + 23 * j)) (fun _ jv _ => m - (intOf jv).toNat)
        case atStart => exact ⟨0, Nat.zero_le _, rfl, by simpa [portsL] using hI1.out, by simpa [portsL] using hL1⟩
        case round =>
          obtain ⟨j, hj, rfl, hJ⟩ := hrel
          clear hI1
          by_cases hjl : j < m
          · obtain ⟨p, hp⟩ : ∃ q, ps[j]? = some q := ⟨ps[j]'(by rw [hm.out]; exact hjl), List.getElem?_eq_getElem _⟩
            obtain ⟨hp0, hp511⟩ := hpin.out p (List.mem_of_getElem? hp)
            obtain ⟨hNr, hTr, z0, z1, z2⟩ := hcells.out wr hJ.out.1.below
            have hq := (hNr.po.each k _ ps hs1'.out hps'.out).1
            unfold Sl3.v at hq
            simp only at hq
            obtain ⟨g3, o3, rfl, d0⟩ := hq.at1 hp rfl
            have j0 : ¬ ((j : Int) < 0) := by omega
            have j1 : (j : Int) < (m : Int) := by omega
            have hIt := Lib.hid (lib_itoa p (by omega) (by omega) wr hTr)
            have hpz := portB_size hp0 hp511
            have htk := Lib.hid (portsL_take hp)
            have hiz := itoa_len p (by omega) (by omega)
            have hsz1 : ((⟨#[32]⟩ : ByteArray) ++ itoaB p).size ≤ 22 := by rw [ByteArray.size_append]; show 1 + _ ≤ 22; omega
            have hwr := Lib.hid (fun (x : Ext) => bw_write V.heap.size V.heap.size _ (portB p) (Go.Proofs.YtkffjjlmoojffaaGreatDoor.plus wr x) (hJ.out.1.plus x).b (by have := hJ.out.2; omega) (hJ.out.1.plus x).below.size)
            have hJL : Hid ((T1 ++ portsL (ps.take (j + 1))).length ≤ 300 * k + 49 + 23 * (j + 1)) := Lib.hid (by
              rw [htk.out, ← List.append_assoc, List.length_append, toList_size]
              have := hJ.out.2
              omega)
            unfold portB at hwr
            clear hp hNr hTr hq hpz
            have eP : Hid (portB p = (⟨#[32]⟩ : ByteArray) ++ itoaB p ++ ⟨#[59]⟩) := Lib.hid rfl
            generalize itoaB p = tq at hIt hwr hiz hsz1 eP
            go_wp2_with fail
            refine hIt.out.mono ?_
            rintro e w' ⟨rfl, x3, rfl⟩
            go_wp2_with fail
            refine (hwr.out _).mono ?_
            rintro e X2 ⟨rfl, hB2, hbel2⟩
            have hJ2 : Hid (TI V (T1 ++ portsL (ps.take (j + 1))) X2) := Lib.hid (by
              rw [htk.out, ← List.append_assoc, eP.out]
              exact (hJ.out.1.plus x3).step hbel2 hB2)
            clear hB2 hbel2 hwr hIt d0 z0 z1 z2
            go_wp2
            go_roundw
            case rel => exact ⟨j + 1, hjl, congrArg (Value.int .i64) (by omega), Lib.hid ⟨hJ2.out, hJL.out⟩⟩
            case measure => exact step_lt j m hjl
          · obtain rfl : j = m := by omega
            have hwr := Lib.hid (bw_write V.heap.size V.heap.size _ footB wr hJ.out.1.b (by have := hJ.out.2; show _ + 3 ≤ _; omega) hJ.out.1.below.size)
            have hJ0 := hJ.out
            rw [List.take_of_length_le (by have := hm.out; omega)] at hJ0
            replace hJ0 := Lib.hid hJ0
            unfold footB at hwr
            go_wp2_with fail
            refine hwr.out.mono ?_
            rintro e X2 ⟨rfl, hB2, hbel2⟩
            rw [List.take_of_length_le (by have := hm.out; omega)] at hB2
            have hJ2 : Hid (TI V (swsL ((n.names.zip n.ports).take (k + 1))) X2 ∧ (swsL ((n.names.zip n.ports).take (k + 1))).length ≤ 300 * (k + 1)) := Lib.hid (by
              have e : swsL ((n.names.zip n.ports).take (k + 1)) = T1 ++ portsL ps ++ footB.data.toList := by
                rw [hzk'.out, ← hT1.out]; unfold swL; simp only [List.append_assoc]
              rw [e]
              refine ⟨hJ0.out.1.step hbel2 hB2, ?_⟩
              rw [List.length_append]
              have := hJ0.out.2
              show _ + 3 ≤ _
              omega)
            clear hB2 hbel2 hwr hJ hJ0
            go_wp2
            go_roundw
            case rel => exact ⟨k + 1, hlt, congrArg (Value.int .i64) (by omega), hJ2⟩
            case measure => exact step_lt k n2 hlt
      · obtain rfl : k = n2 := by omega
        have hI0 := hI.out
        rw [List.take_of_length_le (by have := hzip.out; omega)] at hI0
        replace hI0 := Lib.hid hI0
        obtain ⟨-, -, -, -, z2⟩ := hcells.out wr hI0.out.1.below
        clear hI
        go_wp2
        clear z2
        go_loopw [9, 46] (fun _ iv wr => ∃ j : Nat, j ≤ n3 ∧ iv = .int .i64 (j : Int) ∧ Hid (TI V (swsL (n.names.zip n.ports) ++ linksL n (n.links.take j)) wr ∧ (swsL (n.names.zip n.ports) ++ linksL n (n.links.take j)).length ≤ 300 * k + 132 * j)) (fun _ iv _ => n3 - (intOf iv).toNat)
        case atStart => exact ⟨0, Nat.zero_le _, rfl, by simpa [linksL] using hI0.out.1, by simpa [linksL] using hI0.out.2⟩
        case round =>
          obtain ⟨j, hj, rfl, hJ⟩ := hrel
          clear hI0
          by_cases hjl : j < n3
          · obtain ⟨⟨⟨q0, q1⟩, ⟨q2, q3⟩⟩, hq⟩ : ∃ q, n.links[j]? = some q := ⟨n.links[j]'(by rw [hn3'.out]; exact hjl), List.getElem?_eq_getElem _⟩
            obtain ⟨e1, e2⟩ := mm'.out.ends _ (List.mem_of_getElem? hq)
            obtain ⟨u1, u2, u3, u4⟩ := thereF_in mm'.out e1
            obtain ⟨r1, r2, r3, r4⟩ := thereF_in mm'.out e2
            obtain ⟨hNr, hTr, z0, z1, z2⟩ := hcells.out wr hJ.out.1.below
            obtain ⟨pq, cq, hv, hcl⟩ := hNr.li
            obtain ⟨g, o, hgo, hg, hcell⟩ := hcl j _ hq
            simp only [Value.slice.injEq] at hv
            have hp3 : p3 = some ⟨g, o, none⟩ := hv.1.trans hgo
            subst hp3
            have d0 := hcell 0 _ rfl
            have d1 := hcell 1 _ rfl
            have d2 := hcell 2 _ rfl
            have d3 := hcell 3 _ rfl
            simp only [Nat.add_zero] at d0
            have j0 : ¬ ((j : Int) < 0) := by omega
            have j1 : (j : Int) < (n3 : Int) := by omega
            obtain ⟨V2, hV2⟩ : ∃ X, wr.alloc (.cells #[.int .i64 q0, .int .i64 q1, .int .i64 q2, .int .i64 q3] 68) = X := ⟨_, rfl⟩
            have hJ2 : TI V (swsL (n.names.zip n.ports) ++ linksL n (n.links.take j)) V2 := by rw [← hV2]; exact hJ.out.1.alloc _
            have hwv : wr.heap.size < V2.heap.size := by rw [← hV2]; simp
            have l0 := plus_cell hwv (show V2.cell? ⟨wr.heap.size, 0, none⟩ = some (.int .i64 q0) by rw [← hV2]; exact (cell_new _ _ _ _ 0 rfl).trans rfl)
            have l1 := plus_cell hwv (show V2.cell? ⟨wr.heap.size, 1, none⟩ = some (.int .i64 q1) by rw [← hV2]; exact (cell_new _ _ _ _ 1 rfl).trans rfl)
            have l2 := plus_cell hwv (show V2.cell? ⟨wr.heap.size, 2, none⟩ = some (.int .i64 q2) by rw [← hV2]; exact (cell_new _ _ _ _ 2 rfl).trans rfl)
            have l3 := plus_cell hwv (show V2.cell? ⟨wr.heap.size, 3, none⟩ = some (.int .i64 q3) by rw [← hV2]; exact (cell_new _ _ _ _ 3 rfl).trans rfl)
            have y0 := fun y => (hcells.out (Go.Proofs.YtkffjjlmoojffaaGreatDoor.plus V2 y) (hJ2.plus y).below).2.2.1
            have y1 := fun y => (hcells.out (Go.Proofs.YtkffjjlmoojffaaGreatDoor.plus V2 y) (hJ2.plus y).below).2.2.2.1
            have y2 := fun y => (hcells.out (Go.Proofs.YtkffjjlmoojffaaGreatDoor.plus V2 y) (hJ2.plus y).below).2.2.2.2
            have hEA : Hid (∀ y, Calls Tryz.prog 33 #[.agg #[.slice p1 k c1, .slice p2 k c2, .slice (some ⟨g, o, none⟩) n3 c3], .agg #[.int .i64 q0, .int .i64 q1]] (Go.Proofs.YtkffjjlmoojffaaGreatDoor.plus V2 y) (fun e w' => e = .returned (.string (endB n ⟨q0, q1⟩)) ∧ ∃ z, w' = Go.Proofs.YtkffjjlmoojffaaGreatDoor.plus V2 z)) := Lib.hid fun y => by
              obtain ⟨hNy, hTy, -, -, -⟩ := hcells.out (Go.Proofs.YtkffjjlmoojffaaGreatDoor.plus V2 y) (hJ2.plus y).below
              exact (to_endText hTy _ _ _ pvs n hNy ⟨q0, q1⟩ u1 u2 (by show 0 ≤ q1; have : 1 ≤ q1 := u3; omega) u4 hz'.out).mono (fun _ _ ⟨he, z, hz⟩ => ⟨he, _, hz.trans (plus_plus _ _ _)⟩)
            have hEB : Hid (∀ y, Calls Tryz.prog 33 #[.agg #[.slice p1 k c1, .slice p2 k c2, .slice (some ⟨g, o, none⟩) n3 c3], .agg #[.int .i64 q2, .int .i64 q3]] (Go.Proofs.YtkffjjlmoojffaaGreatDoor.plus V2 y) (fun e w' => e = .returned (.string (endB n ⟨q2, q3⟩)) ∧ ∃ z, w' = Go.Proofs.YtkffjjlmoojffaaGreatDoor.plus V2 z)) := Lib.hid fun y => by
              obtain ⟨hNy, hTy, -, -, -⟩ := hcells.out (Go.Proofs.YtkffjjlmoojffaaGreatDoor.plus V2 y) (hJ2.plus y).below
              exact (to_endText hTy _ _ _ pvs n hNy ⟨q2, q3⟩ r1 r2 (by show 0 ≤ q3; have : 1 ≤ q3 := r3; omega) r4 hz'.out).mono (fun _ _ ⟨he, z, hz⟩ => ⟨he, _, hz.trans (plus_plus _ _ _)⟩)
            have zA : (endB n ⟨q0, q1⟩).size ≤ 62 := endB_size hz'.out u3 u4
            have zB : (endB n ⟨q2, q3⟩).size ≤ 62 := endB_size hz'.out r3 r4
            have htk := linksL_take (n := n) hq
            have hlz := linkB_size (n := n) (x := (⟨q0, q1⟩, ⟨q2, q3⟩)) zA zB
            have hjb : (swsL (n.names.zip n.ports) ++ linksL n (n.links.take j)).length + (linkB n (⟨q0, q1⟩, ⟨q2, q3⟩)).size ≤ 140737488355328 := by have := hJ.out.2; omega
            have hwr := Lib.hid (fun (x : Ext) => bw_write V.heap.size V.heap.size _ (linkB n (⟨q0, q1⟩, ⟨q2, q3⟩)) (Go.Proofs.YtkffjjlmoojffaaGreatDoor.plus V2 x) (hJ2.plus x).b hjb (hJ2.plus x).below.size)
            have hJL : Hid ((swsL (n.names.zip n.ports) ++ linksL n (n.links.take (j + 1))).length ≤ 300 * k + 132 * (j + 1)) := Lib.hid (by
              rw [htk, ← List.append_assoc, List.length_append, toList_size]
              have := hJ.out.2
              omega)
            replace htk := Lib.hid htk
            replace hJ2 := Lib.hid hJ2
            have eL : linkB n (⟨q0, q1⟩, ⟨q2, q3⟩) = (⟨#[108, 105, 110, 107, 32]⟩ : ByteArray) ++ endB n ⟨q0, q1⟩ ++ ⟨#[32]⟩ ++ endB n ⟨q2, q3⟩ ++ ⟨#[59, 10]⟩ := rfl
            rw [eL] at hwr
            replace eL := Lib.hid eL
            generalize endB n ⟨q0, q1⟩ = ta at hEA zA hwr eL
            generalize endB n ⟨q2, q3⟩ = tb at hEB zB hwr eL
            have s1 : ((⟨#[108, 105, 110, 107, 32]⟩ : ByteArray) ++ ta).size ≤ 67 := by rw [ByteArray.size_append]; show 5 + _ ≤ 67; omega
            have s2 : ((⟨#[108, 105, 110, 107, 32]⟩ : ByteArray) ++ ta ++ ⟨#[32]⟩).size ≤ 68 := by rw [ByteArray.size_append]; show _ + 1 ≤ 68; omega
            have s3 : ((⟨#[108, 105, 110, 107, 32]⟩ : ByteArray) ++ ta ++ ⟨#[32]⟩ ++ tb).size ≤ 130 := by rw [ByteArray.size_append]; omega
            clear hq e1 e2 u1 u2 u3 u4 r1 r2 r3 r4 hNr hTr hv hcl hgo hg hcell hlz hjb hJ
            go_upto_region 18 with (fail)
            try rw [hV2]
            clear hV2 d0 d1 d2 d3 z0 z1 z2
            refine wp_region_own_tail0 12 (by kernel_rfl) (by kernel_rfl) ?_
            simp only [List.take_succ_cons, List.take_zero, List.drop_succ_cons, List.drop_zero]
            repeat (go_big_quiet_step (first | (with_reducible exact hEA.out _) | (with_reducible exact hEB.out _)))
            refine wpQuiet_nil ?_
            rintro _ ⟨y, rfl⟩
            go_wp2_with fail
            refine (hwr.out _).mono ?_
            rintro e X2 ⟨rfl, hB2, hbel2⟩
            have hJ3 : Hid (TI V (swsL (n.names.zip n.ports) ++ linksL n (n.links.take (j + 1))) X2) := Lib.hid (by
              rw [htk.out, ← List.append_assoc, eL.out]
              exact (hJ2.out.plus y).step hbel2 hB2)
            clear hB2 hbel2 hwr hEA hEB l0 l1 l2 l3 y0 y1 y2
            go_wp2
            go_roundw
            case rel => exact ⟨j + 1, hjl, congrArg (Value.int .i64) (by omega), Lib.hid ⟨hJ3.out, hJL.out⟩⟩
            case measure => exact step_lt j n3 hjl
          · obtain rfl : j = n3 := by omega
            have hJ0 := hJ.out
            rw [List.take_of_length_le (by have := hn3'.out; omega)] at hJ0
            replace hJ0 := Lib.hid hJ0
            have hS := Lib.hid (Tryz.Builder_String_any V.heap.size V.heap.size _ wr hJ0.out.1.b hJ0.out.1.below.size)
            have hRe : (⟨(swsL (n.names.zip n.ports) ++ linksL n n.links).toArray⟩ : ByteArray) = RT := hRT'.out
            rw [hRe] at hS
            clear hJ hRe
            go_wp2_with fail
            refine hS.out.mono ?_
            rintro e X2 ⟨rfl, hbel2⟩
            go_wp2
            go_ret
            exact ⟨rfl, hfin.out _ (hJ0.out.1.below.trans hbel2)⟩
end Go.Proofs.YtkffjjlmoojffaaGreatDoor
