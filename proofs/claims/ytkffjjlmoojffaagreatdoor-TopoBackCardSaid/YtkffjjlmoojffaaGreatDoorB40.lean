/-
  WHAT IS PROVED HERE: a part of the proof of the claim's theorem: NetX; NetY.
-/
import Derived.Test.YtkffjjlmoojffaaGreatDoorRows
import Derived.Test.YtkffjjlmoojffaaGreatDoorB30
import Derived.Test.YtkffjjlmoojffaaGreatDoorB25
set_option linter.all false
namespace Go.Proofs.YtkffjjlmoojffaaGreatDoor
open Go.RowKit
theorem NI.setN {base : Nat} {W W' : World} {sw po li : Value} {pvs : List Sl3} {n : Net'} (h : NI base W sw po li pvs n) {z : Nat} {c : Array Value} {fr : Nat × Nat} (hz : W.heap[z]? = some (.cells c 27 fr)) (hg : W.grownBy W' (some z)) : NI base W' sw po li pvs n :=
  ⟨h.sw.kept hg (.inr (own_nonet h.sw (by decide) hz)), h.po.kept hg (.inr (own_nonet h.po (by decide) hz)), h.li.kept hg (.inr (own_nonet h.li (by decide) hz)), h.len, fun i x ps hx hp => ⟨(h.each i x ps hx hp).1.kept hg (.inr (own_nonet (h.each i x ps hx hp).1 (by decide) hz)), (h.each i x ps hx hp).2⟩⟩
def AllEnds (w : World) (rb cb : Nat) (s : ByteArray) (r : Rs Net') (e : Ending) (w' : World) : Prop := match r with
  | .ok n _ => (∃ sw po li pvs, e = .returned (.agg #[sw, po, li]) ∧ NI (rb + 1) w' sw po li pvs n) ∧ Below cb w w'
  | .bad p E => e = gaveUp E (lineOf s p : Nat) (colOf s p : Nat) ∧ Below cb w w'
section
variable {rb cb : Nat} {s : ByteArray} {g cap : Nat} {l : List Tok} {w0 : World}
set_option maxRecDepth 100000 in
set_option maxHeartbeats 16000000 in
theorem tp_all (hl : TL l s.size) (hs : s.size ≤ 140737488355328) (hL : l.length ≤ 100000) (hcu : Cu w0 cb s g cap l 0) (hrp : Rp w0 rb cb (.slice none 0 0) (.slice none 0 0) (.slice none 0 0) (.slice none 0 0)) (hgb : g < cb) (hcr : cb < rb) :
    Calls Tryz.prog 16 #[.pointer (some ⟨rb, 0, none⟩)] w0 (AllEnds w0 rb cb s (allM l)) := by
  obtain ⟨RT, hRT⟩ : ∃ R, allM l = R := ⟨_, rfl⟩
  rw [hRT]
  unfold allM at hRT
  have hP : Hid (PI rb cb s g cap l (w0.alloc (.cells #[.slice none 0 0, .slice none 0 0, .slice none 0 0] 27)) (.slice none 0 0) (.slice none 0 0) (.slice none 0 0) (.slice none 0 0) [] net0 [] 0 (w0.alloc (.cells #[.slice none 0 0, .slice none 0 0, .slice none 0 0] 27))) := Lib.hid ⟨Below.refl _ _, by have := hcu.lt; simp; omega, hgb, hcr, hcu.alloc _, hrp.grown (grown_alloc w0 _ (some cb)) (fun e => by have := Option.some.inj e; omega), NI.nil _ _, World.ownsRow_nil _ _ _ _, KeptN.refl _ _⟩
  have hz : Hid ((w0.alloc (.cells #[.slice none 0 0, .slice none 0 0, .slice none 0 0] 27)).heap[w0.heap.size]? = some (.cells #[.slice none 0 0, .slice none 0 0, .slice none 0 0] 27 (0, 0))) := Lib.hid (by show (w0.heap.push _)[w0.heap.size]? = _; exact Array.getElem?_push_size)
  have hB : Hid (Below cb w0 (w0.alloc (.cells #[.slice none 0 0, .slice none 0 0, .slice none 0 0] 27))) := Lib.hid ((Below.refl _ _).alloc (Nat.le_of_lt hcu.lt) _)
  have hrz : Hid (rb < w0.heap.size) := Lib.hid hrp.lt
  have hl' := Lib.hid hl
  have hs' := Lib.hid hs
  have hL' := Lib.hid hL
  obtain ⟨R1, hR1⟩ : ∃ R, nodesM l l.length 0 net0 = R := ⟨_, rfl⟩
  change Rs.bind (nodesM l l.length 0 net0) _ = _ at hRT
  rw [hR1] at hRT
  replace hRT := Lib.hid hRT
  replace hR1 := Lib.hid hR1
  clear hl hs hL hcu hrp hgb hcr
  go_enter Tryz.func16, Tryz.ntmps16
  go_wp2
  obtain ⟨W5, hW5⟩ : ∃ W, w0.alloc (.cells #[.slice none 0 0, .slice none 0 0, .slice none 0 0] 27) = W := ⟨_, rfl⟩
  rw [hW5] at hP hz hB ⊢
  clear hW5
  generalize w0.heap.size = zr at hz hrz ⊢
  go_loopw [7] (fun _ wr => Hid (∃ f k sw po li lk pvs n, PI rb cb s g cap l W5 sw po li lk pvs n [] k wr ∧ k < l.length ∧ l.length - k ≤ f ∧ n.names.length ≤ k ∧ n.ports.length ≤ k ∧ n.links = [] ∧ nodesM l f k n = R1)) (fun _ wr => cMeas wr cb)
  case atStart => exact Lib.hid ⟨_, 0, _, _, _, _, _, _, hP.out, hl'.out.pos, Nat.le_refl _, Nat.le_refl _, Nat.le_refl _, rfl, hR1.out⟩
  case round =>
    obtain ⟨f, k, sw, po, li, lk, pvs, n, hI, hk, hf, hn1, hn2, hn3, hres⟩ := hrel.out
    clear hrel hP hR1
    obtain ⟨f, rfl⟩ : ∃ f', f = f' + 1 := ⟨f - 1, by omega⟩
    have hmeas := Lib.hid (cMeas_of hI.cu)
    have hIs := cur_is hI.cu (getT_get k hk) wSwitch
    have r0 := hI.rp.c0
    unfold nodesM at hres
    unfold isM at hres
    obtain ⟨B, hBB⟩ : ∃ B, decide ((getT l k).s = wSwitch) = B := ⟨_, rfl⟩
    rw [hBB] at hres hIs
    replace hIs := Lib.hid hIs
    replace hI := Lib.hid hI
    cases B with
    | true =>
      rw [if_pos rfl] at hres
      have hok : Hid (∀ n' k', nodeM l k n = .ok n' k' → k' < l.length ∧ k < k' ∧ n'.names.length = n.names.length + 1 ∧ n'.ports.length = n.ports.length + 1 ∧ n'.links = n.links) := Lib.hid (fun n' k' e => nodeM_ok hl'.out hk e)
      have hNo := Lib.hid (fun (W : World) (hp : PI rb cb s g cap l W5 sw po li lk pvs n [] k W) => tp_node hl'.out hs'.out hp hk (by have := hL'.out; omega) (by have := hL'.out; omega))
      obtain ⟨RN, hRN⟩ : ∃ R, nodeM l k n = R := ⟨_, rfl⟩
      rw [hRN] at hres hok hNo
      have hnum : Hid (l.length - k ≤ f + 1 ∧ n.names.length ≤ k ∧ n.ports.length ≤ k ∧ n.links = []) := Lib.hid ⟨hf, hn1, hn2, hn3⟩
      replace hres := Lib.hid hres
      have hk' := Lib.hid hk
      clear hk hf hn1 hn2 hn3 hBB hRN
      go_wp2_with fail
      refine hIs.out.mono ?_
      rintro e w1 ⟨rfl, y, rfl⟩
      have hNy := Lib.hid (hNo.out _ (hI.out.plus y))
      clear r0 hIs hNo
      go_wp2_with fail
      refine hNy.out.mono ?_
      intro e w2 hE
      clear hNy
      cases RN with
      | bad q E =>
        obtain ⟨rfl, hB2⟩ := hE
        obtain rfl : R1 = .bad q E := hres.out.symm
        obtain rfl : RT = .bad q E := hRT.out.symm
        replace hB2 := Lib.hid (hB.out.trans hB2)
        go_wp2
        exact ⟨rfl, rfl, hB2.out⟩
      | ok n' k' =>
        obtain ⟨rfl, ⟨sw2, po2, li2, lk2, pvs2, hP2⟩, -⟩ := hE
        obtain ⟨o1, o2, o3, o4, o5⟩ := hok.out _ _ rfl
        have hres2 := hres.out
        rw [Rs.bind_ok rfl] at hres2
        have hnew : Hid (∃ f k sw po li lk pvs n, PI rb cb s g cap l W5 sw po li lk pvs n [] k w2 ∧ k < l.length ∧ l.length - k ≤ f ∧ n.names.length ≤ k ∧ n.ports.length ≤ k ∧ n.links = [] ∧ nodesM l f k n = R1) := Lib.hid ⟨f, k', sw2, po2, li2, lk2, pvs2, n', hP2, o1, by have := hnum.out.1; omega, by have := hnum.out.2.1; omega, by have := hnum.out.2.2.1; omega, o5.trans hnum.out.2.2.2, hres2⟩
        have hme : Hid (cMeas w2 cb = l.length - k') := Lib.hid (cMeas_of hP2.cu)
        have hlt : Hid (l.length - k' < l.length - k) := Lib.hid (by have := hk'.out; omega)
        clear hP2 o1 o2 o3 o4 o5 hres2 hI hok hres
        go_wp2
        go_roundw
        case rel => exact hnew.out
        case measure => rw [hme.out, hmeas.out]; exact hlt.out
    | false =>
      rw [if_neg (by decide)] at hres
      subst hres
      have hRT1 := hRT.out
      rw [Rs.bind_ok rfl] at hRT1
      have hst : Hid (k < l.length ∧ n.names.length ≤ k ∧ n.ports.length ≤ k ∧ n.links = []) := Lib.hid ⟨hk, hn1, hn2, hn3⟩
      replace hRT1 := Lib.hid hRT1
      clear hk hf hn1 hn2 hn3 hBB hRT hmeas
      go_wp2_with fail
      refine hIs.out.mono ?_
      rintro e w1 ⟨rfl, y, rfl⟩
      have hI1 := Lib.hid (hI.out.plus y)
      clear r0 hIs hI
      go_wp2
      go_loopw [15] (fun _ wr => Hid (∃ f k sw po li lk pvs n ls, PI rb cb s g cap l W5 sw po li lk pvs n ls k wr ∧ k < l.length ∧ l.length - k ≤ f ∧ n.names.length ≤ k ∧ n.ports.length ≤ k ∧ n.links.length ≤ k ∧ ls.length ≤ 2 * k ∧ linksM l f k n ls = RT)) (fun _ wr => cMeas wr cb)
      case atStart => exact Lib.hid ⟨_, k, _, _, _, _, _, n, [], hI1.out, hst.out.1, Nat.sub_le _ _, hst.out.2.1, hst.out.2.2.1, by rw [hst.out.2.2.2]; exact Nat.zero_le _, Nat.zero_le _, hRT1.out⟩
      case round =>
        clear hst hRT1 hI1
        obtain ⟨f, k, sw, po, li, lk, pvs, n, ls, hI, hk, hf, hn1, hn2, hn3, hn4, hres⟩ := hrel.out
        clear hrel
        obtain ⟨f, rfl⟩ : ∃ f', f = f' + 1 := ⟨f - 1, by omega⟩
        have hmeas := Lib.hid (cMeas_of hI.cu)
        have hAt := cur_atEnd hI.cu (getT_get k hk)
        have r0 := hI.rp.c0
        unfold linksM at hres
        obtain ⟨B, hBB⟩ : ∃ B, decide ((getT l k).kind = 0) = B := ⟨_, rfl⟩
        rw [hBB] at hAt
        replace hAt := Lib.hid hAt
        replace hI := Lib.hid hI
        cases B with
        | false =>
          rw [if_neg (of_decide_eq_false hBB)] at hres
          have hok : Hid (∀ x k', linkM l k n ls = .ok x k' → k' < l.length ∧ k < k' ∧ x.1.names = n.names ∧ x.1.ports = n.ports ∧ x.1.links.length = n.links.length + 1 ∧ x.2.length = ls.length + 2) := Lib.hid (fun x k' e => linkM_ok hl'.out hk e)
          have hNo := Lib.hid (fun (W : World) (hp : PI rb cb s g cap l W5 sw po li lk pvs n ls k W) => tp_link hl'.out hs'.out hp hk (by have := hL'.out; omega) (by have := hL'.out; omega) (by have := hL'.out; omega) (by have := hL'.out; omega))
          obtain ⟨RN, hRN⟩ : ∃ R, linkM l k n ls = R := ⟨_, rfl⟩
          rw [hRN] at hres hok hNo
          have hnum : Hid (l.length - k ≤ f + 1 ∧ n.names.length ≤ k ∧ n.ports.length ≤ k ∧ n.links.length ≤ k ∧ ls.length ≤ 2 * k) := Lib.hid ⟨hf, hn1, hn2, hn3, hn4⟩
          replace hres := Lib.hid hres
          have hk' := Lib.hid hk
          clear hk hf hn1 hn2 hn3 hn4 hBB hRN
          go_wp2_with fail
          refine hAt.out.mono ?_
          rintro e w1 ⟨rfl, y, rfl⟩
          have hNy := Lib.hid (hNo.out _ (hI.out.plus y))
          clear r0 hAt hNo
          go_wp2_with fail
          refine hNy.out.mono ?_
          intro e w2 hE
          clear hNy
          cases RN with
          | bad q E =>
            obtain ⟨rfl, hB2⟩ := hE
            obtain rfl : RT = .bad q E := hres.out.symm
            replace hB2 := Lib.hid (hB.out.trans hB2)
            go_wp2
            exact ⟨rfl, rfl, hB2.out⟩
          | ok x k' =>
            obtain ⟨rfl, ⟨sw2, po2, li2, lk2, pvs2, hP2⟩, -⟩ := hE
            obtain ⟨o1, o2, o3, o4, o5, o6⟩ := hok.out _ _ rfl
            have hres2 := hres.out
            rw [Rs.bind_ok rfl] at hres2
            have hnew : Hid (∃ f k sw po li lk pvs n ls, PI rb cb s g cap l W5 sw po li lk pvs n ls k w2 ∧ k < l.length ∧ l.length - k ≤ f ∧ n.names.length ≤ k ∧ n.ports.length ≤ k ∧ n.links.length ≤ k ∧ ls.length ≤ 2 * k ∧ linksM l f k n ls = RT) := Lib.hid ⟨f, k', sw2, po2, li2, lk2, pvs2, x.1, x.2, hP2, o1, by have := hnum.out.1; omega, by rw [o3]; have := hnum.out.2.1; omega, by rw [o4]; have := hnum.out.2.2.1; omega, by have := hnum.out.2.2.2.1; omega, by have := hnum.out.2.2.2.2; omega, hres2⟩
            have hme : Hid (cMeas w2 cb = l.length - k') := Lib.hid (cMeas_of hP2.cu)
            have hlt : Hid (l.length - k' < l.length - k) := Lib.hid (by have := hk'.out; omega)
            clear hP2 o1 o2 o3 o4 o5 o6 hres2 hI hok hres
            go_wp2
            go_roundw
            case rel => exact hnew.out
            case measure => rw [hme.out, hmeas.out]; exact hlt.out
        | true =>
          rw [if_pos (of_decide_eq_true hBB)] at hres
          subst hres
          clear hf hn1 hn2 hn3 hn4 hBB hmeas hk
          go_wp2_with fail
          refine hAt.out.mono ?_
          rintro e w1 ⟨rfl, y, rfl⟩
          have hI1 := hI.out.plus y
          obtain ⟨V, hV⟩ : ∃ W, Go.Proofs.YtkffjjlmoojffaaGreatDoor.plus wr y = W := ⟨_, rfl⟩
          rw [hV] at hI1 ⊢
          clear r0 hAt hI hV
          obtain ⟨p1, c1, rfl⟩ := own_sl3 hI1.ni.sw
          obtain ⟨p2, c2, rfl⟩ := own_sl3 hI1.ni.po
          obtain ⟨p3, c3, rfl⟩ := own_sl3 hI1.ni.li
          have hzV := hI1.kp zr _ _ hrz.out hz.out
          have r1 := hI1.rp.c1
          have r2 := hI1.rp.c2
          have r3 := hI1.rp.c3
          have r0 := hI1.rp.c0
          have z0 : V.cell? ⟨zr, 0, none⟩ = some (.slice none 0 0) := by rw [cell_of_row V zr 0 _ _ _ hzV]; rfl
          have z1 : V.cell? ⟨zr, 1, none⟩ = some (.slice none 0 0) := by rw [cell_of_row V zr 1 _ _ _ hzV]; rfl
          have z2 : V.cell? ⟨zr, 2, none⟩ = some (.slice none 0 0) := by rw [cell_of_row V zr 2 _ _ _ hzV]; rfl
          have zf : ∀ o, V.frozen? ⟨zr, o, none⟩ = false := fun o => frozen_of_row V zr o _ _ hzV
          have hBV := hB.out.trans hI1.below
          have hFin : Hid (∀ a b c, NI (rb + 1) (((V.setCell ⟨zr, 0, none⟩ a).setCell ⟨zr, 1, none⟩ b).setCell ⟨zr, 2, none⟩ c) (.slice p1 n.names.length c1) (.slice p2 pvs.length c2) (.slice p3 n.links.length c3) pvs n ∧ Below cb w0 (((V.setCell ⟨zr, 0, none⟩ a).setCell ⟨zr, 1, none⟩ b).setCell ⟨zr, 2, none⟩ c)) := Lib.hid (fun a b c => ⟨hI1.ni.setN hzV (grown_trans (grown_trans (grown_put _ _ _ _) (grown_put _ _ _ _)) (grown_put _ _ _ _)), ((hBV.setCell (p := ⟨zr, 0, none⟩) (by have := hrz.out; have := hI1.cr; show cb ≤ zr; omega) _).setCell (p := ⟨zr, 1, none⟩) (by have := hrz.out; have := hI1.cr; show cb ≤ zr; omega) _).setCell (p := ⟨zr, 2, none⟩) (by have := hrz.out; have := hI1.cr; show cb ≤ zr; omega) _⟩)
          have hne : ¬ zr = rb := by have := hrz.out; omega
          clear hI1 hBV hzV
          go_wp2
          refine bodyPost_ret (v := .agg #[.slice p1 n.names.length c1, .slice p2 pvs.length c2, .slice p3 n.links.length c3]) ?_ rfl ⟨⟨_, _, _, _, rfl, (hFin.out _ _ _).1⟩, (hFin.out _ _ _).2⟩
          simp [results, Tryz.results16, go_sem, z0, z1, z2]
end
end Go.Proofs.YtkffjjlmoojffaaGreatDoor
namespace Go.Proofs.YtkffjjlmoojffaaGreatDoor
open Go.RowKit
def NewEnds (w : World) (s : ByteArray) (e : Ending) (w' : World) : Prop := Below w.heap.size w w' ∧
  ((lexR s).2.2 = 0 → ∃ rb cb g cap, e = .returned (.pointer (some ⟨rb, 0, none⟩)) ∧ w.heap.size ≤ cb ∧ g < cb ∧ cb < rb ∧ Cu w' cb s g cap (lexR s).1 0 ∧ Rp w' rb cb (.slice none 0 0) (.slice none 0 0) (.slice none 0 0) (.slice none 0 0)) ∧
  (¬ (lexR s).2.2 = 0 → e = gaveUp (lexR s).2.2 (lineOf s (lexR s).2.1 : Nat) (colOf s (lexR s).2.1 : Nat))
set_option maxHeartbeats 2000000 in
theorem tp_newReader (s : ByteArray) (hs : s.size ≤ 140737488355328) (w : World) (hS : Std w) : Calls Tryz.prog 15 #[.string s] w (NewEnds w s) := by
  have hO := Lib.hid (cur_of s hs w hS)
  by_cases h0 : (lexR s).2.2 = 0
  · have h0' := Lib.hid h0
    clear hS h0
    go_enter Tryz.func15, Tryz.ntmps15
    go_wp2_with fail
    refine hO.out.mono ?_
    rintro e W ⟨hB, hok, -⟩
    obtain ⟨cb, g, cap, rfl, h1, h2, h3, hX⟩ := hok h0'.out
    have hB' := Lib.hid hB
    have hX' := Lib.hid hX
    have h1' := Lib.hid h1
    have h3' := Lib.hid h3
    clear hok hB hX h1 h2 h3
    go_wp2
    go_ret
    have hBX : Below W.heap.size W (W.alloc (.cells #[.pointer (some ⟨cb, 0, none⟩), .slice none 0 0, .slice none 0 0, .slice none 0 0, .slice none 0 0] 92)) := (Below.refl _ _).alloc (Nat.le_refl _) _
    refine ⟨hB'.out.trans (hBX.mono hB'.out.size), fun _ => ⟨W.heap.size, cb, g, cap, rfl, h1'.out, h3'.out, hX'.out.lt, hX'.out.below hBX, ?_⟩, fun h => absurd h0'.out h⟩
    exact ⟨by simp, cell_new W _ _ _ 0 rfl, cell_new W _ _ _ 1 rfl, cell_new W _ _ _ 2 rfl, cell_new W _ _ _ 3 rfl, cell_new W _ _ _ 4 rfl, fun o => frozen_new W _ _ _ o rfl⟩
  · have h0' := Lib.hid h0
    clear hS h0
    go_enter Tryz.func15, Tryz.ntmps15
    go_wp2_with fail
    refine hO.out.mono ?_
    rintro e W ⟨hB, -, hno⟩
    obtain rfl := hno h0'.out
    have hB' := Lib.hid hB
    clear hno hB
    go_wp2
    exact ⟨rfl, hB'.out, fun h => absurd h h0'.out, fun _ => rfl⟩
end Go.Proofs.YtkffjjlmoojffaaGreatDoor
