/-
  WHAT IS PROVED HERE: a part of the proof of the claim's theorem: CurD; NetP.
-/
import Derived.Test.YtkffjjlmoojffaaGreatDoorRows
import Derived.Test.YtkffjjlmoojffaaGreatDoorB21
import Derived.Test.YtkffjjlmoojffaaGreatDoorB18
import Derived.Test.YtkffjjlmoojffaaGreatDoorB20
import Derived.Test.YtkffjjlmoojffaaGreatDoorB6
import Derived.Lib.Slices
import Derived.Lib.SlicesS
set_option linter.all false
namespace Go.Proofs.YtkffjjlmoojffaaGreatDoor
open Go.RowKit
def OfEnds (w : World) (s : ByteArray) (e : Ending) (w' : World) : Prop := Below w.heap.size w w' ∧
  ((lexR s).2.2 = 0 → ∃ b g cap, e = .returned (.pointer (some ⟨b, 0, none⟩)) ∧ w.heap.size ≤ b ∧ w.heap.size ≤ g ∧ g < b ∧ Cu w' b s g cap (lexR s).1 0) ∧
  (¬ (lexR s).2.2 = 0 → e = gaveUp (lexR s).2.2 (lineOf s (lexR s).2.1 : Nat) (colOf s (lexR s).2.1 : Nat))
set_option maxHeartbeats 2000000 in
theorem cur_of (s : ByteArray) (hs : s.size ≤ 140737488355328) (w : World) (hS : Std w) : Calls Tryz.prog 40 #[.string s] w (OfEnds w s) := by
  have hL0 := tok_lex s hs w hS
  by_cases h0 : (lexR s).2.2 = 0
  · have hT := lexR_tl s h0
    unfold LexEnds at hL0
    rw [fault0 s _ h0] at hL0
    have hL := Lib.hid hL0
    have h0' := Lib.hid h0
    have hT' := Lib.hid hT
    clear hL0 h0 hT hS
    go_enter Tryz.func40, Tryz.ntmps40
    go_wp2_with fail
    refine hL.out.mono ?_
    rintro e W ⟨v, rfl, hown, hB⟩
    obtain ⟨g, cap, rfl, hg1, hg2⟩ := own_form hown hT'.out.pos
    have hcap : (lexR s).1.length ≤ cap ∧ cap ≤ 9223372036854775807 := by
      rcases hown.2 with ⟨h, _⟩ | ⟨g', cap', cur, h, _, _, h3, h4, _⟩
      · cases h
      · cases h; exact ⟨h3, by unfold maxLen at h4; omega⟩
    have htk : ∀ j t, (lexR s).1[j]? = some t → TokAt W g j t := fun j t ht => tok_at hown hg2 j t ht
    have hB' := Lib.hid hB
    have htk' := Lib.hid htk
    have hcap' := Lib.hid hcap
    have hg2' := Lib.hid hg2
    obtain ⟨n, hn⟩ : ∃ n, (lexR s).1.length = n := ⟨_, rfl⟩
    have hn' := Lib.hid hn
    rw [hn]
    clear hown hB htk hcap hn
    go_wp2
    go_ret
    obtain ⟨V, hV⟩ : ∃ V, V = W.alloc (.cells #[.int .i64 0, .int .i64 0, .int .i64 0] 32) := ⟨_, rfl⟩
    rw [← hV]
    have hBV : Below W.heap.size W V := by rw [hV]; exact (Below.refl _ _).alloc (Nat.le_refl _) _
    have hBX : Below V.heap.size V (V.alloc (.cells #[.string s, .slice (some ⟨g, 0, none⟩) n cap] 106)) := (Below.refl _ _).alloc (Nat.le_refl _) _
    have h1 := hB'.out.size
    have h2 := hBV.size
    have hVz : V.heap.size = W.heap.size + 1 := by rw [hV]; simp
    refine ⟨(hB'.out.trans (hBV.mono h1)).trans (hBX.mono (by omega)), fun _ => ⟨V.heap.size, g, cap, by rw [hVz]; rfl, by omega, hg1, by have := hg2'.out; omega, ?_⟩, fun h => absurd h0'.out h⟩
    refine ⟨by simp, cell_new V _ _ _ 0 rfl, ?_, fun o => frozen_new V _ _ _ o rfl, by have := hg2'.out; omega, hcap'.out.1, hcap'.out.2, fun j t ht => ?_⟩
    · rw [cell_new V _ _ _ 1 rfl]
      simp [hn'.out]
    · have hg2 := hg2'.out
      exact ((htk'.out j t ht).block hBV.size (hBV.block g hg2)).block hBX.size (hBX.block g (by omega))
  · unfold LexEnds at hL0
    rw [fault1 s _ h0] at hL0
    have hL := Lib.hid hL0
    have h0' := Lib.hid h0
    generalize hE : (lexR s).2.2 = E at hL h0'
    generalize hl : ((lineOf s (lexR s).2.1 : Nat) : Int) = ll at hL
    generalize hc : ((colOf s (lexR s).2.1 : Nat) : Int) = cc at hL
    replace hE := Lib.hid hE
    replace hl := Lib.hid hl
    replace hc := Lib.hid hc
    have q : (E != 0) = true := by simpa using h0'.out
    clear hL0 h0 hS
    go_enter Tryz.func40, Tryz.ntmps40
    go_wp2_with fail
    refine hL.out.mono ?_
    rintro e W ⟨v, rfl, hown, hB⟩
    have hB' := Lib.hid hB
    clear hown hB
    go_wp2
    refine ⟨rfl, ?_, fun h => absurd (hE.out.symm.trans h) h0'.out, fun _ => by rw [hE.out, hl.out, hc.out]⟩
    exact hB'.out.alloc hB'.out.size _
end Go.Proofs.YtkffjjlmoojffaaGreatDoor
namespace Go.Proofs.YtkffjjlmoojffaaGreatDoor
open Go.RowKit
theorem idxS_find (names : List ByteArray) (x : ByteArray) : Lib.idxOfS names x = findF names x := by
  by_cases h : ∃ (k : Nat), names[k]? = some x ∧ ∀ (j : Nat), j < k → names[j]? ≠ some x
  · obtain ⟨k, hk, hno⟩ := h
    have hlt := (List.getElem?_eq_some_iff.1 hk).1
    rw [findF_hit hk hno]
    have g : ∀ (j : Nat) (hj : j < names.length), names.getD j ByteArray.empty = names[j] := fun j hj => by simp [List.getD, hj]
    have := Lib.idxFromS_hit x names k 0 hlt (by rw [g k hlt]; exact (List.getElem?_eq_some_iff.1 hk).2) (fun j hj e => hno j hj (by rw [List.getElem?_eq_getElem (by omega)]; rw [g j (by omega)] at e; exact congrArg some e))
    unfold Lib.idxOfS
    rw [this, Nat.zero_add]
  · have hno : ∀ (j : Nat), j < names.length → names[j]? ≠ some x := by
      intro j
      induction j using Nat.strongRecOn with
      | _ j ih =>
        intro hj e
        exact h ⟨j, e, fun i hi => ih i hi (by omega)⟩
    rw [findF_miss hno]
    have g : ∀ (j : Nat) (hj : j < names.length), names.getD j ByteArray.empty = names[j] := fun j hj => by simp [List.getD, hj]
    have := Lib.idxOfS_miss names names.length x (fun j hj e => hno j hj (by rw [List.getElem?_eq_getElem hj]; rw [g j hj] at e; exact congrArg some e))
    rwa [List.take_length] at this
theorem tp_index {w : World} (v : Value) (names : List ByteArray) (x : ByteArray) (h : Lies w 1 strC v names) (hb : names.length ≤ 1048576) :
    Calls Tryz.prog 79 #[v, .string x] w fun e w' => e = .returned (.int .i64 (findF names x)) ∧ w' = w := by
  obtain ⟨p, c, rfl, hc⟩ := h
  by_cases hn : 0 < names.length
  · obtain ⟨g, rfl, hg, _⟩ := hc 0 (names[0]'hn) (List.getElem?_eq_getElem hn)
    have := Tryz.slices_Index_string g 0 names.length c names x w (Nat.le_refl _) (by omega) (fun j hj => by
      obtain ⟨g', hg', _, hcell⟩ := hc j (names[j]'hj) (List.getElem?_eq_getElem hj)
      obtain rfl : g = g' := by simpa using hg'
      have := hcell 0 _ rfl
      simpa [List.getD, hj] using this)
    rw [List.take_length, idxS_find] at this
    exact this
  · obtain rfl : names = [] := List.length_eq_zero_iff.1 (by omega)
    have := Tryz.slices_Index_string_empty p c x w
    rw [idxS_find] at this
    exact this
theorem tp_contains {w : World} (v : Value) (zs : List Int) (x : Int) (h : Lies w 1 intC v zs) (hb : zs.length ≤ 1048576) :
    Calls Tryz.prog 58 #[v, .int .i64 x] w fun e w' => e = .returned (.bool (decide (x ∈ zs))) ∧ w' = w := by
  obtain ⟨p, c, rfl, hc⟩ := h
  by_cases hn : 0 < zs.length
  · obtain ⟨g, rfl, hg, _⟩ := hc 0 (zs[0]'hn) (List.getElem?_eq_getElem hn)
    have := Tryz.slices_Contains_int g 0 zs.length c zs x w (Nat.le_refl _) (by omega) (fun j hj => by
      obtain ⟨g', hg', _, hcell⟩ := hc j (zs[j]'hj) (List.getElem?_eq_getElem hj)
      obtain rfl : g = g' := by simpa using hg'
      have := hcell 0 _ rfl
      simpa [List.getD, hj] using this)
    rw [List.take_length, show zs.contains x = decide (x ∈ zs) by rw [Bool.eq_iff_iff, List.contains_iff_mem, decide_eq_true_eq]] at this
    exact this
  · obtain rfl : zs = [] := List.length_eq_zero_iff.1 (by omega)
    exact Tryz.slices_Contains_int_empty p c x w
set_option maxHeartbeats 1000000 in
theorem tp_find {w : World} (v : Value) (names : List ByteArray) (x : ByteArray) (p2 p3 : Option Addr) (n2 c2 n3 c3 : Nat) (h : Lies w 1 strC v names) (hb : names.length ≤ 1048576) :
    Calls Tryz.prog 65 #[.agg #[v, .slice p2 n2 c2, .slice p3 n3 c3], .string x] w (Back w (.int .i64 (findF names x))) := by
  have hl := h
  obtain ⟨p, c, rfl, hc⟩ := hl
  obtain ⟨n, hn⟩ : ∃ n, names.length = n := ⟨_, rfl⟩
  rw [hn] at h ⊢
  obtain ⟨W, hW, hB, hz, ca, fa⟩ := box1 w #[.slice p n c, .slice p2 n2 c2, .slice p3 n3 c3] 27
  have a0 := ca 0 _ rfl ⟨#[], W.drawn⟩
  rw [plus_self] at a0
  have hI := Lib.hid (tp_index (w := W) (.slice p n c) names x (h.below hB) hb)
  have hB' := Lib.hid hB
  generalize findF names x = R at hI ⊢
  clear hc hn ca fa hB hz h
  go_enter Tryz.func65, Tryz.ntmps65
  go_upto_region 1 with (fail)
  rw [← hW]
  clear hW
  go_wp2_with fail
  refine hI.out.mono ?_
  rintro e w' ⟨rfl, rfl⟩
  go_wp2
  go_ret
  exact ⟨rfl, plus_of_below hB'.out⟩
set_option maxHeartbeats 2000000 in
theorem tp_there {w : World} (pvs : List Sl3) (n : Net') (e : End') (vp : Value) (p1 p3 : Option Addr) (n1 c1 n3 c3 : Nat) (h : PortsAt w vp pvs n.ports) (hb : n.ports.length ≤ 1048576) (hn1 : n.names.length = n1) :
    Calls Tryz.prog 39 #[.agg #[.slice p1 n1 c1, vp, .slice p3 n3 c3], endV e] w (Back w (.bool (thereF n e))) := by
  obtain ⟨p, c, rfl, hc⟩ := h.row
  obtain ⟨np, hnp⟩ : ∃ np, n.ports.length = np := ⟨_, rfl⟩
  have hpn : pvs.length = np := h.len.trans hnp
  rw [hpn]
  obtain ⟨sw, po⟩ := e
  obtain ⟨B, hB⟩ : ∃ B, thereF n ⟨sw, po⟩ = B := ⟨_, rfl⟩
  rw [hB]
  unfold thereF at hB
  simp only at hB
  rw [hnp] at hB hb
  rw [hn1] at hB
  obtain ⟨W, hW, hBW, hz, ca, cb, fa, fb⟩ := box2 w #[.slice p1 n1 c1, .slice p np c, .slice p3 n3 c3] #[.int .i64 sw, .int .i64 po] 27 41
  have a0 := ca 0 _ rfl
  have a1 := ca 1 _ rfl
  have b0 := cb 0 _ rfl
  have b1 := cb 1 _ rfl
  have hBW' := Lib.hid hBW
  unfold endV
  by_cases h0 : 0 ≤ sw
  · obtain ⟨k, rfl⟩ : ∃ k : Nat, sw = (k : Int) := ⟨sw.toNat, by omega⟩
    by_cases h2 : k < n1
    · by_cases h1 : k < np
      · obtain ⟨x, hx⟩ : ∃ x, pvs[k]? = some x := ⟨_, List.getElem?_eq_getElem (by omega)⟩
        obtain ⟨ps, hps⟩ : ∃ ps, n.ports[k]? = some ps := ⟨_, List.getElem?_eq_getElem (by omega)⟩
        obtain ⟨g, rfl, hg, hcell⟩ := hc k x hx
        have hcg := fun y => ((below_plus W y).cell (p := ⟨g, k, none⟩) (by show g < W.heap.size; omega)).trans ((hBW.cell (p := ⟨g, k, none⟩) hg).trans (by simpa using hcell 0 _ rfl))
        obtain ⟨hl, hlb⟩ := h.each k x ps hx hps
        have hH := Lib.hid (fun y => (tp_contains (w := Go.Proofs.YtkffjjlmoojffaaGreatDoor.plus W y) x.v ps po ((hl.below hBW).plus y) hlb).mono (fun _ _ ⟨he, hz⟩ => (⟨he, y, hz⟩ : (_ = Ending.returned (.bool (decide (po ∈ ps)))) ∧ ∃ z, _ = Go.Proofs.YtkffjjlmoojffaaGreatDoor.plus W z)))
        have hB2 : decide (po ∈ ps) = B := by
          rw [← hB]
          have e1 : ((k : Int)).toNat = k := by omega
          rw [e1, hps]
          simp [h1, h2]
        rw [hB2] at hH
        obtain ⟨xp, xn, xc⟩ := x
        unfold Sl3.v at hH
        simp only at hH hcg
        have k0 : ¬ ((k : Int) < 0) := by omega
        have k1 : (k : Int) < (np : Int) := by omega
        have k3 : (k : Int) < (n1 : Int) := by omega
        have k2 : (0 : Int) ≤ (k : Int) := by omega
        clear hB hB2 hl hlb hps hx hcell hc h hpn hnp hn1 hBW ca cb fa fb hz h0
        go_enter Tryz.func39, Tryz.ntmps39
        go_upto_region 1 with (fail)
        rw [← hW]
        clear hW
        refine wp_region_own0 (by kernel_rfl) (by kernel_rfl) ?_
        repeat (go_big_quiet_step (first | (with_reducible exact hH.out _)))
        refine wpQuiet_nil ?_
        rintro _ ⟨y, rfl⟩
        go_wp2
        go_ret
        exact ⟨rfl, plus_of_below (hBW'.out.trans ((below_plus W y).mono hBW'.out.size))⟩
      · obtain rfl : B = false := by rw [← hB]; simp [h1]
        have k3 : (k : Int) < (n1 : Int) := by omega
        have k2 : (0 : Int) ≤ (k : Int) := by omega
        have h1' : decide ((k : Int) < (np : Int)) = false := decide_eq_false (by omega)
        have h1'' : decide (k < np) = false := decide_eq_false h1
        clear hB hc h hpn hnp hn1 hBW ca cb fa fb hz h0
        go_enter Tryz.func39, Tryz.ntmps39
        go_upto_region 1 with (fail)
        rw [← hW]
        clear hW
        refine wp_region_own0 (by kernel_rfl) (by kernel_rfl) ?_
        repeat (go_big_quiet_step (fail))
        refine wpQuiet_nil ?_
        rintro _ ⟨y, rfl⟩
        go_wp2
        go_ret
        exact ⟨rfl, plus_of_below (hBW'.out.trans ((below_plus W y).mono hBW'.out.size))⟩
    · obtain rfl : B = false := by rw [← hB]; simp [h2]
      have k2 : (0 : Int) ≤ (k : Int) := by omega
      have h1' : decide ((k : Int) < (n1 : Int)) = false := decide_eq_false (by omega)
      have h1'' : decide (k < n1) = false := decide_eq_false h2
      clear hB hc h hpn hnp hn1 hBW ca cb fa fb hz h0
      go_enter Tryz.func39, Tryz.ntmps39
      go_upto_region 1 with (fail)
      rw [← hW]
      clear hW
      refine wp_region_own0 (by kernel_rfl) (by kernel_rfl) ?_
      repeat (go_big_quiet_step (fail))
      refine wpQuiet_nil ?_
      rintro _ ⟨y, rfl⟩
      go_wp2
      go_ret
      exact ⟨rfl, plus_of_below (hBW'.out.trans ((below_plus W y).mono hBW'.out.size))⟩
  · obtain rfl : B = false := by rw [← hB]; simp [h0]
    replace h0 : decide (0 ≤ sw) = false := decide_eq_false h0
    clear hB hc h hpn hnp hn1 hBW ca cb fa fb hz
    go_enter Tryz.func39, Tryz.ntmps39
    go_upto_region 1 with (fail)
    rw [← hW]
    clear hW
    refine wp_region_own0 (by kernel_rfl) (by kernel_rfl) ?_
    repeat (go_big_quiet_step (fail))
    refine wpQuiet_nil ?_
    rintro _ ⟨y, rfl⟩
    go_wp2
    go_ret
    exact ⟨rfl, plus_of_below (hBW'.out.trans ((below_plus W y).mono hBW'.out.size))⟩
end Go.Proofs.YtkffjjlmoojffaaGreatDoor
