/-
  WHAT IS PROVED HERE: a part of the proof of the claim's theorem: CurB.
-/
import Derived.Test.YtkffjjlmoojffaaGreatDoorRows
import Derived.Test.YtkffjjlmoojffaaGreatDoorM20
set_option linter.all false
namespace Go.Proofs.YtkffjjlmoojffaaGreatDoor
open Go.RowKit
section
variable {w : World} {b : Nat} {s : ByteArray} {g cap : Nat} {l : List Tok} {k : Nat} {t : Tok}
set_option maxHeartbeats 1000000 in
theorem cur_need_yes (h : Cu w b s g cap l k) (ht : l[k]? = some t) (e0 : Int) :
    Calls Tryz.prog 61 #[.pointer (some ⟨b, 0, none⟩), .bool true, .int .i64 e0] w (Back w (.tuple #[])) := by
  have hN := Lib.hid (cur_next h ht)
  have hA := Lib.hid (fun w => cur_needAt_yes t e0 b w)
  clear h ht
  go_enter Tryz.func61, Tryz.ntmps61
  go_wp2_with fail
  refine hN.out.mono ?_
  rintro e w' ⟨rfl, x, rfl⟩
  go_wp2_with fail
  refine (hA.out _).mono ?_
  rintro e w' ⟨rfl, y, rfl⟩
  go_wp2
  refine bodyPost_ret (results_none rfl _ _ _) rfl ⟨rfl, _, plus_plus _ _ _⟩
set_option maxHeartbeats 1000000 in
theorem cur_need (h : Cu w b s g cap l k) (ht : l[k]? = some t) (e0 : Int) (he : ¬ e0 = 0) (hs : s.size ≤ 140737488355328) (ha : t.at_ ≤ s.size) :
    Calls Tryz.prog 61 #[.pointer (some ⟨b, 0, none⟩), .bool false, .int .i64 e0] w (Gives w e0 (lineOf s t.at_ : Nat) (colOf s t.at_ : Nat)) := by
  have hN := Lib.hid (cur_next h ht)
  have hA := Lib.hid (fun x => cur_needAt (h.plus x) t e0 he hs ha)
  clear h ht
  go_enter Tryz.func61, Tryz.ntmps61
  go_wp2_with fail
  refine hN.out.mono ?_
  rintro e w' ⟨rfl, x, rfl⟩
  go_wp2_with fail
  refine (hA.out _).mono ?_
  rintro e w' ⟨rfl, y, rfl⟩
  go_wp2
  exact ⟨rfl, rfl, _, plus_plus _ _ _⟩
set_option maxHeartbeats 4000000 in
theorem cur_want (h : Cu w b s g cap l k) (ht : l[k]? = some t) (x : ByteArray) (r : Nat) (hr : w.cell? ⟨r, 0, none⟩ = some (.string x)) (hx : t.s = x → k + 1 < l.length) (hs : s.size ≤ 140737488355328) (ha : t.at_ ≤ s.size) :
    Calls Tryz.prog 62 #[.pointer (some ⟨b, 0, none⟩), .slice (some ⟨r, 0, none⟩) 1 1] w (CuEnds w b s g cap l (wantM l k x) fun _ => .tuple #[]) := by
  have hS0 := cur_skip h ht x hx
  have hM : wantM l k x = if t.s = x then .ok () (k + 1) else .bad t.at_ 4 := by unfold wantM isM; rw [getT_of ht]; by_cases e : t.s = x <;> simp [e]
  rw [hM]
  by_cases e : t.s = x
  · rw [if_pos e, decide_eq_true e] at hS0
    rw [if_pos e]
    have hS := Lib.hid hS0
    have hk2 := hx e
    obtain ⟨t2, ht2⟩ : ∃ t2, l[k + 1]? = some t2 := ⟨_, List.getElem?_eq_getElem hk2⟩
    have hN := Lib.hid (fun (w : World) h => cur_need_yes (w := w) (b := b) (s := s) (g := g) (cap := cap) h ht2 4)
    clear hS0 e hM hx h ht ha hk2 ht2
    go_enter Tryz.func62, Tryz.ntmps62
    go_wp2
    refine wp_loop_rounds 2 ?_
    rw [rounds_succ]
    go_wp2_with fail
    refine hS.out.mono ?_
    rintro e w' ⟨rfl, hg, hX⟩
    replace hg := Lib.hid hg
    replace hX := Lib.hid hX
    go_wp2_with fail
    refine (hN.out _ hX.out).mono ?_
    rintro e w' ⟨rfl, y, rfl⟩
    go_wp2
    rw [rounds_succ]
    go_wp2
    refine bodyPost_ret (results_none rfl _ _ _) rfl ⟨rfl, grown_trans hg.out (grown_plus_any _ _ _), hX.out.plus y⟩
  · rw [if_neg e, decide_eq_false e] at hS0
    rw [if_neg e]
    have hS := Lib.hid hS0
    have hN := Lib.hid (fun (w : World) h => cur_need (w := w) (b := b) (g := g) (cap := cap) h ht 4 (by decide) hs ha)
    clear hS0 e hM hx h ht ha
    go_enter Tryz.func62, Tryz.ntmps62
    go_wp2
    refine wp_loop_rounds 2 ?_
    rw [rounds_succ]
    go_wp2_with fail
    refine hS.out.mono ?_
    rintro e w' ⟨rfl, hg, hX⟩
    replace hg := Lib.hid hg
    replace hX := Lib.hid hX
    go_wp2_with fail
    refine (hN.out _ hX.out).mono ?_
    rintro e w' ⟨rfl, y, rfl⟩
    go_wp2
    exact ⟨rfl, rfl, grown_trans hg.out (grown_plus_any _ _ _)⟩
set_option maxHeartbeats 1000000 in
theorem cur_name (h : Cu w b s g cap l k) (ht : l[k]? = some t) (hx : nameB t.s = true → k + 1 < l.length) (hs : s.size ≤ 140737488355328) (ha : t.at_ ≤ s.size) (hz : t.s.size ≤ 140737488355328) :
    Calls Tryz.prog 63 #[.pointer (some ⟨b, 0, none⟩)] w (CuEnds w b s g cap l (nameM l k) fun x => .string x) := by
  have hN := Lib.hid (cur_next h ht)
  have hI0 := tok_name t.s hz
  have hM : nameM l k = if nameB t.s = true then .ok t.s (k + 1) else .bad t.at_ 4 := by unfold nameM; rw [getT_of ht]
  have f1 := tok_field1
  have h' := Lib.hid h
  rw [hM]
  by_cases e : nameB t.s = true
  · rw [if_pos e]
    rw [e] at hI0
    have hI := Lib.hid hI0
    have hA := Lib.hid (fun (w : World) h => cur_need_yes (w := w) (b := b) (s := s) (g := g) (cap := cap) h ht 4)
    have hT := Lib.hid (fun w h => cur_take (w := w) (b := b) (s := s) (g := g) (cap := cap) h ht (hx e))
    clear hI0 e hM hx h ht ha
    go_enter Tryz.func63, Tryz.ntmps63
    go_wp2_with fail
    refine hN.out.mono ?_
    rintro e w' ⟨rfl, x, rfl⟩
    go_wp2_with fail
    refine (hI.out _).mono ?_
    rintro e w' ⟨rfl, y, rfl⟩
    go_wp2_with fail
    refine (hA.out _ ((h'.out.plus x).plus y)).mono ?_
    rintro e w' ⟨rfl, z, rfl⟩
    go_wp2_with fail
    refine (hT.out _ (((h'.out.plus x).plus y).plus z)).mono ?_
    rintro e w' ⟨rfl, hg, hX⟩
    replace hg := Lib.hid hg
    replace hX := Lib.hid hX
    go_wp2
    go_ret
    exact ⟨rfl, grown_trans (grown_trans (grown_trans (grown_plus_any _ _ _) (grown_plus_any _ _ _)) (grown_plus_any _ _ _)) hg.out, hX.out⟩
  · rw [if_neg e]
    rw [show nameB t.s = false by simpa using e] at hI0
    have hI := Lib.hid hI0
    have hA := Lib.hid (fun (w : World) h => cur_need (w := w) (b := b) (g := g) (cap := cap) h ht 4 (by decide) hs ha)
    clear hI0 e hM hx h ht ha
    go_enter Tryz.func63, Tryz.ntmps63
    go_wp2_with fail
    refine hN.out.mono ?_
    rintro e w' ⟨rfl, x, rfl⟩
    go_wp2_with fail
    refine (hI.out _).mono ?_
    rintro e w' ⟨rfl, y, rfl⟩
    go_wp2_with fail
    refine (hA.out _ ((h'.out.plus x).plus y)).mono ?_
    rintro e w' ⟨rfl, z, rfl⟩
    go_wp2
    exact ⟨rfl, rfl, grown_trans (grown_trans (grown_plus_any _ _ _) (grown_plus_any _ _ _)) (grown_plus_any _ _ _)⟩
end
end Go.Proofs.YtkffjjlmoojffaaGreatDoor
