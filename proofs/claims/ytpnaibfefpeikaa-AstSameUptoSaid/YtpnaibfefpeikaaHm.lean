/-
  WHAT IS PROVED HERE: what allForms of the landed ast hands back: three maps in blocks of their own.
-/
import Derived.Test.YtpnaibfefpeikaaRows
import Derived.Test.YtpnaibfefpeikaaHl
import Derived.WalkKit
import Derived.Lib.Hide
import Derived.WalkSpells
import Derived.WalkLawsBesides
namespace Go.Proofs.Ytpnaibfefpeikaa
open Go.RowKit
theorem MapAt.set {w : World} {r : Nat} {es : Array MapEntry} (h : MapAt w r es) (b o : Nat) (v : Value) (hr : r ≠ b) : MapAt (w.setCell ⟨b, o, none⟩ v) r es := by
  obtain ⟨n, h⟩ := h
  exact ⟨n, by rw [Below.heap_setCell w ⟨b, o, none⟩ v r hr]; exact h⟩
theorem map_after {W w1 w' : World} {es : Array MapEntry} {n : Nat} (h : ∃ y, w1 = plus W y) (hw : w' = w1.alloc (.map es n)) : ∃ x, w' = plus W x ∧ MapAt w' w1.heap.size es ∧ W.heap.size ≤ w1.heap.size ∧ ∀ r es', MapAt w1 r es' → MapAt w' r es' := by
  obtain ⟨y, rfl⟩ := h
  subst hw
  obtain ⟨x, hx⟩ := plus_alloc1 W y (.map es n)
  exact ⟨_, hx, ⟨n, by show ((plus W y).heap.push _)[(plus W y).heap.size]? = _; simp⟩, size_plus W y, fun r es' h => h.alloc _⟩
set_option maxRecDepth 100000 in
set_option maxHeartbeats 8000000 in
theorem ast_allForms (V : World) : Calls Try.prog 33 #[] V fun e w' => ∃ m1 m2 m3, e = .returned (fmV m1 m2 m3) ∧ (∃ x, w' = plus V x) ∧ FormsIn w' m1 m2 m3 := by
  go_enter Try.func33, Try.ntmps33
  go_wp2_with fail
  obtain ⟨W, hW, hB, hs, ca, fa⟩ := box1 V _ 87
  rw [← hW]
  have ca0 := ca 0 _ rfl
  have ca1 := ca 1 _ rfl
  have ca2 := ca 2 _ rfl
  have hB' := Lib.hid hB
  have hs' := Lib.hid hs
  clear hW hB ca hs
  refine (forms_X _).mono ?_
  rintro r w' ⟨rfl, hw⟩
  obtain ⟨x, rfl, hm1, hl1, _⟩ := map_after (W := W) ⟨⟨#[], W.drawn⟩, (plus_self W).symm⟩ hw
  clear hw
  have hm1 := Lib.hid hm1
  have hl1 := Lib.hid hl1
  go_wp2_with (first | (go_at_call 59; refine (forms_S _).mono ?_; rintro r w' ⟨rfl, hw⟩; obtain ⟨x2, rfl, hm2, hl2, hk2⟩ := map_after (W := W) ⟨x, rfl⟩ hw; have hm2 := Lib.hid hm2; have hl2 := Lib.hid hl2; have hk2 := Lib.hid hk2; clear hw) | (go_at_call 60; refine (forms_T _).mono ?_; rintro r w' ⟨rfl, hw⟩; obtain ⟨x3, rfl, hm3, hl3, hk3⟩ := map_after (W := W) ⟨x2, rfl⟩ hw; have hm3 := Lib.hid hm3; have hl3 := Lib.hid hl3; have hk3 := Lib.hid hk3; clear hw))
  refine bodyPost_ret (v := fmV W.heap.size (plus W x).heap.size (plus W x2).heap.size) (by simp [results, Try.results33, go_sem, ca0, ca1, ca2]) rfl ⟨_, _, _, rfl, ?_, ?_⟩
  · exact plus_of_below ((((hB'.out.trans ((below_plus W x3).mono hB'.out.size)).setCell (Nat.le_refl _) _).setCell (Nat.le_refl _) _).setCell (Nat.le_refl _) _)
  · have s0 := hs'.out
    have s2 := hl2.out
    have s3 := hl3.out
    exact ⟨(((hk3.out _ _ (hk2.out _ _ hm1.out)).set _ _ _ (by omega)).set _ _ _ (by omega)).set _ _ _ (by omega), (((hk3.out _ _ hm2.out).set _ _ _ (by omega)).set _ _ _ (by omega)).set _ _ _ (by omega), ((hm3.out.set _ _ _ (by omega)).set _ _ _ (by omega)).set _ _ _ (by omega)⟩
end Go.Proofs.Ytpnaibfefpeikaa
