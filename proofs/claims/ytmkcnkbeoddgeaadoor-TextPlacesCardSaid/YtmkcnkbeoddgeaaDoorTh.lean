/-
  WHAT IS PROVED HERE: what text.Say and the document's Say hand back, of any fault, in worlds in which the library's table of powers of ten holds what the library's text says.
-/
import Derived.Test.YtmkcnkbeoddgeaaDoorRows
import Derived.Test.YtmkcnkbeoddgeaaDoorTe
import Derived.Test.YtmkcnkbeoddgeaaDoorTf
import Derived.Test.YtmkcnkbeoddgeaaDoorTg
import Derived.WalkKit
import Derived.WalkSpells
import Derived.WalkLawsBesides
namespace Go.Proofs.YtmkcnkbeoddgeaaDoor
open Go.RowKit
/-- What is said of a fault. -/
def sayB (e l c : Int) : ByteArray :=
  if e = 0 then ⟨#[111, 107]⟩ else (⟨#[108, 105, 110, 101, 32]⟩ : ByteArray) ++ itoaB l ++ (⟨#[32, 99, 111, 108, 117, 109, 110, 32]⟩ : ByteArray) ++ itoaB c ++ (⟨#[58, 32]⟩ : ByteArray) ++ wordOf e
theorem wordOf_zero : wordOf 0 = ⟨#[111, 107]⟩ := rfl
theorem wordOf_len (e : Int) : (wordOf e).size ≤ 6 := by
  by_cases h : 0 ≤ e ∧ e < 16
  · have hall : ∀ k : Nat, k < 16 → (wordTab.getD k otherB).size ≤ 6 := by decide +kernel
    have := hall e.toNat (by omega)
    unfold wordOf; rw [if_pos h]; exact this
  · rw [wordOf_out e h]; decide +kernel
set_option maxHeartbeats 1000000 in
theorem text_say (e l c : Int) (l0 : -9223372036854775808 ≤ l) (l1 : l ≤ 9223372036854775807) (c0 : -9223372036854775808 ≤ c) (c1 : c ≤ 9223372036854775807) :
    Pure' 12 #[fv e l c] (.string (sayB e l c)) := by
  intro w hT
  have hW := Lib.hid (text_word e)
  by_cases he : e = 0
  · subst he
    have e2 := Lib.hid (show sayB 0 l c = wordOf 0 from by unfold sayB; rw [if_pos rfl, wordOf_zero])
    go_enter Tryd.func12, Tryd.ntmps12
    go_wp2_with fail
    obtain ⟨W, hW', hB, hs', ca, fa⟩ := box1 w #[.int .i64 0, .int .i64 l, .int .i64 c] 29
    rw [← hW', ← plus_self W]
    clear hW' ca fa
    refine (hW.out.at _ _).mono ?_
    rintro r w' ⟨rfl, y, rfl⟩
    go_wp2
    go_ret
    exact ⟨by rw [e2.out]; rfl, plus_of_below (hB.trans ((below_plus W y).mono hB.size))⟩
  · have e2 : sayB e l c = (⟨#[108, 105, 110, 101, 32]⟩ : ByteArray) ++ itoaB l ++ (⟨#[32, 99, 111, 108, 117, 109, 110, 32]⟩ : ByteArray) ++ itoaB c ++ (⟨#[58, 32]⟩ : ByteArray) ++ wordOf e := by unfold sayB; rw [if_neg he]
    have zl := itoa_len l l0 l1
    have zc := itoa_len c c0 c1
    have zw := wordOf_len e
    have iL := lib_itoa l l0 l1
    have iC := lib_itoa c c0 c1
    generalize itoaB l = sl at iL zl e2
    generalize itoaB c = sc at iC zc e2
    generalize wordOf e = sw at hW zw e2
    have e2 := Lib.hid e2
    have hT' := Lib.hid hT
    have iL := Lib.hid iL
    have iC := Lib.hid iC
    clear hT
    go_enter Tryd.func12, Tryd.ntmps12
    go_wp2
    obtain ⟨W, hW', hB, hs', ca, fa⟩ := box1 w #[.int .i64 e, .int .i64 l, .int .i64 c] 29
    rw [← hW']
    have ca0 := fun y => ca 0 (some (.int .i64 e)) rfl y
    have ca1 := fun y => ca 1 (some (.int .i64 l)) rfl y
    have ca2 := fun y => ca 2 (some (.int .i64 c)) rfl y
    have hTW : Tab W := by obtain ⟨x, rfl⟩ := plus_of_below hB; exact tab_plus hT'.out x
    have kL := Lib.hid (fun y => iL.out.at W hTW y)
    have kC := Lib.hid (fun y => iC.out.at W hTW y)
    clear ca fa hW' iL iC hTW
    refine wp_region_own0 (by kernel_rfl) (by kernel_rfl) ?_
    repeat (go_big_quiet_step (first | (with_reducible exact kL.out _) | (with_reducible exact kC.out _) | (with_reducible exact hW.out.at _ _)))
    refine wpQuiet_nil ?_
    rintro _ ⟨y, rfl⟩
    go_wp2
    go_ret
    exact ⟨by rw [e2.out]; rfl, plus_of_below (hB.trans ((below_plus W y).mono hB.size))⟩
set_option maxHeartbeats 1000000 in
theorem ref_say (e l c : Int) (l0 : -9223372036854775808 ≤ l) (l1 : l ≤ 9223372036854775807) (c0 : -9223372036854775808 ≤ c) (c1 : c ≤ 9223372036854775807) :
    Pure Tryd.prog 13 #[fv e l c] (.string (sayB e l c)) := by
  intro w
  by_cases he : e = 0
  · subst he
    have e2 := Lib.hid (show sayB 0 l c = wordOf 0 from by unfold sayB; rw [if_pos rfl, wordOf_zero])
    go_enter Tryd.func13, Tryd.ntmps13
    go_wp2
    go_ret
    exact ⟨by rw [e2.out, wordOf_zero]; rfl, plus_of_below ((Below.refl _ _).alloc (Nat.le_refl _) _)⟩
  · have hW := Lib.hid (ref_word e)
    have e2 : sayB e l c = (⟨#[108, 105, 110, 101, 32]⟩ : ByteArray) ++ itoaB l ++ (⟨#[32, 99, 111, 108, 117, 109, 110, 32]⟩ : ByteArray) ++ itoaB c ++ (⟨#[58, 32]⟩ : ByteArray) ++ wordOf e := by unfold sayB; rw [if_neg he]
    have zl := itoa_len l l0 l1
    have zc := itoa_len c c0 c1
    have zw := wordOf_len e
    have iL := ref_dec l l0 l1
    have iC := ref_dec c c0 c1
    generalize itoaB l = sl at iL zl e2
    generalize itoaB c = sc at iC zc e2
    generalize wordOf e = sw at hW zw e2
    have e2 := Lib.hid e2
    have iL := Lib.hid iL
    have iC := Lib.hid iC
    go_enter Tryd.func13, Tryd.ntmps13
    go_wp2
    obtain ⟨W, hW', hB, hs', ca, fa⟩ := box1 w #[.int .i64 e, .int .i64 l, .int .i64 c] 29
    rw [← hW']
    have ca0 := fun y => ca 0 (some (.int .i64 e)) rfl y
    have ca1 := fun y => ca 1 (some (.int .i64 l)) rfl y
    have ca2 := fun y => ca 2 (some (.int .i64 c)) rfl y
    have kL := Lib.hid (fun y => iL.out.at W y)
    have kC := Lib.hid (fun y => iC.out.at W y)
    clear ca fa hW' iL iC
    refine wp_region_own0 (by kernel_rfl) (by kernel_rfl) ?_
    repeat (go_big_quiet_step (first | (with_reducible exact kL.out _) | (with_reducible exact kC.out _) | (with_reducible exact hW.out.at _ _)))
    refine wpQuiet_nil ?_
    rintro _ ⟨y, rfl⟩
    go_wp2
    go_ret
    exact ⟨by rw [e2.out]; rfl, plus_of_below (hB.trans ((below_plus W y).mono hB.size))⟩
end Go.Proofs.YtmkcnkbeoddgeaaDoor
