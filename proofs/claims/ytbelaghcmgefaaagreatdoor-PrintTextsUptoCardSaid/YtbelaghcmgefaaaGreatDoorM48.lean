/-
  WHAT IS PROVED HERE: PrintTexts, of arguments of bulk at most 1048576: the text of any number, expression and program is the document's; what may not be has none. The condition: the bound on the bulk; the library's tables that the row lists are tied to the program's text.
-/
import Derived.Test.YtbelaghcmgefaaaGreatDoorRows
import Derived.Test.YtbelaghcmgefaaaGreatDoorCards
import Derived.Test.YtbelaghcmgefaaaGreatDoorTie
import Derived.Test.YtbelaghcmgefaaaGreatDoorM47
namespace Go.Proofs.YtbelaghcmgefaaaGreatDoor
open Go.ChangeShapes Go.WideShapes Go.ChangeAt Go.RowKit
theorem jf1:laidOutB Tryz.pinned.checked.prog = true:=by kernel_rfl
theorem jf2:mapsRowed Tryz.pinned.checked.prog = true:=by kernel_rfl
theorem jf3:(Rows.printTextsUptoRow.inPlace == Tryz.pinned.checked.prog.inPlace 3) = true:=by kernel_rfl
theorem jf4:(Rows.printTextsUptoRow.unfollowed == Tryz.pinned.checked.prog.unfollowed 3) = true:=by kernel_rfl
theorem jf5:(Rows.printTextsUptoRow.recurses == Tryz.pinned.checked.prog.recurses 3) = true:=by kernel_rfl
theorem jf6:(Rows.printTextsUptoRow.named == Tryz.pinned.checked.prog.varsNamed 3) = true:=by kernel_rfl
theorem facts:joinedFacts Tryz.pinned.checked.prog 3 Tryz.f3 (Rows.OpenSpec.upto Rows.printTextsSpec).bare Rows.printTextsUptoRow = true:=by
 unfold joinedFacts
 simp only [Bool.and_eq_true]
 repeat' apply And.intro
 all_goals first | with_reducible exact jf1 | with_reducible exact jf2 | with_reducible exact jf3 | with_reducible exact jf4 | with_reducible exact jf5 | with_reducible exact jf6 | kernel_rfl
theorem texts_said:Rows.PrintTextsUptoSaid :=
 OpenClaim.holds_of_cond 3 Tryz.f3 rfl rfl rfl rfl rfl rfl rfl ⟨rfl,rfl,rfl,rfl,rfl⟩ rfl rfl rfl rfl rfl (by kernel_rfl) Tryz.func3 facts
  (of_decide_eq_true (by kernel_rfl)) (by unfold Func.isWrapper;first | (rw [if_pos (by decide +kernel)];kernel_rfl) | (rw [if_neg (by decide +kernel)];exact ⟨rfl,rfl⟩))
  (fun os started H enc _ F=>by rw [OpenClaim.pre_eq_preRow];exact texts_lifted os started H enc F)
/-- The given statement. -/
theorem texts_holds:Rows.PrintTextsUptoCardSaid :=
 Claim7.holds_tied_plain_at .later [] _ _ _ _ texts_said (fun _ h=>by cases h) (by kernel_rfl) (fun _ h=>by cases h) printTextsUpto_row_tie rfl ⟨rfl,rfl⟩ (by kernel_rfl) rfl
  (fun f fn hf hfn=>by
   obtain rfl:f = 3:=Option.some.inj ((show Tryz.prog.funcNamed "quillon/quillonlaw05.PrintTexts" = some 3 by kernel_rfl).symm.trans hf) |>.symm
   obtain rfl:fn = Tryz.f3:=(Option.some.inj (Tryz.func3.symm.trans hfn)).symm
   exact ⟨by kernel_rfl,fun j t ht=>by
    rw [Tryz.params3] at ht
    have hm:t ∈ [26,29,38]:=by simpa using Array.mem_of_getElem? ht
    have hall:([26,29,38].all fun u=>!Tryz.prog.wantsStandIn u) = true:=by kernel_rfl
    exact (show Tryz.prog.wantsStandIn t = false by simpa using List.all_eq_true.1 hall t hm)⟩)
  (by kernel_rfl)
end Go.Proofs.YtbelaghcmgefaaaGreatDoor
