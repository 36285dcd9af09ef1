/-
  WHAT IS PROVED HERE: PrintTwo, of arguments of bulk at most 1048576: two programs, or expressions, that may be have the same text just if they are the same; what may not be has none. The condition: the bound on the bulk; the library's tables that the row lists are tied to the program's text.
-/
import Derived.Test.YtpjhokdehcpjbaaGreatDoorRows
import Derived.Test.YtpjhokdehcpjbaaGreatDoorCards
import Derived.Test.YtpjhokdehcpjbaaGreatDoorTie
import Derived.Test.YtpjhokdehcpjbaaGreatDoorM49
namespace Go.Proofs.YtpjhokdehcpjbaaGreatDoor
open Go.ChangeShapes Go.WideShapes Go.ChangeAt Go.RowKit
theorem jf1:laidOutB Tryz.pinned.checked.prog = true:=by kernel_rfl
theorem jf2:mapsRowed Tryz.pinned.checked.prog = true:=by kernel_rfl
theorem jf3:(Rows.printTwoUptoRow.inPlace == Tryz.pinned.checked.prog.inPlace 4) = true:=by kernel_rfl
theorem jf4:(Rows.printTwoUptoRow.unfollowed == Tryz.pinned.checked.prog.unfollowed 4) = true:=by kernel_rfl
theorem jf5:(Rows.printTwoUptoRow.recurses == Tryz.pinned.checked.prog.recurses 4) = true:=by kernel_rfl
theorem jf6:(Rows.printTwoUptoRow.named == Tryz.pinned.checked.prog.varsNamed 4) = true:=by kernel_rfl
theorem facts:joinedFacts Tryz.pinned.checked.prog 4 Tryz.f4 (Rows.OpenSpec.upto Rows.printTwoSpec).bare Rows.printTwoUptoRow = true:=by
 unfold joinedFacts
 simp only [Bool.and_eq_true]
 repeat' apply And.intro
 all_goals first | with_reducible exact jf1 | with_reducible exact jf2 | with_reducible exact jf3 | with_reducible exact jf4 | with_reducible exact jf5 | with_reducible exact jf6 | kernel_rfl
theorem two_said:Rows.PrintTwoUptoSaid :=
 OpenClaim.holds_of_cond 4 Tryz.f4 rfl rfl rfl rfl rfl rfl rfl ⟨rfl,rfl,rfl,rfl,rfl⟩ rfl rfl rfl rfl rfl (by kernel_rfl) Tryz.func4 facts
  (of_decide_eq_true (by kernel_rfl)) (by unfold Func.isWrapper;first | (rw [if_pos (by decide +kernel)];kernel_rfl) | (rw [if_neg (by decide +kernel)];exact ⟨rfl,rfl⟩))
  (fun os started H enc _ F=>by rw [OpenClaim.pre_eq_preRow];exact two_lifted os started H enc F)
/-- The given statement. -/
theorem two_holds:Rows.PrintTwoUptoCardSaid :=
 Claim7.holds_tied_plain_at .later [] _ _ _ _ two_said (fun _ h=>by cases h) (by kernel_rfl) (fun _ h=>by cases h) printTwoUpto_row_tie rfl ⟨rfl,rfl⟩ (by kernel_rfl) rfl
  (fun f fn hf hfn=>by
   obtain rfl:f = 4:=Option.some.inj ((show Tryz.prog.funcNamed "quillon/quillonlaw05.PrintTwo" = some 4 by kernel_rfl).symm.trans hf) |>.symm
   obtain rfl:fn = Tryz.f4:=(Option.some.inj (Tryz.func4.symm.trans hfn)).symm
   exact ⟨by kernel_rfl,fun j t ht=>by
    rw [Tryz.params4] at ht
    have hm:t ∈ [38,38,29,29]:=by simpa using Array.mem_of_getElem? ht
    have hall:([38,38,29,29].all fun u=>!Tryz.prog.wantsStandIn u) = true:=by kernel_rfl
    exact (show Tryz.prog.wantsStandIn t = false by simpa using List.all_eq_true.1 hall t hm)⟩)
  (by kernel_rfl)
end Go.Proofs.YtpjhokdehcpjbaaGreatDoor
