/-
  WHAT IS PROVED HERE: TypesWhole, of programs of bulk at most 1048576: where Check tells OK each expression of a statement, a key, a transition, and each in it, has a type, of a width of 1 to 128, where it has one. No condition but the bound on the bulk.
-/
import Derived.Carry
import Derived.ProofKit
import Derived.OpenShut
import Derived.JoinedCond
import Derived.Test.YtobhijbncchpiaaGreatM49
namespace Go.Proofs.YtobhijbncchpiaaGreat
open Go.ChangeShapes Go.WideShapes Go.ChangeAt Go.RowKit
theorem Tryz.own:ownKnob Tryz.prog.godebug=none:=by kernel_rfl
theorem Tryz.laidOut:laidOutB Tryz.prog=true:=by kernel_rfl
theorem agg_of {v:Value} {cs:List Value} (h:v.cells.toList=cs) (hl:cs.length≠1):v=.agg cs.toArray:=by
 cases v with
 | agg c =>
  simp only [Value.cells] at h
  rw [← h]
 | _=>simp only [Value.cells] at h;subst h;simp at hl
theorem whole_in (p:Pr) (V:World) (hin:p.In V) (hz:p.sz≤1048576):Calls Tryz.prog 4 #[.agg p.cells.toArray] V fun e w'=>e=.returned (.bool true)∧∃ x,w'=plus V x:=by
 rw [← pr_cells]
 by_cases hg:6000 < p.sz
 ·exact whole_great p V hin hz hg
 by_cases hE:tckE p=0
 ·have hC:chkE p=0:=by
   unfold tckE at hE
   split at hE
   ·assumption
   ·exact hE
  obtain⟨hB,hall⟩:=chk_fine hC
  have hT:(scanT p (encP p) 0).2=0:=by unfold tckE at hE;rwa [if_pos hC] at hE
  exact whole_fine p V hin hz hg _ rfl hE (wide_of hB) fun z hm=>⟨no_wrong p V hin hz hB hall z hm,scanT_zero p (encP p) 0 hT z hm⟩
 ·exact whole_wrong p V hin hz hg _ _ rfl rfl hE
set_option maxRecDepth 100000 in
theorem whole_lifted (os:Os) (started:os.Started) (H:Type) (enc:TypeId × Value→H) (F:Stop.Interp) :
  ReturnsInHanded {} Tryz.checked os 4 .any ((Rows.OpenSpec.upto Rows.typesWholeSpec).pre6 enc Tryz.prog Tryz.f4 Rows.typesWholeUptoRow.domain false) (((Rows.OpenSpec.upto Rows.typesWholeSpec).at F).post enc Tryz.prog Tryz.f4 false true false false):=by
 refine returnsInHanded_of_cond (C:=Tryz.checked) (s:=Rows.OpenSpec.upto Rows.typesWholeSpec) (k:=Rows.uptoSmall) rfl Tryz.own started (by kernel_rfl) Tryz.func4
  (OpenSpec.witness (enc:=enc) (C:=Tryz.checked) (s:=Rows.OpenSpec.upto Rows.typesWholeSpec) (k:=Rows.uptoSmall) rfl false
   ⟨#[],#[.agg #[.slice none 0 0,.slice none 0 0,.slice none 0 0,.slice none 0 0,.slice none 0 0,.slice none 0 0,.slice none 0 0]],[]⟩ 8 (by kernel_rfl) (by kernel_rfl) (by kernel_rfl)
   (x:=([.agg [.nil,.nil,.nil,.nil,.nil,.nil,.nil]],[],[])) (by kernel_rfl) rfl (by kernel_rfl)) ?_
 intro W base args ds gs before _ hW _ hk _
 have hW':=hW
 obtain⟨p,q,hA0,hV,rfl,hfz,hnd⟩:=hW
 have hA:DataW.TrodAll enc Tryz.prog W 0 (fun _=>true) true Tryz.f4.params.toList args.toList ds p:=hA0
 rw [Tryz.params4] at hA
 obtain⟨v0,d0,rfl,rfl,h0⟩:=trodAll_one hA
 obtain⟨rfl,rfl⟩:=trodVars_none hV
 clear hA0
 have hlt:=hW'.lt
 simp only [List.append_nil] at hW' hlt
 have hbulk:Rows.uptoBulkAll ([d0]++[])≤1048576:=of_decide_eq_true hk
 simp only [List.append_nil,Rows.uptoBulkAll] at hbulk
 obtain⟨f0,t0⟩:=id h0
 obtain⟨a,ea,ia,sa⟩:=open_Pr _ _ t0
 have g0:=agg_of ea (by simp [Pr.cells])
 have hcall:=whole_in a W ia (by simp only at sa;omega)
 rw [← g0] at hcall
 refine hcall.mono fun r W' ⟨hr,y,hw⟩=>?_
 subst hr;subst hw
 have hg:=below_plus W y
 refine⟨_,rfl,_,_,_,[],p,[],hW',trodAll_mk1 (shut_bool Tryz.underlying4 true),?_,rfl,hg.frame _,fun h=>by cases h⟩
 exact trodAll_mk1 (Below.trod Tryz.laidOut (by kernel_rfl) (of_decide_eq_true (by kernel_rfl)) h0 hg (fun x hx=>hlt x (by simp [hx])))
/-- The given statement. -/
theorem whole_holds:Rows.TypesWholeUptoSaid :=
 OpenClaim.holds_of_cond 4 Tryz.f4 rfl rfl rfl rfl rfl rfl rfl ⟨rfl,rfl,rfl,rfl,rfl⟩ rfl rfl rfl rfl rfl (by kernel_rfl) Tryz.func4 (by kernel_rfl)
  (of_decide_eq_true (by kernel_rfl)) (by unfold Func.isWrapper;first|(rw [if_pos (by decide +kernel)];kernel_rfl)|(rw [if_neg (by decide +kernel)];exact⟨rfl,rfl⟩))
  (fun os started H enc _ F=>whole_lifted os started H enc F)
end Go.Proofs.YtobhijbncchpiaaGreat
