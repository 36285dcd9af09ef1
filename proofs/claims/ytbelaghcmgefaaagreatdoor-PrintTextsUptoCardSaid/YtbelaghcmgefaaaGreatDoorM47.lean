/-
  WHAT IS PROVED HERE: a part of the proof (made narrower and merged by program; the parts: Pv Yx).
-/
import Derived.Test.YtbelaghcmgefaaaGreatDoorRows
import Derived.ProofKit
import Derived.LaidMore
import Derived.OpenShut
import Derived.Stop.Joined
import Derived.Stop.LaidErr
import Derived.Lib.LaidTab
import Derived.Lay
import Derived.MakeChecks
import Derived.Test.YtbelaghcmgefaaaGreatDoorCards
import Derived.Test.YtbelaghcmgefaaaGreatDoorTie
import Derived.Carry
import Derived.JoinedCond
import Derived.Deep.DeepHandedRow
import Derived.Test.YtbelaghcmgefaaaGreatDoorM34
import Derived.Test.YtbelaghcmgefaaaGreatDoorM46
namespace Go.Proofs.YtbelaghcmgefaaaGreatDoor
open Go.ChangeShapes Go.WideShapes Go.ChangeAt Go.RowKit
abbrev laid3:List (String × DataW Unit):=[("math/bits.deBruijn32tab",Rows.laid_math_bits_deBruijn32tab),("math/bits.deBruijn64tab",Rows.laid_math_bits_deBruijn64tab),("internal/strconv.uint64pow10",Rows.laid_internal_strconv_uint64pow10)]
theorem gPow:Tryz.prog.globalNamed "internal/strconv.uint64pow10" = some 2:=by kernel_rfl
theorem tPow:(Tryz.prog.globals[2]?).map (·.type) = some 213:=by kernel_rfl
theorem cPow:Tryz.prog.cellsOf 213 = 20:=by kernel_rfl
theorem cU64p:Tryz.prog.cellsOf 22 = 1:=by kernel_rfl
theorem pow_data:(Rows.laid_internal_strconv_uint64pow10:DataW Unit) = Lib.tabData .u64 Lib.pow10Tab:=by rfl
theorem tab_of {W:World} (h:laidMetH Tryz.prog laid3 W):Tab W:=by
 rw [MakeChecks.laidMetH_plain _ _ _ (by kernel_rfl)] at h
 have h2:=laidMet.tail (laidMet.tail h)
 rw [pow_data] at h2
 exact Lib.tabIs_of_head gPow tPow Tryz.underlying213 Tryz.underlying22 cU64p cPow h2
/-- A start at which they stand. -/
theorem start_met (os:Os) (args:Array Value):laidMetH Tryz.prog laid3 ((World.laidAll Tryz.prog os laid3).forCall (fun _ _=>0) ⟨#[],args,[]⟩).memory:=by
 rw [MakeChecks.laidMetH_plain _ _ _ (by kernel_rfl)]
 exact laidMet_laidAll _ (by kernel_rfl) (by kernel_rfl)
end Go.Proofs.YtbelaghcmgefaaaGreatDoor
namespace Go.Proofs.YtbelaghcmgefaaaGreatDoor
open Go.ChangeShapes Go.WideShapes Go.ChangeAt Go.RowKit
theorem Tryz.own:ownKnob Tryz.prog.godebug = none:=by kernel_rfl
theorem Tryz.laidOut:laidOutB Tryz.prog = true:=by kernel_rfl
theorem agg_of {v:Value} {cs:List Value} (h:v.cells.toList = cs) (hl:cs.length ≠ 1):v = .agg cs.toArray:=by
 cases v with
 | agg c =>
  simp only [Value.cells] at h
  rw [← h]
 | _=>simp only [Value.cells] at h;subst h;simp at hl
theorem reads (os:Os) {H:Type} (enc:TypeId × Value → H):∃ places,DataW.whole enc Tryz.prog ((World.laidAll Tryz.prog os laid3).forCall (fun _ _=>0) ⟨#[],#[.agg #[.int .i64 0,.int .u64 0,.int .u64 0],.agg #[.int .u8 0,.int .i64 0,.int .u64 0,.int .u64 0,.string ⟨#[]⟩,.string ⟨#[]⟩,.int .i64 0,.int .i64 0,.slice none 0 0],.agg #[.slice none 0 0,.slice none 0 0,.slice none 0 0,.slice none 0 0,.slice none 0 0,.slice none 0 0,.slice none 0 0]],[]⟩).memory Tryz.f3.params.toList Rows.printTextsSpec.vars false (#[.agg #[.int .i64 0,.int .u64 0,.int .u64 0],.agg #[.int .u8 0,.int .i64 0,.int .u64 0,.int .u64 0,.string ⟨#[]⟩,.string ⟨#[]⟩,.int .i64 0,.int .i64 0,.slice none 0 0],.agg #[.slice none 0 0,.slice none 0 0,.slice none 0 0,.slice none 0 0,.slice none 0 0,.slice none 0 0,.slice none 0 0]]:Array Value).toList 8 = some ([.agg [.lit (.int .i64 0),.agg [.lit (.int .u64 0),.lit (.int .u64 0)]],.agg [.lit (.int .u8 0),.agg [.lit (.int .i64 0),.agg [.lit (.int .u64 0),.lit (.int .u64 0)]],.lit (.string []),.lit (.string []),.lit (.int .i64 0),.lit (.int .i64 0),.nil],.agg [.nil,.nil,.nil,.nil,.nil,.nil,.nil]],[],places) :=
 ⟨[],by kernel_rfl⟩
set_option maxRecDepth 100000 in
theorem texts_lifted (os:Os) (started:os.Started) (H:Type) (enc:TypeId × Value → H) (F:Stop.Interp) :
  ReturnsInHanded {} Tryz.checked os 3 .any ((Rows.OpenSpec.upto Rows.printTextsSpec).preRow enc Tryz.prog Tryz.f3 Rows.printTextsUptoRow.domain false Rows.printTextsUptoRow.laid) (((Rows.OpenSpec.upto Rows.printTextsSpec).at F).post enc Tryz.prog Tryz.f3 false true false false):=by
 obtain ⟨places,hx⟩:=reads os enc
 refine returnsInHanded_of_row (C:=Tryz.checked) (s:=Rows.OpenSpec.upto Rows.printTextsSpec) Tryz.own started (by kernel_rfl) Tryz.func3
  (witness_row_at (enc:=enc) (C:=Tryz.checked) false (World.laidAll Tryz.prog os laid3) #[.agg #[.int .i64 0,.int .u64 0,.int .u64 0],.agg #[.int .u8 0,.int .i64 0,.int .u64 0,.int .u64 0,.string ⟨#[]⟩,.string ⟨#[]⟩,.int .i64 0,.int .i64 0,.slice none 0 0],.agg #[.slice none 0 0,.slice none 0 0,.slice none 0 0,.slice none 0 0,.slice none 0 0,.slice none 0 0,.slice none 0 0]] (World.laidAll_os _ _ _) (by kernel_rfl) (by kernel_rfl) (by kernel_rfl)
   (OpenSpec.preRow_of_cond 8 hx (by kernel_rfl) (fun k hk=>by cases hk;kernel_rfl) (by kernel_rfl) (start_met os _))) ?_
 intro W base args ds gs before _ hW _ hcond _ hL _ _
 have hk:=hcond _ rfl
 have hW':=hW
 obtain ⟨p,q,hA0,hV,rfl,hfz,hnd⟩:=hW
 have hA:DataW.TrodAll enc Tryz.prog W 0 (fun _=>true) true Tryz.f3.params.toList args.toList ds p:=hA0
 rw [Tryz.params3] at hA
 obtain ⟨v0,v1,v2,d0,d1,d2,p0,p1,p2,rfl,rfl,rfl,h0,h1,h2⟩:=trodAll_three hA
 obtain ⟨rfl,rfl⟩:=trodVars_none hV
 clear hA0
 have hlt:=hW'.lt
 simp only [List.append_nil] at hW' hlt
 have hbulk:Rows.uptoBulkAll ([d0,d1,d2]++[]) ≤ 1048576:=of_decide_eq_true hk
 simp only [List.append_nil,Rows.uptoBulkAll] at hbulk
 obtain ⟨f0,t0⟩:=id h0
 obtain ⟨f1,t1⟩:=id h1
 obtain ⟨f2,t2⟩:=id h2
 obtain ⟨l,el,il,_⟩:=open_lit _ _ t0
 obtain ⟨e,ee,ie,se⟩:=open_ex _ _ _ t1
 obtain ⟨p',ep,ip,sp⟩:=open_Pr _ _ t2
 have g0:=agg_of el (by simp [Lt.cells])
 have g1:=agg_of ee (by simp [Ex.cells])
 have g2:=agg_of ep (by simp [Pr.cells])
 have hcall:=calls_self (texts_in l e p' W (tab_of hL) il ie ip (by simp only at se;omega) (by simp only at sp;omega))
 rw [← g0,← g1,← g2] at hcall
 refine hcall.mono fun r W' ⟨hr,y,hw⟩=>?_
 subst hr;subst hw
 have hg:=below_plus W y
 refine ⟨_,rfl,_,_,_,[],p0++(p1++p2),[],hW',trodAll_mk1 (shut_bool Tryz.underlying4 true),?_,rfl,hg.frame _,fun h=>by cases h⟩
 exact trodAll_mk3 (Below.trod Tryz.laidOut (by kernel_rfl) (of_decide_eq_true (by kernel_rfl)) h0 hg (fun x hx=>hlt x (by simp [hx]))) (Below.trod Tryz.laidOut (by kernel_rfl) (of_decide_eq_true (by kernel_rfl)) h1 hg (fun x hx=>hlt x (by simp [hx]))) (Below.trod Tryz.laidOut (by kernel_rfl) (of_decide_eq_true (by kernel_rfl)) h2 hg (fun x hx=>hlt x (by simp [hx])))
end Go.Proofs.YtbelaghcmgefaaaGreatDoor
