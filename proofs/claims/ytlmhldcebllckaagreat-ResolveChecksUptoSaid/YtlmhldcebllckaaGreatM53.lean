/-
  WHAT IS PROVED HERE: ResolveChecks' own walk. Written by gen/wq.py.
-/
import Derived.Test.YtlmhldcebllckaaGreatRows
import Derived.Carry
import Derived.ProofKit
import Derived.OpenShut
import Derived.JoinedCond
import Derived.Test.YtlmhldcebllckaaGreatM51
import Derived.Test.YtlmhldcebllckaaGreatM52
namespace Go.Proofs.YtlmhldcebllckaaGreat
open Go.RowKit Go.Shelf
attribute [local go_sem] Oper.semAt_some
set_option maxRecDepth 100000 in
set_option maxHeartbeats 8000000 in
theorem checks_great (p:Pr) (V:World) (hin:p.In V) (hz:p.sz ≤ 1048576) (hg:6000 < p.sz):CallsIn Fence.wide 0 Tryz.prog 3 #[.agg #[.slice p.headers.p p.headers.l.length p.headers.cap,.slice p.metas.p p.metas.l.length p.metas.cap,.slice p.states.p p.states.l.length p.states.cap,.slice p.actions.p p.actions.l.length p.actions.cap,.slice p.tables.p p.tables.l.length p.tables.cap,.slice p.control.p p.control.l.length p.control.cap,.slice p.emit.p p.emit.l.length p.emit.cap]] V fun e w'=>e = .returned (.bool true) ∧ ∃ x,w' = plus V x:=by
 have k1:=ats_great p V hin hz
 rw [← pr_cells,decide_eq_true hg] at k1
 have k1':=Lib.hid k1
 clear k1 hin hz hg
 refine callsIn_of_wp Tryz.func3 rfl trivial ?_ rfl
 simp only [Tryz.ntmps3,List.size_toArray,List.length_cons,List.length_nil,Nat.reduceAdd,Nat.reduceSub,Array.replicate_succ,Array.replicate_zero,List.push_toArray,List.append_toArray,List.nil_append,List.cons_append]
 gi_wp2
 obtain ⟨W,hW,hz1,cp⟩:=one_box p V 30
 rw [hW]
 have hz1':=Lib.hid hz1
 clear hW hz1 cp
 refine ⟨trivial,rfl,CallsIn.mono (callsIn_wide.2 (k1'.out W hz1'.out)) ?_⟩
 rintro e U ⟨rfl,x,hU⟩
 have hz2:∃ z,U = plus V z:=by obtain ⟨z,h⟩:=hz1'.out;exact ⟨_,by rw [hU,h,plus_plus]⟩
 have hz2':=Lib.hid hz2
 clear hU hz2 hz1'
 gi_wp2
 refine ⟨trivial,rfl,CallsIn.mono (law_known7 U) ?_⟩
 rintro e X ⟨rfl,y,hX⟩
 have hz3:∃ z,X = plus V z:=by obtain ⟨z,h⟩:=hz2'.out;exact ⟨_,by rw [hX,h,plus_plus]⟩
 have hz3':=Lib.hid hz3
 clear hX hz3
 gi_wp2
 go_ret
 exact ⟨rfl,hz3'.out⟩
set_option maxRecDepth 100000 in
set_option maxHeartbeats 8000000 in
theorem checks_fine (p:Pr) (V:World) (hin:p.In V) (hz:p.sz ≤ 1048576) (hg:¬ 6000 < p.sz) (N E:Int) (hNv:chkN p = N) (hEv:chkE p = E):CallsIn Fence.wide 0 Tryz.prog 3 #[.agg #[.slice p.headers.p p.headers.l.length p.headers.cap,.slice p.metas.p p.metas.l.length p.metas.cap,.slice p.states.p p.states.l.length p.states.cap,.slice p.actions.p p.actions.l.length p.actions.cap,.slice p.tables.p p.tables.l.length p.tables.cap,.slice p.control.p p.control.l.length p.control.cap,.slice p.emit.p p.emit.l.length p.emit.cap]] V fun e w'=>e = .returned (.bool true) ∧ ∃ x,w' = plus V x:=by
 have k1:=ats_great p V hin hz
 rw [← pr_cells,decide_eq_false hg] at k1
 have k1':=Lib.hid k1
 have k2:=ats_kp (q_Check p V hin hz)
 rw [hNv,hEv] at k2
 have k2':=Lib.hid k2
 have k3:Ats Tryz.prog V 8 #[.agg #[.slice p.headers.p p.headers.l.length p.headers.cap,.slice p.metas.p p.metas.l.length p.metas.cap,.slice p.states.p p.states.l.length p.states.cap,.slice p.actions.p p.actions.l.length p.actions.cap,.slice p.tables.p p.tables.l.length p.tables.cap,.slice p.control.p p.control.l.length p.control.cap,.slice p.emit.p p.emit.l.length p.emit.cap]] (.tuple #[.int .i64 N,.int .i64 E]):=fun W ⟨z,h⟩=>by
  subst h
  rw [← hNv,← hEv]
  exact r_check p (plus V z) (hin.plus z) hz
 have k3':=Lib.hid k3
 clear k1 k2 k3 hin hz hg hNv hEv
 refine callsIn_of_wp Tryz.func3 rfl trivial ?_ rfl
 simp only [Tryz.ntmps3,List.size_toArray,List.length_cons,List.length_nil,Nat.reduceAdd,Nat.reduceSub,Array.replicate_succ,Array.replicate_zero,List.push_toArray,List.append_toArray,List.nil_append,List.cons_append]
 gi_wp2
 obtain ⟨W,hW,hz1,cp⟩:=one_box p V 30
 rw [hW]
 have hz1':=Lib.hid hz1
 obtain ⟨b,hb⟩:∃ b,V.heap.size = b:=⟨_,rfl⟩
 rw [hb] at cp ⊢
 clear hb
 have cpU:∀ U,(∃ z,U = plus W z) → ∀ j v,p.cells[j]? = some v → U.cell? ⟨b,j,none⟩ = some v:=fun U h j v hj=>by obtain ⟨z,rfl⟩:=h;exact cell_keep (cp j v hj) z
 have cpU':=Lib.hid cpU
 clear hW hz1 cp cpU
 refine ⟨trivial,rfl,CallsIn.mono (callsIn_wide.2 (k1'.out W hz1'.out)) ?_⟩
 rintro e U ⟨rfl,x,hU⟩
 have u0:=cpU'.out U ⟨_,hU⟩ 0 _ rfl
 have u1:=cpU'.out U ⟨_,hU⟩ 1 _ rfl
 have u2:=cpU'.out U ⟨_,hU⟩ 2 _ rfl
 have u3:=cpU'.out U ⟨_,hU⟩ 3 _ rfl
 have u4:=cpU'.out U ⟨_,hU⟩ 4 _ rfl
 have u5:=cpU'.out U ⟨_,hU⟩ 5 _ rfl
 have u6:=cpU'.out U ⟨_,hU⟩ 6 _ rfl
 have hz2:∃ z,U = plus V z:=by obtain ⟨z,h⟩:=hz1'.out;exact ⟨_,by rw [hU,h,plus_plus]⟩
 have hz2':=Lib.hid hz2
 have hw2':=Lib.hid (⟨_,hU⟩:∃ z,U = plus W z)
 clear hU hz2
 gi_wp2
 refine ⟨trivial,rfl,CallsIn.mono (callsIn_wide.2 (k2'.out U hz2'.out)) ?_⟩
 rintro e X ⟨rfl,y,hX⟩
 have hwX:∃ z,X = plus W z:=by obtain ⟨z,h⟩:=hw2'.out;exact ⟨_,by rw [hX,h,plus_plus]⟩
 have hz3:∃ z,X = plus V z:=by obtain ⟨z,h⟩:=hz2'.out;exact ⟨_,by rw [hX,h,plus_plus]⟩
 have v0:=cpU'.out X hwX 0 _ rfl
 have v1:=cpU'.out X hwX 1 _ rfl
 have v2:=cpU'.out X hwX 2 _ rfl
 have v3:=cpU'.out X hwX 3 _ rfl
 have v4:=cpU'.out X hwX 4 _ rfl
 have v5:=cpU'.out X hwX 5 _ rfl
 have v6:=cpU'.out X hwX 6 _ rfl
 have hz3':=Lib.hid hz3
 clear hX hz3 hwX u0 u1 u2 u3 u4 u5 u6
 gi_wp2
 refine ⟨trivial,rfl,CallsIn.mono (callsIn_wide.2 (k3'.out X hz3'.out)) ?_⟩
 rintro e Y ⟨rfl,y2,hY⟩
 have hz4:∃ z,Y = plus V z:=by obtain ⟨z,h⟩:=hz3'.out;exact ⟨_,by rw [hY,h,plus_plus]⟩
 have hz4':=Lib.hid hz4
 clear hY hz4
 gi_wp2
 refine ⟨trivial,rfl,CallsIn.mono (law_known7 Y) ?_⟩
 rintro e Z ⟨rfl,y3,hZ⟩
 have hz5:∃ z,Z = plus V z:=by obtain ⟨z,h⟩:=hz4'.out;exact ⟨_,by rw [hZ,h,plus_plus]⟩
 have hz5':=Lib.hid hz5
 clear hZ hz5
 gi_wp2
 go_ret
 exact ⟨rfl,hz5'.out⟩
end Go.Proofs.YtlmhldcebllckaaGreat
namespace Go.Proofs.YtlmhldcebllckaaGreat
open Go.ChangeShapes Go.WideShapes Go.ChangeAt Go.RowKit
theorem Tryz.own:ownKnob Tryz.prog.godebug = none:=by kernel_rfl
theorem Tryz.laidOut:laidOutB Tryz.prog = true:=by kernel_rfl
theorem agg_of {v:Value} {cs:List Value} (h:v.cells.toList = cs) (hl:cs.length ≠ 1):v = .agg cs.toArray:=by
 cases v with
 | agg c =>
  simp only [Value.cells] at h
  rw [← h]
 | _=>simp only [Value.cells] at h;subst h;simp at hl
theorem checks_in (p:Pr) (V:World) (hin:p.In V) (hz:p.sz ≤ 1048576):Calls Tryz.prog 3 #[.agg p.cells.toArray] V fun e w'=>e = .returned (.bool true) ∧ ∃ x,w' = plus V x:=by
 refine (callsIn_wide (n:=0)).1 ?_
 rw [← pr_cells]
 by_cases hg:6000 < p.sz
 ·exact checks_great p V hin hz hg
 ·exact checks_fine p V hin hz hg _ _ rfl rfl
set_option maxRecDepth 100000 in
theorem checks_lifted (os:Os) (started:os.Started) (H:Type) (enc:TypeId × Value → H) (F:Stop.Interp) :
  ReturnsInHanded {} Tryz.checked os 3 .any ((Rows.OpenSpec.upto Rows.resolveChecksSpec).pre6 enc Tryz.prog Tryz.f3 Rows.resolveChecksUptoRow.domain false) (((Rows.OpenSpec.upto Rows.resolveChecksSpec).at F).post enc Tryz.prog Tryz.f3 false true false false):=by
 refine returnsInHanded_of_cond (C:=Tryz.checked) (s:=Rows.OpenSpec.upto Rows.resolveChecksSpec) (k:=Rows.uptoSmall) rfl Tryz.own started (by kernel_rfl) Tryz.func3
  (OpenSpec.witness (enc:=enc) (C:=Tryz.checked) (s:=Rows.OpenSpec.upto Rows.resolveChecksSpec) (k:=Rows.uptoSmall) rfl false
   ⟨#[],#[.agg #[.slice none 0 0,.slice none 0 0,.slice none 0 0,.slice none 0 0,.slice none 0 0,.slice none 0 0,.slice none 0 0]],[]⟩ 8 (by kernel_rfl) (by kernel_rfl) (by kernel_rfl)
   (x:=([.agg [.nil,.nil,.nil,.nil,.nil,.nil,.nil]],[],[])) (by kernel_rfl) rfl (by kernel_rfl)) ?_
 intro W base args ds gs before _ hW _ hk _
 have hW':=hW
 obtain ⟨p,q,hA0,hV,rfl,hfz,hnd⟩:=hW
 have hA:DataW.TrodAll enc Tryz.prog W 0 (fun _=>true) true Tryz.f3.params.toList args.toList ds p:=hA0
 rw [Tryz.params3] at hA
 obtain ⟨v0,d0,rfl,rfl,h0⟩:=trodAll_one hA
 obtain ⟨rfl,rfl⟩:=trodVars_none hV
 clear hA0
 have hlt:=hW'.lt
 simp only [List.append_nil] at hW' hlt
 have hbulk:Rows.uptoBulkAll ([d0]++[]) ≤ 1048576:=of_decide_eq_true hk
 simp only [List.append_nil,Rows.uptoBulkAll] at hbulk
 obtain ⟨f0,t0⟩:=id h0
 obtain ⟨a,ea,ia,sa⟩:=open_Pr _ _ t0
 have g0:=agg_of ea (by simp [Pr.cells])
 have hcall:=checks_in a W ia (by simp only at sa;omega)
 rw [← g0] at hcall
 refine hcall.mono fun r W' ⟨hr,y,hw⟩=>?_
 subst hr;subst hw
 have hg:=below_plus W y
 refine ⟨_,rfl,_,_,_,[],p,[],hW',trodAll_mk1 (shut_bool Tryz.underlying4 true),?_,rfl,hg.frame _,fun h=>by cases h⟩
 exact trodAll_mk1 (Below.trod Tryz.laidOut (by kernel_rfl) (of_decide_eq_true (by kernel_rfl)) h0 hg (fun x hx=>hlt x (by simp [hx])))
/-- The given statement. -/
theorem checks_holds:Rows.ResolveChecksUptoSaid :=
 OpenClaim.holds_of_cond 3 Tryz.f3 rfl rfl rfl rfl rfl rfl rfl ⟨rfl,rfl,rfl,rfl,rfl⟩ rfl rfl rfl rfl rfl (by kernel_rfl) Tryz.func3 (by kernel_rfl)
  (of_decide_eq_true (by kernel_rfl)) (by unfold Func.isWrapper;first | (rw [if_pos (by decide +kernel)];kernel_rfl) | (rw [if_neg (by decide +kernel)];exact ⟨rfl,rfl⟩))
  (fun os started H enc _ F=>checks_lifted os started H enc F)
end Go.Proofs.YtlmhldcebllckaaGreat
