/-
  WHAT IS PROVED HERE: a part of the proof (made narrower and merged by program; the parts: HP Zw Zx Jn Zy Eh).
-/
import Derived.Test.YtobhijbncchpiaaGreatM15
import Derived.Test.YtobhijbncchpiaaGreatM5
import Derived.Test.YtobhijbncchpiaaGreatM36
import Derived.Test.YtobhijbncchpiaaGreatM44
import Derived.Test.YtobhijbncchpiaaGreatM34
import Derived.Test.YtobhijbncchpiaaGreatM45
import Derived.Test.YtobhijbncchpiaaGreatM46
import Derived.Test.YtobhijbncchpiaaGreatM47
import Derived.Test.YtobhijbncchpiaaGreatM31
namespace Go.Proofs.YtobhijbncchpiaaGreat
open Go.RowKit
open Go.Shelf
open Go.Shelf
attribute [local go_sem] Oper.semAt_some
open Go.Shelf
attribute [local go_sem] Oper.semAt_some
theorem pr_cells (p:Pr):(#[.agg #[.slice p.headers.p p.headers.l.length p.headers.cap,.slice p.metas.p p.metas.l.length p.metas.cap,.slice p.states.p p.states.l.length p.states.cap,.slice p.actions.p p.actions.l.length p.actions.cap,.slice p.tables.p p.tables.l.length p.tables.cap,.slice p.control.p p.control.l.length p.control.cap,.slice p.emit.p p.emit.l.length p.emit.cap]]:Array Value)=#[.agg p.cells.toArray]:=rfl
abbrev Ats (P:Program) (V:World) (f:FuncId) (args:Array Value) (v:Value):Prop:=∀ W,(∃ z,W=plus V z)→Calls P f args W fun e w'=>e=.returned v∧∃ x,w'=plus W x
theorem calls_pure {P:Program} {V:World} {f:FuncId} {args:Array Value} {v:Value} (h:PureIn P V f args v):Calls P f args V fun e w'=>e=.returned v∧∃ x,w'=plus V x:=by
 have:=h ⟨#[],V.drawn⟩
 rwa [plus_self] at this
theorem ats_great (p:Pr) (V:World) (hin:p.In V) (hz:p.sz≤1048576):Ats Tryz.prog V 5 #[.agg p.cells.toArray] (.bool (decide (6000 < p.sz))):=fun W ⟨z,h⟩=>by
 subst h
 exact calls_pure (ref_great p (plus V z) (hin.plus z) hz)
open Go.Shelf
theorem at_of_ats {P:Program} {V X:World} {zX:Ext} {f:FuncId} {args:Array Value} {v:Value} (h:Ats P V f args v) (hz:X=plus V zX) (y:Ext):Calls P f args (plus X y) fun e w'=>e=.returned v∧∃ x,w'=plus X x :=
 (h (plus X y) ⟨_,by rw [hz,plus_plus]⟩).mono fun e w' ⟨he,x,hx⟩=>⟨he,_,hx.trans (plus_plus _ _ _)⟩
theorem known_at8 (X:World) (y:Ext):Calls Tryz.prog 6 #[] (plus X y) fun e w'=>e=.returned (.bool true)∧∃ x,w'=plus X x :=
 (law_known8 (plus X y)).mono fun _ _ ⟨he,_,hx⟩=>⟨he,_,hx.trans (plus_plus _ _ _)⟩
theorem cells_none {w:World} {a:Addr} {cs:List Value} {v:Value} (h:CellsAt w a cs) (h0:cs[0]?=some v):∃ b o,a=⟨b,o,none⟩∧w.rangeAt b o cs:=by
 obtain⟨b,o,s⟩:=a
 cases s with
 | none=>exact⟨b,o,rfl,fun j v hj=>by have:=h j v hj;rwa [Addr.add_lit] at this⟩
 | some s =>
  have:=h.c0 v h0
  unfold World.cell? at this
  split at this <;> simp at this
theorem kp_calls8 {P:Program} {U U2:World} {z:Ext} {f:FuncId} {args:Array Value} {v:Value} (hz:U2=plus U z) (h:∀ y,Calls P f args (plus U y) fun e w'=>e=.returned v∧∃ x,w'=plus U x) (y:Ext):Calls P f args (plus U2 y) fun e w'=>e=.returned v∧∃ x,w'=plus U x:=by
 subst hz
 rw [plus_plus]
 exact h _
theorem items_at8 {p:Pr} {V X:World} {zX:Ext} (hin:p.In V) (hz:p.sz≤1048576) (hX:X=plus V zX) (y:Ext):Calls Tryz.prog 9 #[.agg #[.slice p.headers.p p.headers.l.length p.headers.cap,.slice p.metas.p p.metas.l.length p.metas.cap,.slice p.states.p p.states.l.length p.states.cap,.slice p.actions.p p.actions.l.length p.actions.cap,.slice p.tables.p p.tables.l.length p.tables.cap,.slice p.control.p p.control.l.length p.control.cap,.slice p.emit.p p.emit.l.length p.emit.cap]] (plus X y) fun e w'=>∃ q c z,e=.returned (.slice q (encP p).length c)∧w'=plus X z∧RowAt w' 17 It.cs q (encP p):=by
 refine (r_items p (plus X y) (by rw [hX,plus_plus];exact hin.plus _) hz).mono fun e w' ⟨v,he,hO⟩=>?_
 obtain⟨q,c,rfl,hr⟩:=hO.row
 obtain⟨z,h⟩:=hO.plus
 exact⟨q,c,_,he,h.trans (plus_plus _ _ _),hr⟩
/-- What the law asks of an item holds. -/
theorem whole_st {p:Pr} {a:Int} {s:St} (hw:NoWr p (.st a s)) (ht:tyI p (.st a s)=0) (h0:s.e.op≠0):s.e.may 16=true∧(s.e.ty p a).1=0:=by
 cases hw with
 | stmt _ _ hm h1 h2 =>
  have hk:s.kind=1∨s.kind=2∨s.kind=5:=Classical.byContradiction fun h=>h0 (h2 h)
  refine⟨hm hk,?_⟩
  replace ht:stE p a s=0:=ht
  unfold stE at ht
  by_cases e:(s.e.ty p a).1=0
  ·exact e
  ·rcases hk with hk | hk | hk <;> rw [hk] at ht <;> simp [e] at ht
theorem whole_kt {p:Pr} {e:Ex} (h:keyT p e=0):(e.ty p (-1)).1=0:=by
 unfold keyT at h
 split at h
 ·assumption
 ·exact h
theorem whole_key {p:Pr} {a b:Nat} {t:Ta} {k:Ke} (ht:p.tables.l[a]?=some t) (hk:t.keys.l[b]?=some k) (h:tyI p (.num 12 a b)=0):(k.e.ty p (-1)).1=0:=by
 have h2:keyE p t b=0:=by simpa [tyI,ht] using h
 unfold keyE at h2
 rw [hk] at h2
 simp only at h2
 split at h2
 ·exact whole_kt (by assumption)
 ·rename_i hn;exact absurd h2 hn
theorem whole_next {p:Pr} {a:Nat} {s:Sa} (hs:p.states.l[a]?=some s) (h:tyI p (.num 6 a 0)=0):∀ k ∈ s.keys.l,(k.ty p (-1)).1=0:=fun k hk=>by
 have h2:nextE p s=0:=by simpa [tyI,hs] using h
 exact whole_kt (firstE_all _ h2 _ (List.mem_map.2 ⟨k,hk,rfl⟩))
set_option maxRecDepth 100000 in
set_option maxHeartbeats 32000000 in
theorem whole_great (p:Pr) (V:World) (hin:p.In V) (hz:p.sz≤1048576) (hg:6000 < p.sz):Calls Tryz.prog 4 #[.agg #[.slice p.headers.p p.headers.l.length p.headers.cap,.slice p.metas.p p.metas.l.length p.metas.cap,.slice p.states.p p.states.l.length p.states.cap,.slice p.actions.p p.actions.l.length p.actions.cap,.slice p.tables.p p.tables.l.length p.tables.cap,.slice p.control.p p.control.l.length p.control.cap,.slice p.emit.p p.emit.l.length p.emit.cap]] V fun e w'=>e=.returned (.bool true)∧∃ x,w'=plus V x:=by
 have k1:=ats_great p V hin hz
 rw [← pr_cells,decide_eq_true hg] at k1
 go_enter Tryz.func4,Tryz.ntmps4
 go_upto_region 1 with (fail)
 obtain⟨X,Y0,eX,⟨zX,hzX⟩,cp⟩:=box1n V _ 30
 rw [eX]
 have g0:=cp 0 (some (.slice p.headers.p p.headers.l.length p.headers.cap)) rfl
 have g1:=cp 1 (some (.slice p.metas.p p.metas.l.length p.metas.cap)) rfl
 have g2:=cp 2 (some (.slice p.states.p p.states.l.length p.states.cap)) rfl
 have g3:=cp 3 (some (.slice p.actions.p p.actions.l.length p.actions.cap)) rfl
 have g4:=cp 4 (some (.slice p.tables.p p.tables.l.length p.tables.cap)) rfl
 have g5:=cp 5 (some (.slice p.control.p p.control.l.length p.control.cap)) rfl
 have g6:=cp 6 (some (.slice p.emit.p p.emit.l.length p.emit.cap)) rfl
 have kG:=Lib.hid (at_of_ats k1 hzX)
 have kK:=Lib.hid (known_at8 X)
 have hz':=Lib.hid hzX
 clear eX cp hzX k1 hin hz hg
 go_wp2_with (first|(go_at_call 5;with_reducible refine (kG.out _).mono ?_;rintro r w' ⟨rfl,x,rfl⟩)|(go_at_call 6;with_reducible refine (kK.out _).mono ?_;rintro r w' ⟨rfl,x,rfl⟩))
 go_ret
 exact⟨rfl,pp hz'.out⟩
set_option maxRecDepth 100000 in
set_option maxHeartbeats 32000000 in
theorem whole_wrong (p:Pr) (V:World) (hin:p.In V) (hz:p.sz≤1048576) (hg:¬ 6000 < p.sz) (N E:Int) (hN:tckN p=N) (hE:tckE p=E) (h0:E≠0):Calls Tryz.prog 4 #[.agg #[.slice p.headers.p p.headers.l.length p.headers.cap,.slice p.metas.p p.metas.l.length p.metas.cap,.slice p.states.p p.states.l.length p.states.cap,.slice p.actions.p p.actions.l.length p.actions.cap,.slice p.tables.p p.tables.l.length p.tables.cap,.slice p.control.p p.control.l.length p.control.cap,.slice p.emit.p p.emit.l.length p.emit.cap]] V fun e w'=>e=.returned (.bool true)∧∃ x,w'=plus V x:=by
 have k1:=ats_great p V hin hz
 rw [← pr_cells,decide_eq_false hg] at k1
 have k2:=t_Check p V hin hz
 rw [hN,hE] at k2
 go_enter Tryz.func4,Tryz.ntmps4
 go_upto_region 1 with (fail)
 obtain⟨X,Y0,eX,⟨zX,hzX⟩,cp⟩:=box1n V _ 30
 rw [eX]
 have g0:=cp 0 (some (.slice p.headers.p p.headers.l.length p.headers.cap)) rfl
 have g1:=cp 1 (some (.slice p.metas.p p.metas.l.length p.metas.cap)) rfl
 have g2:=cp 2 (some (.slice p.states.p p.states.l.length p.states.cap)) rfl
 have g3:=cp 3 (some (.slice p.actions.p p.actions.l.length p.actions.cap)) rfl
 have g4:=cp 4 (some (.slice p.tables.p p.tables.l.length p.tables.cap)) rfl
 have g5:=cp 5 (some (.slice p.control.p p.control.l.length p.control.cap)) rfl
 have g6:=cp 6 (some (.slice p.emit.p p.emit.l.length p.emit.cap)) rfl
 have kG:=Lib.hid (at_of_ats k1 hzX)
 have kC:=Lib.hid (kp_at hzX k2)
 have kK:=Lib.hid (known_at8 X)
 have hz':=Lib.hid hzX
 have e0:(E != 0)=true:=by simpa using h0
 clear eX cp hzX k1 k2 hin hz hg hN hE
 go_wp2_with (first|(go_at_call 5;with_reducible refine (kG.out _).mono ?_;rintro r w' ⟨rfl,x,rfl⟩)|(go_at_call 7;with_reducible refine (kC.out _).mono ?_;rintro r w' ⟨rfl,x,rfl⟩)|(go_at_call 6;with_reducible refine (kK.out _).mono ?_;rintro r w' ⟨rfl,x,rfl⟩))
 go_ret
 exact⟨rfl,pp hz'.out⟩
end Go.Proofs.YtobhijbncchpiaaGreat
