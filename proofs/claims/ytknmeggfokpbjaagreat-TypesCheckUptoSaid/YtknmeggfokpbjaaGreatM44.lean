/-
  WHAT IS PROVED HERE: a part of the proof (made narrower and merged by program; the parts: Wp).
-/
import Derived.Test.YtknmeggfokpbjaaGreatM33
import Derived.Test.YtknmeggfokpbjaaGreatM39
import Derived.Test.YtknmeggfokpbjaaGreatM32
import Derived.Test.YtknmeggfokpbjaaGreatM43
set_option maxRecDepth 100000
set_option maxHeartbeats 8000000
set_option linter.all false
namespace Go.Proofs.YtknmeggfokpbjaaGreat
open Z
open Go.RowKit Go.Proofs.Tryz
open Lib renaming hid→Zf
open List renaming mem_of_getElem?→Zo
open Nat renaming zero_le→Zw
open Go.Proofs.Tryz renaming prog→Zx
open Value renaming int→Zz
open Go.RowKit
theorem yA(p:Pr):(#[.agg p.cells.toArray]:Array Value)=#[.agg #[.slice p.headers.p p.headers.l.length p.headers.cap,.slice p.metas.p p.metas.l.length p.metas.cap,.slice p.states.p p.states.l.length p.states.cap,.slice p.actions.p p.actions.l.length p.actions.cap,.slice p.tables.p p.tables.l.length p.tables.cap,.slice p.control.p p.control.l.length p.control.cap,.slice p.emit.p p.emit.l.length p.emit.cap]]:=rfl
theorem dz(p:Pr)(w:World)(ZF:p.In w)(hz:p.sz≤1048576)(hB:Vr p=false):Calls Zx 22 #[.agg #[.slice p.headers.p p.headers.l.length p.headers.cap,.slice p.metas.p p.metas.l.length p.metas.cap,.slice p.states.p p.states.l.length p.states.cap,.slice p.actions.p p.actions.l.length p.actions.cap,.slice p.tables.p p.tables.l.length p.tables.cap,.slice p.control.p p.control.l.length p.control.cap,.slice p.emit.p p.emit.l.length p.emit.cap]] w fun e w'=>e=.returned (.tuple #[.int .i64 (-1),.int .i64 2])∧∃x,w'=plus w x:=by
 have VR:=Zf ZF;have ZN:=Zf hz;have kM:=yQ p w ZF hz;rw[yA,hB]at kM;have kM':=Zf kM;clear ZF hz kM;go_enter func22,ntmps22;open Z renaming aem→Gr in exact ER
theorem dA(p:Pr)(w:World)(ZF:p.In w)(hz:p.sz≤1048576)(hB:Vr p=true):Calls Zx 22 #[.agg #[.slice p.headers.p p.headers.l.length p.headers.cap,.slice p.metas.p p.metas.l.length p.metas.cap,.slice p.states.p p.states.l.length p.states.cap,.slice p.actions.p p.actions.l.length p.actions.cap,.slice p.tables.p p.tables.l.length p.tables.cap,.slice p.control.p p.control.l.length p.control.cap,.slice p.emit.p p.emit.l.length p.emit.cap]] w fun e w'=>e=.returned (.tuple #[.int .i64 ((Tm p (Yh p) 0).1:Int),.int .i64 (Tm p (Yh p) 0).2])∧∃x,w'=plus w x:=by
 have XI:=Zf hB;obtain⟨R,hR⟩:=ZB (Tm p (Yh p) 0);rw[hR];have ZR:=Zf hR;clear hR;have VR:=Zf ZF;have ZN:=Zf hz;have kM:=yQ p w ZF hz;rw[yA,hB]at kM;have kM':=Zf kM;clear ZF hz kM;go_enter func22,ntmps22;open Z renaming abG→BD in exact xZ
theorem yK(p:Pr)(w:World)(ZF:p.In w)(hz:p.sz≤1048576):Calls Zx 22 #[.agg #[.slice p.headers.p p.headers.l.length p.headers.cap,.slice p.metas.p p.metas.l.length p.metas.cap,.slice p.states.p p.states.l.length p.states.cap,.slice p.actions.p p.actions.l.length p.actions.cap,.slice p.tables.p p.tables.l.length p.tables.cap,.slice p.control.p p.control.l.length p.control.cap,.slice p.emit.p p.emit.l.length p.emit.cap]] w fun e w'=>e=.returned (.tuple #[.int .i64 (Ry p),.int .i64 (Um p)])∧∃x,w'=plus w x:=by
 unfold Ry Um;cases hB:Vr p with
 | true=>exact dA p w ZF hz hB
 | false=>exact dz p w ZF hz hB
end Go.Proofs.YtknmeggfokpbjaaGreat
