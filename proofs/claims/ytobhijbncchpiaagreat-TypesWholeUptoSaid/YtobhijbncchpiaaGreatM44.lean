/-
  WHAT IS PROVED HERE: a part of the proof (made narrower and merged by program; the parts: Zu).
-/
import Derived.Test.YtobhijbncchpiaaGreatM32
import Derived.Test.YtobhijbncchpiaaGreatM15
namespace Go.Proofs.YtobhijbncchpiaaGreat
open Go.RowKit Go.Shelf
attribute [local go_sem] Oper.semAt_some
set_option maxRecDepth 100000 in
set_option maxHeartbeats 8000000 in
theorem check_no (p:Pr) (w:World)
  (hmay:Kp Tryz.prog w 29 #[.agg #[.slice p.headers.p p.headers.l.length p.headers.cap,.slice p.metas.p p.metas.l.length p.metas.cap,.slice p.states.p p.states.l.length p.states.cap,.slice p.actions.p p.actions.l.length p.actions.cap,.slice p.tables.p p.tables.l.length p.tables.cap,.slice p.control.p p.control.l.length p.control.cap,.slice p.emit.p p.emit.l.length p.emit.cap]] (.bool false)) :
  Kp Tryz.prog w 17 #[.agg #[.slice p.headers.p p.headers.l.length p.headers.cap,.slice p.metas.p p.metas.l.length p.metas.cap,.slice p.states.p p.states.l.length p.states.cap,.slice p.actions.p p.actions.l.length p.actions.cap,.slice p.tables.p p.tables.l.length p.tables.cap,.slice p.control.p p.control.l.length p.control.cap,.slice p.emit.p p.emit.l.length p.emit.cap]] (.tuple #[.int .i64 (-1),.int .i64 2]):=by
 intro y0
 have hmay:=hmay.up y0
 obtain⟨V,hV⟩:∃ V,plus w y0=V:=⟨_,rfl⟩
 rw [hV] at hmay ⊢
 clear hV
 have hmay':=Lib.hid hmay
 clear hmay
 refine (callsIn_wide (n:=0)).1 ?_
 refine callsIn_of_wp_marks Tryz.func17 rfl trivial ?_ rfl
 simp only [Tryz.ntmps17,List.size_toArray,List.length_cons,List.length_nil,Nat.reduceAdd,Nat.reduceSub,Array.replicate_succ,Array.replicate_zero,List.push_toArray,List.append_toArray,List.nil_append,List.cons_append]
 gi_wp2
 obtain⟨W3,hW3,⟨z3,hz3⟩,cp,c2,c3,hs3⟩:=three_boxes V _ _ _ 30 3 33
 rw [hW3]
 have qm:=(kp_at hz3 hmay'.out) ⟨#[],W3.drawn⟩
 rw [plus_self] at qm
 have hz3':=Lib.hid hz3
 clear hz3 hW3 cp
 refine⟨trivial,rfl,CallsIn.mono (callsIn_wide.2 qm) ?_⟩
 rintro e U ⟨rfl,x1,hU⟩
 have hzU:=Lib.hid (show U=plus V _ by rw [hU,hz3'.out,plus_plus])
 have c2:Boxed U _ _ _:=(by rw [hU];exact heap_plus c2 x1)
 have c3:Boxed U _ _ _:=(by rw [hU];exact heap_plus c3 x1)
 clear hU hz3' hs3 qm
 have d2:=c2.cell
 have f2:=c2.frozen
 have d3:=c3.cell
 have f3:=c3.frozen
 have C2:=Lib.hid c2
 have C3:=Lib.hid c3
 clear c2 c3
 gi_wp2
 refine⟨_,res_cells _ (V.heap.size+1) (V.heap.size+1+1) (.int .i64 (-1)) (.int .i64 2) _ (Boxed.other (Boxed.set _ C2.out) (by omega) _).cell (Boxed.set _ (Boxed.other C3.out (by omega) _)).cell rfl rfl,rfl,?_⟩
 have kq:=((Kq.plus (fun b=>V.heap.size≤b) V _).trans (by rw [← hzU.out];exact Kq.setCell _ ⟨V.heap.size+1,0,none⟩ (.int .i64 (-1)) (by simp))).trans (Kq.setCell _ ⟨V.heap.size+1+1,0,none⟩ (.int .i64 2) (by simp only;omega))
 exact plus_of_below (kq.low _ (Nat.le_refl _) (fun b h=>h))
/-- What Check hands back. -/
def chkN (p:Pr):Int:=if prB p then ((scanI p (encP p) 0).1:Int) else -1
def chkE (p:Pr):Int:=if prB p then (scanI p (encP p) 0).2 else 2
theorem q_Check (p:Pr) (w:World) (hin:p.In w) (hz:p.sz≤1048576):Kp Tryz.prog w 17 #[.agg #[.slice p.headers.p p.headers.l.length p.headers.cap,.slice p.metas.p p.metas.l.length p.metas.cap,.slice p.states.p p.states.l.length p.states.cap,.slice p.actions.p p.actions.l.length p.actions.cap,.slice p.tables.p p.tables.l.length p.tables.cap,.slice p.control.p p.control.l.length p.control.cap,.slice p.emit.p p.emit.l.length p.emit.cap]] (.tuple #[.int .i64 (chkN p),.int .i64 (chkE p)]):=by
 have h:=ast_may p w hin hz
 unfold chkN chkE
 cases hb:prB p with
 | true =>
  rw [hb] at h
  exact check_yes p w hin hz h
 | false =>
  rw [hb] at h
  exact check_no p w h
end Go.Proofs.YtobhijbncchpiaaGreat
