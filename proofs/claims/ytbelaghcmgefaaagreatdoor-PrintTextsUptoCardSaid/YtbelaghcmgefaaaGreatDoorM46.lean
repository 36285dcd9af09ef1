/-
  WHAT IS PROVED HERE: a part of the proof (made narrower and merged by program; the parts: Yz Yw).
-/
import Derived.Test.YtbelaghcmgefaaaGreatDoorRows
import Derived.WalkKit
import Derived.Lib.Hide
import Derived.WalkSpells
import Derived.WalkLawsBesides
import Derived.Laws.EntriesVeiled
import Derived.Shelf.Abstract
import Derived.Test.YtbelaghcmgefaaaGreatDoorM44
import Derived.Test.YtbelaghcmgefaaaGreatDoorM45
import Derived.Test.YtbelaghcmgefaaaGreatDoorM38
import Derived.Test.YtbelaghcmgefaaaGreatDoorM26
import Derived.Test.YtbelaghcmgefaaaGreatDoorM39
namespace Go.Proofs.YtbelaghcmgefaaaGreatDoor
open Go.RowKit
def litT (l:Lt):ByteArray:=if ltB l = true then ⟨l.tx.toArray⟩ else ⟨#[]⟩
theorem rlit_any (l:Lt) (w:World) (h:l.Ok):Kp Tryz.prog w 8 #[.agg l.cells.toArray] (.string (litT l)) :=
 rlit5_of l w h (Kp.all (by rw [Lt.nv_eq h];exact ref_text l.n (Lt.n_lt h)))
set_option maxRecDepth 100000 in
set_option maxHeartbeats 4000000 in
theorem rexpr_yes (a0 a1 a2 a3:Int) (a4 a5:ByteArray) (a6 a7:Int) (ap:Option Addr) (an ac:Nat) (b:Bool) (X:ByteArray) (w:World)
  (hm:Kp Tryz.prog w 24 #[.agg #[.int .u8 a0,.int .i64 a1,.int .u64 a2,.int .u64 a3,.string a4,.string a5,.int .i64 a6,.int .i64 a7,.slice ap an ac]] (.bool b))
  (hX:b = true → Kp Tryz.prog w 25 #[.agg #[.int .u8 a0,.int .i64 a1,.int .u64 a2,.int .u64 a3,.string a4,.string a5,.int .i64 a6,.int .i64 a7,.slice ap an ac]] (.string X))
  (hn:b = false → X = ⟨#[]⟩) :
  Kp Tryz.prog w 10 #[.agg #[.int .u8 a0,.int .i64 a1,.int .u64 a2,.int .u64 a3,.string a4,.string a5,.int .i64 a6,.int .i64 a7,.slice ap an ac]] (.string X):=by
 intro y0
 have hm:=hm.up y0
 have hX:=fun h=>(hX h).up y0
 obtain ⟨V,hV⟩:∃ V,plus w y0 = V:=⟨_,rfl⟩
 simp only [hV] at hm hX ⊢
 clear hV
 have hm':=Lib.hid hm
 have hX':=Lib.hid hX
 have hn':=Lib.hid hn
 clear hm hX hn
 go_enter Tryz.func10,Tryz.ntmps10
 go_upto_region 1 with (fail)
 obtain ⟨W,yy,hW,⟨z,hz⟩,ca⟩:=box1n V _ 29
 rw [hW]
 have c0:=ca 0 _ rfl
 have c1:=ca 1 _ rfl
 have c2:=ca 2 _ rfl
 have c3:=ca 3 _ rfl
 have c4:=ca 4 _ rfl
 have c5:=ca 5 _ rfl
 have c6:=ca 6 _ rfl
 have c7:=ca 7 _ rfl
 have c8:=ca 8 _ rfl
 have mc:=Lib.hid (kp_at hz hm'.out)
 have xc:=Lib.hid (fun h=>kp_at hz (hX'.out h))
 have hz2:=Lib.hid hz
 clear hW hz ca hm' hX'
 cases b with
 | false =>
  have e:=Lib.hid (hn'.out rfl)
  clear xc hn'
  go_wp2_with (first | (go_at_call 24;with_reducible refine (mc.out _).mono ?_;rintro r w' ⟨rfl,x,rfl⟩))
  go_ret
  exact ⟨by rw [e.out];rfl,by rw [hz2.out,plus_plus];exact ⟨_,rfl⟩⟩
 | true =>
  have xd:=Lib.hid (xc.out rfl)
  clear hn' xc
  go_wp2_with (first | (go_at_call 24;with_reducible refine (mc.out _).mono ?_;rintro r w' ⟨rfl,x,rfl⟩))
  refine (xd.out _).mono ?_
  rintro r w' ⟨rfl,x2,rfl⟩
  go_wp2
  go_ret
  exact ⟨rfl,by rw [hz2.out,plus_plus];exact ⟨_,rfl⟩⟩
theorem rexpr_t (e:Ex) (w:World) (he:e.In w) (hz:e.wt ≤ 1048576):Kp Tryz.prog w 10 #[.agg e.cells.toArray] (.string (exprT e)):=by
 have hm:=rmay_in e w he hz
 have hX:=fun h=>(rt_ex ref_text e 16 w h he hz).1
 unfold Ex.cells at hm hX ⊢
 refine rexpr_yes _ _ _ _ _ _ _ _ _ _ _ (Ex.may 16 e) _ w hm (fun h=>?_) (fun h=>?_)
 ·have:=hX h
  unfold exprT
  rw [if_pos h]
  exact this
 ·unfold exprT
  rw [if_neg (by rw [h];decide)]
set_option maxRecDepth 100000 in
set_option maxHeartbeats 4000000 in
theorem rprog_no (p0 p1 p2 p3 p4 p5 p6:Option Addr) (n0 n1 n2 n3 n4 n5 n6 c0 c1 c2 c3 c4 c5 c6:Nat) (w:World)
  (hm:Kp Tryz.prog w 28 #[.agg #[.slice p0 n0 c0,.slice p1 n1 c1,.slice p2 n2 c2,.slice p3 n3 c3,.slice p4 n4 c4,.slice p5 n5 c5,.slice p6 n6 c6]] (.bool false)) :
  Kp Tryz.prog w 12 #[.agg #[.slice p0 n0 c0,.slice p1 n1 c1,.slice p2 n2 c2,.slice p3 n3 c3,.slice p4 n4 c4,.slice p5 n5 c5,.slice p6 n6 c6]] (.string ⟨#[]⟩):=by
 intro y0
 have hm:=hm.up y0
 obtain ⟨V,hV⟩:∃ V,plus w y0 = V:=⟨_,rfl⟩
 simp only [hV] at hm ⊢
 clear hV
 have hm':=Lib.hid hm
 clear hm
 go_enter Tryz.func12,Tryz.ntmps12
 go_upto_region 1 with (fail)
 obtain ⟨W,yy,hW,⟨z,hz⟩,ca⟩:=box1n V _ 38
 rw [hW]
 have b0:=ca 0 _ rfl
 have b1:=ca 1 _ rfl
 have b2:=ca 2 _ rfl
 have b3:=ca 3 _ rfl
 have b4:=ca 4 _ rfl
 have b5:=ca 5 _ rfl
 have b6:=ca 6 _ rfl
 have mc:=Lib.hid (kp_at hz hm'.out)
 have hz2:=Lib.hid hz
 clear hW hz ca hm'
 go_wp2_with (first | (go_at_call 28;with_reducible refine (mc.out _).mono ?_;rintro r w' ⟨rfl,x,rfl⟩))
 go_ret
 exact ⟨rfl,by rw [hz2.out,plus_plus];exact ⟨_,rfl⟩⟩
theorem rcases_t (x:Sa) (w:World) (hb:saB x = true) (h:x.In w) (hz:x.sz ≤ 1048576):Kp Tryz.prog w 30 #[.agg x.cells.toArray] (.string (bs (x.tr 2))):=by
 have hs:x.sz = 1 + x.name.size + x.takes.size strSize + x.to.size + x.keys.size Ex.wt + x.cases.size Ca.sz:=rfl
 unfold saB saT at hb
 simp only [Bool.and_eq_true,beq_iff_eq,Lib.toList_data] at hb
 obtain ⟨_,_,tx⟩:=hb
 unfold Sa.tr Sa.cells
 by_cases e:x.to.data.toList = []
 ·rw [if_pos e] at tx ⊢
  rw [Bool.and_eq_true] at tx
  exact rcases_sel ref_text _ _ _ _ _ x.keys x.cases w e h.keys h.cases (by omega) (by omega) (each_all tx.1) _ (each_all tx.2)
 ·rw [if_neg e]
  exact rcases_to _ _ _ _ _ _ _ _ _ _ _ w e (by omega)
theorem rtable_t (x:Ta) (w:World) (hb:taB x = true) (h:x.In w) (hz:x.sz ≤ 1048576):Kp Tryz.prog w 32 #[.agg x.cells.toArray] (.string (bs x.tx)):=by
 have hs:x.sz = 1 + x.name.size + x.keys.size Ke.sz + x.actions.size strSize + (x.dflt.name.size + x.dflt.args.size (fun _=>1)):=rfl
 unfold taB at hb
 simp only [Bool.and_eq_true] at hb
 exact rtable_of ref_text x.name x.dflt.name x.keys x.actions x.dflt.args w (by omega) (by omega) h.keys h.actions h.dflt.args (by omega) (by omega) (by omega) (each_all hb.2.1) (each_all hb.2.2.2.2)
theorem rprog_yes (p:Pr) (w:World) (hb:prB p = true) (h:p.In w) (hz:p.sz ≤ 1048576):Kp Tryz.prog w 12 #[.agg p.cells.toArray] (.string (bs p.tx)):=by
 have hm:=rmay_pr p w h hz
 rw [hb] at hm
 have hs:p.sz = p.headers.size Hr.sz + p.metas.size Fd.sz + p.states.size Sa.sz + p.actions.size Ac.sz + p.tables.size Ta.sz + p.control.size St.sz + p.emit.size strSize:=rfl
 unfold prB at hb
 simp only [Bool.and_eq_true] at hb
 obtain ⟨b1,b2,b3,b4,b5,b6,b7⟩:=hb
 have x1:=flat_len (f:=Hr.tx) (g:=Hr.sz) (C:=1000) p.headers.l (fun y hy=>hr_len (h.headers.kids y hy))
 have x2:=flat_len (f:=Fd.ln 1) (g:=Fd.sz) (C:=1000) p.metas.l (fun y hy=>fdln_len (by omega) (h.metas.kids y hy))
 have x3:=flat_len (f:=Sa.ln 1) (g:=Sa.sz) (C:=1000) p.states.l (fun y hy=>sa_len (by omega) (h.states.kids y hy))
 have x4:=flat_len (f:=Ac.tx) (g:=Ac.sz) (C:=1000) p.actions.l (fun y hy=>ac_len (each_all b4 y hy) (h.actions.kids y hy))
 have x5:=flat_len (f:=Ta.tx) (g:=Ta.sz) (C:=1000) p.tables.l (fun y hy=>ta_len (h.tables.kids y hy))
 have x6:=flat_len (f:=St.ln 1) (g:=St.sz) (C:=1000) p.control.l (fun y hy=>by
  obtain ⟨m,hm8,hm⟩:=mayB_pos b6 y hy
  exact st_len y 1 m (by omega) hm (h.control.kids y hy))
 have x7:=names_len (emitL 1) p.emit.l (fun s=>by
  have:=str_len s
  unfold emitL
  simp only [List.length_append,List.length_cons,List.length_nil,padB_length]
  omega)
 unfold Sl.size at hs
 refine rprog_of p.headers p.metas p.states p.actions p.tables p.control p.emit w hm h.headers.row h.states.row h.actions.row h.tables.row h.emit.row
  (len_le Hr.sz (fun y=>by unfold Hr.sz;omega) p.headers (by unfold Sl.size;omega)) (len_le Sa.sz (fun y=>by unfold Sa.sz;omega) p.states (by unfold Sl.size;omega)) (len_le Ac.sz (fun y=>by unfold Ac.sz;omega) p.actions (by unfold Sl.size;omega)) (len_le Ta.sz (fun y=>by unfold Ta.sz;omega) p.tables (by unfold Sl.size;omega)) (len_le strSize strSize_pos p.emit (by unfold Sl.size;omega))
  (fun x hx=>?_) (rfields_t 1 (by omega) p.metas w h.metas (by unfold Sl.size;omega)) (fun x hx=>?_) (fun x hx=>?_) (fun x hx=>?_) (rstl_in ref_text p.control 1 8 w (by omega) b6 h.control (by unfold Sl.size;omega)) (fun s hs'=>?_)
  (by omega) (by omega) (by omega) (by omega) (by omega) (by omega) (by omega)
 ·have k1:=le_sum_of Hr.sz p.headers.l x hx
  have k2:Hr.sz x = 1 + x.name.size + x.fields.size Fd.sz:=rfl
  have k3:=flat_len (f:=Fd.ln 1) (g:=Fd.sz) (C:=1000) x.fields.l (fun y hy=>fdln_len (by omega) ((h.headers.kids x hx).fields.kids y hy))
  have k4:x.fields.size Fd.sz = (x.fields.l.map Fd.sz).sum:=rfl
  exact ⟨rfields_t 1 (by omega) x.fields w (h.headers.kids x hx).fields (by omega),by omega,by omega⟩
 ·have k1:=le_sum_of Sa.sz p.states.l x hx
  have k2:x.sz = 1 + x.name.size + x.takes.size strSize + x.to.size + x.keys.size Ex.wt + x.cases.size Ca.sz:=rfl
  have hi:=h.states.kids x hx
  have k3:=names_len (takeL 2) x.takes.l (fun s=>by
   have:=str_len s
   unfold takeL
   simp only [List.length_append,List.length_cons,List.length_nil,padB_length]
   omega)
  have k4:x.takes.size strSize = (x.takes.l.map strSize).sum:=rfl
  have k5:=sa_len (d:=1) (by omega) hi
  have k6:(x.tr 2).length ≤ (Sa.ln 1 x).length:=by
   unfold Sa.ln
   simp only [List.length_append,Nat.reduceAdd]
   omega
  refine ⟨⟨rcases_t x w (each_all b3 x hx) hi (by omega),by omega,by omega⟩,hi.takes.row,len_le strSize strSize_pos x.takes (by omega),by omega,fun s hs'=>?_⟩
  have k7:=le_sum_of strSize x.takes.l s hs'
  have k8:strSize s = s.size + 1:=rfl
  omega
 ·have k1:=le_sum_of Ac.sz p.actions.l x hx
  have k2:Ac.sz x = 1 + x.name.size + x.params.size Fd.sz + x.body.size St.sz:=rfl
  have hi:=h.actions.kids x hx
  have hb4:=each_all b4 x hx
  unfold acB at hb4
  simp only [Bool.and_eq_true] at hb4
  have k3:=flat_len (f:=St.ln 1) (g:=St.sz) (C:=1000) x.body.l (fun y hy=>by
   obtain ⟨m,hm8,hm⟩:=mayB_pos hb4.2.2 y hy
   exact st_len y 1 m (by omega) hm (hi.body.kids y hy))
  have k4:x.body.size St.sz = (x.body.l.map St.sz).sum:=rfl
  have k5:=rowB_len (f:=Fd.tx) (g:=Fd.sz) (C:=1000) x.params.l (fun y hy=>by
   have:=fd_len (hi.params.kids y hy)
   omega)
  have k6:x.params.size Fd.sz = (x.params.l.map Fd.sz).sum:=rfl
  refine ⟨⟨rstl_in ref_text x.body 1 8 w (by omega) hb4.2.2 hi.body (by omega),by omega,by omega⟩,hi.params.row,len_le Fd.sz Fd.sz_pos x.params (by omega),by omega,fun s hs'=>?_⟩
  have k7:=le_sum_of Fd.sz x.params.l s hs'
  have k8:Fd.sz s = 1 + s.name.size:=rfl
  exact ⟨by omega,(hi.params.kids s hs').w⟩
 ·have k1:=le_sum_of Ta.sz p.tables.l x hx
  have hi:=h.tables.kids x hx
  have k2:=ta_len hi
  exact ⟨rtable_t x w (each_all b5 x hx) hi (by omega),by omega⟩
 ·have k7:=le_sum_of strSize p.emit.l s hs'
  have k8:strSize s = s.size + 1:=rfl
  omega
theorem rprog_t (p:Pr) (w:World) (h:p.In w) (hz:p.sz ≤ 1048576):Kp Tryz.prog w 12 #[.agg p.cells.toArray] (.string (progT p)):=by
 cases hb:prB p with
 | true =>
  have:=rprog_yes p w hb h hz
  unfold progT
  rw [if_pos hb]
  exact this
 | false =>
  have hm:=rmay_pr p w h hz
  rw [hb] at hm
  unfold progT
  rw [if_neg (by rw [hb];decide)]
  exact rprog_no _ _ _ _ _ _ _ _ _ _ _ _ _ _ _ _ _ _ _ _ _ w hm
/-- The expression that a number is. -/
def litE (l:Lt):Ex:=.mk 1 l ⟨#[]⟩ ⟨#[]⟩ 0 0 none 0 []
theorem litE_in (l:Lt) (w:World) (h:l.Ok):(litE l).In w :=
 .mk _ (by show (Lit.int .u8 1).wf = true;decide) h (by show (Lit.int .i64 0).wf = true;decide) (by show (Lit.int .i64 0).wf = true;decide) (Nat.zero_le _) (Nat.zero_le _) (Nat.zero_le _) (Nat.zero_le _) (fun i x h=>by simp [litE,Ex.args] at h) (fun x h=>by simp [litE,Ex.args] at h)
theorem litE_text (l:Lt):exprT (litE l) = litT l:=by
 have e1:Ex.may 16 (litE l) = ltB l:=by
  unfold Ex.may Ex.fits litE
  simp [Ex.op,Ex.lit,Ex.head,Ex.name,Ex.hi,Ex.lo,Ex.args,xIs,xLit,xHead,xName,xSlice,xArgs,xShift,litB,nmB,endB,eachB]
 have e2:(litE l).tx = l.tx:=rfl
 unfold exprT litT
 rw [e1,e2]
theorem litE_wt (l:Lt):(litE l).wt = 1:=rfl
set_option maxRecDepth 100000 in
set_option maxHeartbeats 4000000 in
theorem print_lit_of (a1 a2 a3:Int) (X:ByteArray) (w:World)
  (hX:Kp Tryz.prog w 9 #[.agg #[.int .u8 1,.int .i64 a1,.int .u64 a2,.int .u64 a3,.string ⟨#[]⟩,.string ⟨#[]⟩,.int .i64 0,.int .i64 0,.slice none 0 0]] (.string X)) :
  Kp Tryz.prog w 7 #[.agg #[.int .i64 a1,.int .u64 a2,.int .u64 a3]] (.string X):=by
 intro y0
 have hX:=hX.up y0
 obtain ⟨V,hV⟩:∃ V,plus w y0 = V:=⟨_,rfl⟩
 simp only [hV] at hX ⊢
 clear hV
 have hX':=Lib.hid hX
 clear hX
 go_enter Tryz.func7,Tryz.ntmps7
 go_upto_region 1 with (fail)
 obtain ⟨W,yy,hW,⟨z,hz⟩,ca⟩:=box1n V _ 26
 rw [hW]
 have c0:=ca 0 _ rfl
 have c1:=ca 1 _ rfl
 have c2:=ca 2 _ rfl
 have xc:=Lib.hid (kp_at hz hX'.out)
 have hz2:=Lib.hid hz
 clear hW hz ca hX'
 go_wp2_with (first | (go_at_call 9;with_reducible refine (xc.out _).mono ?_;rintro r w' ⟨rfl,x,rfl⟩))
 go_ret
 exact ⟨rfl,by rw [hz2.out,plus_plus];exact ⟨_,rfl⟩⟩
theorem print_lit (l:Lt) (w:World) (hT:Tab w) (h:l.Ok):Kp Tryz.prog w 7 #[.agg l.cells.toArray] (.string (litT l)):=by
 have:=print_expr (litE l) w hT (litE_in l w h) (by rw [litE_wt];decide)
 rw [litE_text] at this
 exact print_lit_of l.w l.h l.l _ w this
set_option maxRecDepth 100000 in
set_option maxHeartbeats 16000000 in
theorem texts_of_ (l0 l1 l2:Int) (e0 e1 e2 e3:Int) (e4 e5:ByteArray) (e6 e7:Int) (e8p:Option Addr) (e8n:Nat) (e8c:Nat) (p0p:Option Addr) (p0n:Nat) (p0c:Nat) (p1p:Option Addr) (p1n:Nat) (p1c:Nat) (p2p:Option Addr) (p2n:Nat) (p2c:Nat) (p3p:Option Addr) (p3n:Nat) (p3c:Nat) (p4p:Option Addr) (p4n:Nat) (p4c:Nat) (p5p:Option Addr) (p5n:Nat) (p5c:Nat) (p6p:Option Addr) (p6n:Nat) (p6c:Nat) (gp ge:Bool) (X Y Z:ByteArray) (w:World)
  (hg:Kp Tryz.prog w 4 #[.agg #[.slice p0p p0n p0c,.slice p1p p1n p1c,.slice p2p p2n p2c,.slice p3p p3n p3c,.slice p4p p4n p4c,.slice p5p p5n p5c,.slice p6p p6n p6c]] (.bool gp))
  (he:Kp Tryz.prog w 5 #[.agg #[.int .u8 e0,.int .i64 e1,.int .u64 e2,.int .u64 e3,.string e4,.string e5,.int .i64 e6,.int .i64 e7,.slice e8p e8n e8c]] (.bool ge))
  (h1:Kp Tryz.prog w 7 #[.agg #[.int .i64 l0,.int .u64 l1,.int .u64 l2]] (.string X))
  (k1:Kp Tryz.prog w 8 #[.agg #[.int .i64 l0,.int .u64 l1,.int .u64 l2]] (.string X))
  (h2:Kp Tryz.prog w 9 #[.agg #[.int .u8 e0,.int .i64 e1,.int .u64 e2,.int .u64 e3,.string e4,.string e5,.int .i64 e6,.int .i64 e7,.slice e8p e8n e8c]] (.string Y))
  (k2:Kp Tryz.prog w 10 #[.agg #[.int .u8 e0,.int .i64 e1,.int .u64 e2,.int .u64 e3,.string e4,.string e5,.int .i64 e6,.int .i64 e7,.slice e8p e8n e8c]] (.string Y))
  (h3:Kp Tryz.prog w 11 #[.agg #[.slice p0p p0n p0c,.slice p1p p1n p1c,.slice p2p p2n p2c,.slice p3p p3n p3c,.slice p4p p4n p4c,.slice p5p p5n p5c,.slice p6p p6n p6c]] (.string Z))
  (k3:Kp Tryz.prog w 12 #[.agg #[.slice p0p p0n p0c,.slice p1p p1n p1c,.slice p2p p2n p2c,.slice p3p p3n p3c,.slice p4p p4n p4c,.slice p5p p5n p5c,.slice p6p p6n p6c]] (.string Z))
  (kn:Kp Tryz.prog w 6 #[] (.bool true)) :
  Kp Tryz.prog w 3 #[.agg #[.int .i64 l0,.int .u64 l1,.int .u64 l2],.agg #[.int .u8 e0,.int .i64 e1,.int .u64 e2,.int .u64 e3,.string e4,.string e5,.int .i64 e6,.int .i64 e7,.slice e8p e8n e8c],.agg #[.slice p0p p0n p0c,.slice p1p p1n p1c,.slice p2p p2n p2c,.slice p3p p3n p3c,.slice p4p p4n p4c,.slice p5p p5n p5c,.slice p6p p6n p6c]] (.bool true):=by
 intro y0
 have hg:=hg.up y0
 have he:=he.up y0
 have h1:=h1.up y0
 have k1:=k1.up y0
 have h2:=h2.up y0
 have k2:=k2.up y0
 have h3:=h3.up y0
 have k3:=k3.up y0
 have kn:=kn.up y0
 obtain ⟨V,hV⟩:∃ V,plus w y0 = V:=⟨_,rfl⟩
 rw [hV] at hg he h1 k1 h2 k2 h3 k3 kn ⊢
 clear hV
 have hg':=Lib.hid hg
 have he':=Lib.hid he
 have h1':=Lib.hid h1
 have k1':=Lib.hid k1
 have h2':=Lib.hid h2
 have k2':=Lib.hid k2
 have h3':=Lib.hid h3
 have k3':=Lib.hid k3
 have kn':=Lib.hid kn
 clear hg he h1 k1 h2 k2 h3 k3 kn
 go_enter Tryz.func3,Tryz.ntmps3
 go_upto_region 1 with (fail)
 obtain ⟨W,yy,hW,⟨z,hz⟩,cl,ce,cp⟩:=box3n V _ _ _ 26 29 38
 rw [hW]
 have dl0:=cl 0 _ rfl
 have dl1:=cl 1 _ rfl
 have dl2:=cl 2 _ rfl
 have de0:=ce 0 _ rfl
 have de1:=ce 1 _ rfl
 have de2:=ce 2 _ rfl
 have de3:=ce 3 _ rfl
 have de4:=ce 4 _ rfl
 have de5:=ce 5 _ rfl
 have de6:=ce 6 _ rfl
 have de7:=ce 7 _ rfl
 have de8:=ce 8 _ rfl
 have dp0:=cp 0 _ rfl
 have dp1:=cp 1 _ rfl
 have dp2:=cp 2 _ rfl
 have dp3:=cp 3 _ rfl
 have dp4:=cp 4 _ rfl
 have dp5:=cp 5 _ rfl
 have dp6:=cp 6 _ rfl
 have hgc:=Lib.hid (kp_at hz hg'.out)
 have hec:=Lib.hid (kp_at hz he'.out)
 have h1c:=Lib.hid (kp_at hz h1'.out)
 have k1c:=Lib.hid (kp_at hz k1'.out)
 have h2c:=Lib.hid (kp_at hz h2'.out)
 have k2c:=Lib.hid (kp_at hz k2'.out)
 have h3c:=Lib.hid (kp_at hz h3'.out)
 have k3c:=Lib.hid (kp_at hz k3'.out)
 have knc:=Lib.hid (kp_at hz kn'.out)
 have hz':=Lib.hid hz
 have eX:(X.toList == X.toList) = true:=by simp
 have eY:(Y.toList == Y.toList) = true:=by simp
 have eZ:(Z.toList == Z.toList) = true:=by simp
 clear hW hz cl ce cp hg' he' h1' k1' h2' k2' h3' k3' kn'
 cases gp with
 | true =>
  go_wp2_with (first | (go_at_call 4;with_reducible refine (hgc.out _).mono ?_;rintro r w' ⟨rfl,x,rfl⟩) | (go_at_call 6;with_reducible refine (knc.out _).mono ?_;rintro r w' ⟨rfl,x,rfl⟩))
  go_ret
  exact ⟨rfl,pp hz'.out⟩
 | false =>
  cases ge with
  | true =>
   go_wp2_with (first | (go_at_call 4;with_reducible refine (hgc.out _).mono ?_;rintro r w' ⟨rfl,x,rfl⟩) | (go_at_call 5;with_reducible refine (hec.out _).mono ?_;rintro r w' ⟨rfl,x,rfl⟩) | (go_at_call 6;with_reducible refine (knc.out _).mono ?_;rintro r w' ⟨rfl,x,rfl⟩))
   go_ret
   exact ⟨rfl,pp hz'.out⟩
  | false =>
   go_upto_region 3 with (first | (go_at_call 4;with_reducible refine (hgc.out _).mono ?_;rintro r w' ⟨rfl,x,rfl⟩) | (go_at_call 5;with_reducible refine (hec.out _).mono ?_;rintro r w' ⟨rfl,x,rfl⟩))
   refine wp_region_own (by kernel_rfl) (by kernel_rfl) ?_
   repeat (go_big_quiet_step (first | (with_reducible exact h1c.out _) | (with_reducible exact k1c.out _) | (with_reducible exact h2c.out _) | (with_reducible exact k2c.out _) | (with_reducible exact h3c.out _) | (with_reducible exact k3c.out _) | (with_reducible exact knc.out _)))
   refine wpQuiet_nil ?_
   rintro _ ⟨y1,rfl⟩
   go_wp2
   go_ret
   exact ⟨rfl,pp hz'.out⟩
theorem texts_in (l:Lt) (e:Ex) (p:Pr) (w:World) (hTab:Tab w) (hl:l.Ok) (he:e.In w) (hp:p.In w) (ze:e.wt ≤ 1048576) (zp:p.sz ≤ 1048576) :
  Kp Tryz.prog w 3 #[.agg l.cells.toArray,.agg e.cells.toArray,.agg p.cells.toArray] (.bool true) :=
 texts_of_ l.w l.h l.l e.op e.lit.w e.lit.h e.lit.l e.head e.name e.hi e.lo e.p e.args.length e.cap p.headers.p p.headers.l.length p.headers.cap p.metas.p p.metas.l.length p.metas.cap p.states.p p.states.l.length p.states.cap p.actions.p p.actions.l.length p.actions.cap p.tables.p p.tables.l.length p.tables.cap p.control.p p.control.l.length p.control.cap p.emit.p p.emit.l.length p.emit.cap
  _ _ (litT l) (exprT e) (progT p) w
  (Kp.ofPure fun y=>ref_great p (plus w y) (hp.plus y) zp) (Kp.ofPure fun y=>great_expr e (plus w y) (he.plus y) ze)
  (print_lit l w hTab hl) (rlit_any l w hl) (print_expr e w hTab he ze) (rexpr_t e w he ze) (print_prog p w hTab hp zp) (rprog_t p w hp zp)
  (fun y=>law_known (plus w y) (tab_plus hTab y))
end Go.Proofs.YtbelaghcmgefaaaGreatDoor
