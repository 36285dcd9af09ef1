/-
  WHAT IS PROVED HERE: a part of the proof (made narrower and merged by program; the parts: Ei).
-/
import Derived.Test.YtobhijbncchpiaaGreatM48
namespace Go.Proofs.YtobhijbncchpiaaGreat
open Go.RowKit Go.Shelf
set_option maxRecDepth 100000 in
set_option maxHeartbeats 32000000 in
theorem whole_fine (p:Pr) (V:World) (hin:p.In V) (hz:p.sz≤1048576) (hg:¬ 6000 < p.sz) (N:Int) (hN:tckN p=N) (hE:tckE p=0) (hwd:Wide p) (hall:∀ z ∈ encP p,NoWr p z∧tyI p z=0):Calls Tryz.prog 4 #[.agg #[.slice p.headers.p p.headers.l.length p.headers.cap,.slice p.metas.p p.metas.l.length p.metas.cap,.slice p.states.p p.states.l.length p.states.cap,.slice p.actions.p p.actions.l.length p.actions.cap,.slice p.tables.p p.tables.l.length p.tables.cap,.slice p.control.p p.control.l.length p.control.cap,.slice p.emit.p p.emit.l.length p.emit.cap]] V fun e w'=>e=.returned (.bool true)∧∃ x,w'=plus V x:=by
 have k1:=ats_great p V hin hz
 rw [← pr_cells,decide_eq_false hg] at k1
 have k2:=t_Check p V hin hz
 rw [hN,hE] at k2
 go_enter Tryz.func4,Tryz.ntmps4
 go_upto_region 1 with (fail)
 obtain⟨X,Y0,eX,⟨zX,hzX⟩,cp⟩:=box1n V _ 30
 rw [eX]
 have g0:=cp 0 (some (.slice p.headers.p p.headers.l.length p.headers.cap)) rfl
 have g1:=cp 1 (some (.slice p.metas.p p.metas.l.length p.metas.cap)) rfl
 have g2:=cp 2 (some (.slice p.states.p p.states.l.length p.states.cap)) rfl
 have g3:=cp 3 (some (.slice p.actions.p p.actions.l.length p.actions.cap)) rfl
 have g4:=cp 4 (some (.slice p.tables.p p.tables.l.length p.tables.cap)) rfl
 have g5:=cp 5 (some (.slice p.control.p p.control.l.length p.control.cap)) rfl
 have g6:=cp 6 (some (.slice p.emit.p p.emit.l.length p.emit.cap)) rfl
 have kG:=Lib.hid (at_of_ats k1 hzX)
 have kC:=Lib.hid (kp_at hzX k2)
 have kI:=Lib.hid (items_at8 hin hz hzX)
 have hz':=Lib.hid hzX
 have hin':=Lib.hid hin
 have hb':=Lib.hid hz
 have hall':=Lib.hid hall
 have hwd':=Lib.hid hwd
 clear eX cp hzX k1 k2 hin hz hg hN hE hall hwd
 go_upto_region 7 with (first|(go_at_call 5;with_reducible refine (kG.out _).mono ?_;rintro r w' ⟨rfl,x,rfl⟩)|(go_at_call 7;with_reducible refine (kC.out _).mono ?_;rintro r w' ⟨rfl,x,rfl⟩)|(go_at_call 9;with_reducible refine (kI.out _).mono ?_;rintro r X2 ⟨q,c,z2,rfl,hX3,hr⟩;have hX2:=Lib.hid hX3;clear hX3))
 obtain⟨n,hn⟩:∃ n,(encP p).length=n:=⟨_,rfl⟩
 rw [hn]
 have hn':=Lib.hid hn
 have hl':=Lib.hid (show n≤2097152 from by rw [← hn];exact encP_len p hb'.out)
 have hr':=Lib.hid hr
 clear hn hr kG kC kI
 replace g0:=lift8 hX2.out g0
 replace g1:=lift8 hX2.out g1
 replace g2:=lift8 hX2.out g2
 replace g3:=lift8 hX2.out g3
 replace g4:=lift8 hX2.out g4
 replace g5:=lift8 hX2.out g5
 replace g6:=lift8 hX2.out g6
 have hV2:=Lib.hid (show ∃ z,X2=plus V z by rw [hX2.out,hz'.out,plus_plus];exact⟨_,rfl⟩)
 clear hX2 hz'
 rw [← plus_self X2]
 go_loopw [6,23] (fun _ iv wr=>∃ k:Nat,k≤n∧iv=.int .i64 (k:Int)∧∃ z,wr=plus X2 z) (fun _ iv _=>n - (intOf iv).toNat)
 case atStart=>exact⟨0,Nat.zero_le _,rfl,_,rfl⟩
 case round =>
  obtain⟨k,hk,rfl,zr,rfl⟩:=hrel
  by_cases hlt:k < n
  ·obtain⟨it,hit⟩:∃ z,(encP p)[k]?=some z:=⟨(encP p)[k]'(by rw [hn'.out];exact hlt),List.getElem?_eq_getElem _⟩
   have hmem:=List.mem_of_getElem? hit
   obtain⟨pa,rfl,hc⟩:=hr'.out k it hit
   obtain⟨hnw,hty⟩:=hall'.out it hmem
   have hok:=enc_ok p V hin'.out hb'.out it hmem
   have a6:=Lib.hid (wr_succ2 k n hlt hl'.out)
   replace hnw:=Lib.hid hnw
   replace hty:=Lib.hid hty
   replace hok:=Lib.hid hok
   cases it with
   | st a s =>
    obtain⟨skind,shead,sname,⟨op,⟨lw,lh,ll⟩,hd,nm,eh,el,ep,ec,args⟩,sp,sc,sthn,sq,sqc,sels⟩:=s
    obtain⟨ab,ao,hA,hrg0⟩:=cells_none (v:=.int .u8 10) (hc.plus zr) rfl
    have hA1:=Lib.hid hA
    have hrg:Hid ((plus X2 zr).rangeAt ab ao [.int .u8 10,.int .i64 a,.int .i64 0,.int .u8 skind,.string shead,.string sname,.int .u8 op,.int .i64 lw,.int .u64 lh,.int .u64 ll,.string hd,.string nm,.int .i64 eh,.int .i64 el,.slice ep args.length ec,.slice sp sthn.length sc,.slice sq sels.length sqc]):=hrg0
    clear hc hmem hit hA hrg0
    go_upto_region 9 with (refine wpList_load_mid rfl 49 (.tmp 25) rfl ab ao (congrArg (fun a=>Value.pointer (some a)) hA1.out) [.int .u8 10,.int .i64 a,.int .i64 0,.int .u8 skind,.string shead,.string sname,.int .u8 op,.int .i64 lw,.int .u64 lh,.int .u64 ll,.string hd,.string nm,.int .i64 eh,.int .i64 el,.slice ep args.length ec,.slice sp sthn.length sc,.slice sq sels.length sqc] _ hrg.out Tryz.underlying49 rfl (by kernel_rfl) ?_)
    clear hrg hA1
    obtain⟨U,Y1,eU,⟨zU,hzU⟩,ci⟩:=box1n (plus X2 zr) #[.int .u8 10,.int .i64 a,.int .i64 0,.int .u8 skind,.string shead,.string sname,.int .u8 op,.int .i64 lw,.int .u64 lh,.int .u64 ll,.string hd,.string nm,.int .i64 eh,.int .i64 el,.slice ep args.length ec,.slice sp sthn.length sc,.slice sq sels.length sqc] 49
    rw [eU]
    have hU2:U=plus X2 _:=hzU.trans (plus_plus _ _ _)
    have i0:=ci 0 (some (.int .u8 10)) rfl
    have i1:=ci 1 (some (.int .i64 a)) rfl
    have i2:=ci 2 (some (.int .i64 0)) rfl
    have i3:=ci 3 (some (.int .u8 skind)) rfl
    have i4:=ci 4 (some (.string shead)) rfl
    have i5:=ci 5 (some (.string sname)) rfl
    have i6:=ci 6 (some (.int .u8 op)) rfl
    have i7:=ci 7 (some (.int .i64 lw)) rfl
    have i8:=ci 8 (some (.int .u64 lh)) rfl
    have i9:=ci 9 (some (.int .u64 ll)) rfl
    have i10:=ci 10 (some (.string hd)) rfl
    have i11:=ci 11 (some (.string nm)) rfl
    have i12:=ci 12 (some (.int .i64 eh)) rfl
    have i13:=ci 13 (some (.int .i64 el)) rfl
    have i14:=ci 14 (some (.slice ep args.length ec)) rfl
    replace g0:=lift8 hU2 g0
    replace g1:=lift8 hU2 g1
    replace g2:=lift8 hU2 g2
    replace g3:=lift8 hU2 g3
    replace g4:=lift8 hU2 g4
    replace g5:=lift8 hU2 g5
    replace g6:=lift8 hU2 g6
    have hU':=Lib.hid hU2
    have hVU:=Lib.hid (show ∃ z,U=plus V z by obtain⟨z,h⟩:=hV2.out;rw [hU2,h,plus_plus];exact⟨_,rfl⟩)
    clear eU hzU hU2 ci
    generalize (plus X2 zr).heap.size=bb at *
    by_cases h0:op=0
    ·subst h0
     clear hnw hty hok
     go_wp2
     go_roundw
     case rel=>exact⟨k+1,hlt,congrArg (Value.int .i64) a6.out,by rw [hU'.out,plus_plus];exact⟨_,rfl⟩⟩
     case measure=>exact step_less k n hlt a6.out
    ·have h1:=whole_st hnw.out hty.out h0
     have h2:OkIt p V _:=hok.out
     obtain⟨hsin,hsz⟩:St.In V _∧St.sz _≤1048576:=by cases h2 with | stmt _ _ hs hz=>exact⟨hs,hz⟩
     have hse:=St.sz_eq (.mk skind shead sname (.mk op ⟨lw,lh,ll⟩ hd nm eh el ep ec args) sp sc sthn sq sqc sels)
     have kT0:=lw_typed p hb'.out hwd'.out a (.mk op ⟨lw,lh,ll⟩ hd nm eh el ep ec args) 16 V (Nat.le_refl _) h1.1 hin'.out (St.In.inE hsin) (by simp only [St.e] at hse;omega) h1.2
     simp only [Ex.val,Ex.cells,Ex.op,Ex.lit,Ex.head,Ex.name,Ex.hi,Ex.lo,Ex.p,Ex.cap,Ex.args] at kT0
     obtain⟨zV,hzV⟩:=hVU.out
     have kT:=Lib.hid (kp_at hzV kT0)
     have h0b:(op != 0)=true:=by simpa using h0
     clear h1 h2 hsin hsz hse kT0 hzV hnw hty hok h0
     go_wp2_with (first|(go_at_call 10;with_reducible refine (kT.out _).mono ?_;rintro r w' ⟨rfl,x,rfl⟩))
     go_roundw
     case rel=>exact⟨k+1,hlt,congrArg (Value.int .i64) a6.out,by rw [hU'.out,plus_plus];exact⟨_,rfl⟩⟩
     case measure=>exact step_less k n hlt a6.out
   | num kd a b =>
    obtain⟨ab,ao,hA,hrg0⟩:=cells_none (v:=.int .u8 kd) (hc.plus zr) rfl
    have hA1:=Lib.hid hA
    have hrg:Hid ((plus X2 zr).rangeAt ab ao [.int .u8 kd,.int .i64 (a:Int),.int .i64 (b:Int),.int .u8 0,.string ⟨#[]⟩,.string ⟨#[]⟩,.int .u8 0,.int .i64 0,.int .u64 0,.int .u64 0,.string ⟨#[]⟩,.string ⟨#[]⟩,.int .i64 0,.int .i64 0,.slice none 0 0,.slice none 0 0,.slice none 0 0]):=hrg0
    clear hc hmem hit hA hrg0
    go_upto_region 9 with (refine wpList_load_mid rfl 49 (.tmp 25) rfl ab ao (congrArg (fun a=>Value.pointer (some a)) hA1.out) [.int .u8 kd,.int .i64 (a:Int),.int .i64 (b:Int),.int .u8 0,.string ⟨#[]⟩,.string ⟨#[]⟩,.int .u8 0,.int .i64 0,.int .u64 0,.int .u64 0,.string ⟨#[]⟩,.string ⟨#[]⟩,.int .i64 0,.int .i64 0,.slice none 0 0,.slice none 0 0,.slice none 0 0] _ hrg.out Tryz.underlying49 rfl (by kernel_rfl) ?_)
    clear hrg hA1
    obtain⟨U,Y1,eU,⟨zU,hzU⟩,ci⟩:=box1n (plus X2 zr) #[.int .u8 kd,.int .i64 (a:Int),.int .i64 (b:Int),.int .u8 0,.string ⟨#[]⟩,.string ⟨#[]⟩,.int .u8 0,.int .i64 0,.int .u64 0,.int .u64 0,.string ⟨#[]⟩,.string ⟨#[]⟩,.int .i64 0,.int .i64 0,.slice none 0 0,.slice none 0 0,.slice none 0 0] 49
    rw [eU]
    have hU2:U=plus X2 _:=hzU.trans (plus_plus _ _ _)
    have i0:=ci 0 (some (.int .u8 kd)) rfl
    have i1:=ci 1 (some (.int .i64 (a:Int))) rfl
    have i2:=ci 2 (some (.int .i64 (b:Int))) rfl
    have i3:=ci 3 (some (.int .u8 0)) rfl
    have i4:=ci 4 (some (.string ⟨#[]⟩)) rfl
    have i5:=ci 5 (some (.string ⟨#[]⟩)) rfl
    have i6:=ci 6 (some (.int .u8 0)) rfl
    have i7:=ci 7 (some (.int .i64 0)) rfl
    have i8:=ci 8 (some (.int .u64 0)) rfl
    have i9:=ci 9 (some (.int .u64 0)) rfl
    have i10:=ci 10 (some (.string ⟨#[]⟩)) rfl
    have i11:=ci 11 (some (.string ⟨#[]⟩)) rfl
    have i12:=ci 12 (some (.int .i64 0)) rfl
    have i13:=ci 13 (some (.int .i64 0)) rfl
    have i14:=ci 14 (some (.slice none 0 0)) rfl
    replace g0:=lift8 hU2 g0
    replace g1:=lift8 hU2 g1
    replace g2:=lift8 hU2 g2
    replace g3:=lift8 hU2 g3
    replace g4:=lift8 hU2 g4
    replace g5:=lift8 hU2 g5
    replace g6:=lift8 hU2 g6
    have hU':=Lib.hid hU2
    have hVU:=Lib.hid (show ∃ z,U=plus V z by obtain⟨z,h⟩:=hV2.out;rw [hU2,h,plus_plus];exact⟨_,rfl⟩)
    clear eU hzU hU2 ci
    generalize (plus X2 zr).heap.size=bb at *
    have hnw2:=hnw.out
    cases hnw2 with
    | case_ _ _ s c hs hc hl =>
     clear hnw hty hok
     go_wp2
     go_roundw
     case rel=>exact⟨k+1,hlt,congrArg (Value.int .i64) a6.out,by rw [hU'.out,plus_plus];exact⟨_,rfl⟩⟩
     case measure=>exact step_less k n hlt a6.out
    | dflt _ k2 t2 x2 ht2 hn2 hx2 hl2 =>
     clear hnw hty hok
     go_wp2
     go_roundw
     case rel=>exact⟨k+1,hlt,congrArg (Value.int .i64) a6.out,by rw [hU'.out,plus_plus];exact⟨_,rfl⟩⟩
     case measure=>exact step_less k n hlt a6.out
    | other _ _ _ h =>
     have n10:(kd == 10)=false:=by simpa using h.2.2.1
     have n12:(kd == 12)=false:=by simpa using h.2.2.2.1
     have n6:(kd == 6)=false:=by simpa using h.1
     clear h
     clear hnw hty hok
     go_wp2
     go_roundw
     case rel=>exact⟨k+1,hlt,congrArg (Value.int .i64) a6.out,by rw [hU'.out,plus_plus];exact⟨_,rfl⟩⟩
     case measure=>exact step_less k n hlt a6.out
    | key _ _ t k2 ht hk hm =>
     have hmt:=List.mem_of_getElem? ht
     have hmk:=List.mem_of_getElem? hk
     obtain⟨pt,hpt,hct⟩:=hin'.out.tables.row a t ht
     obtain⟨pk,hpk,hck⟩:=(hin'.out.tables.kids t hmt).keys.row b k2 hk
     have hl:=(List.getElem?_eq_some_iff.1 ht).1
     have hl2:=(List.getElem?_eq_some_iff.1 hk).1
     have hc1:CellsAt V (pt.add (a*5)) [.string t.name,.slice t.keys.p t.keys.l.length t.keys.cap,.slice t.actions.p t.actions.l.length t.actions.cap,.string t.dflt.name,.slice t.dflt.args.p t.dflt.args.l.length t.dflt.args.cap]:=hct
     rw [hpk] at hc1
     have kT0:=lw_typed p hb'.out hwd'.out (-1) k2.e 16 V (Nat.le_refl _) hm hin'.out ((hin'.out.tables.kids t hmt).keys.kids k2 hmk).e (by have h3:=le_sum_of Ta.sz p.tables.l t hmt;have h4:=le_sum_of Ke.sz t.keys.l k2 hmk;have h5:=hb'.out;unfold Pr.sz Ta.sz Sl.size Ke.sz at *;omega) (whole_key ht hk hty.out)
     simp only [Ex.val,Ex.cells] at kT0
     rw [hpt] at kT0 g4
     obtain⟨zV,hzV⟩:=hVU.out
     have kT:=Lib.hid (kp_at hzV kT0)
     have hcW:=cells_up hzV hc1
     have hkW:CellsAt U (pk.add (b*10)) [.int .u8 k2.e.op,.int .i64 k2.e.lit.w,.int .u64 k2.e.lit.h,.int .u64 k2.e.lit.l,.string k2.e.head,.string k2.e.name,.int .i64 k2.e.hi,.int .i64 k2.e.lo,.slice k2.e.p k2.e.args.length k2.e.cap,.int .u8 k2.kind]:=cells_up hzV hck
     have s0:=fun y=>(hcW.plus y).c0 _ rfl
     have s1:=fun y=>(hcW.plus y).cs 0 _ rfl
     have s2:=fun y=>(hcW.plus y).cs 1 _ rfl
     have f0:=fun y=>(hkW.plus y).c0 _ rfl
     have f1:=fun y=>(hkW.plus y).cs 0 _ rfl
     have f2:=fun y=>(hkW.plus y).cs 1 _ rfl
     have f3:=fun y=>(hkW.plus y).cs 2 _ rfl
     have f4:=fun y=>(hkW.plus y).cs 3 _ rfl
     have f5:=fun y=>(hkW.plus y).cs 4 _ rfl
     have f6:=fun y=>(hkW.plus y).cs 5 _ rfl
     have f7:=fun y=>(hkW.plus y).cs 6 _ rfl
     have f8:=fun y=>(hkW.plus y).cs 7 _ rfl
     clear hnw hty hok hmt hmk hpt hct hpk hck hc1 kT0 hzV hcW hkW hm ht hk
     obtain⟨nt,hnt⟩:∃ n,p.tables.l.length=n:=⟨_,rfl⟩
     rw [hnt] at hl g4 kT
     obtain⟨nk,hnk⟩:∃ n,t.keys.l.length=n:=⟨_,rfl⟩
     rw [hnk] at hl2 s1
     clear hnt hnk
     go_upto_region 14 with (fail)
     refine wp_region_own (by kernel_rfl) (by kernel_rfl) ?_
     repeat (go_big_quiet_step (first|(with_reducible exact kT.out _)))
     refine wpQuiet_nil ?_
     rintro _ ⟨y2,rfl⟩
     go_wp2
     go_roundw
     case rel=>exact⟨k+1,hlt,congrArg (Value.int .i64) a6.out,by rw [hU'.out,plus_plus];exact⟨_,rfl⟩⟩
     case measure=>exact step_less k n hlt a6.out
    | next _ s hs hk =>
     rw [show ((0:Nat):Int)=0 from rfl]
     have hty2:=whole_next hs hty.out
     have hms:=List.mem_of_getElem? hs
     obtain⟨ps,hps,hct⟩:=hin'.out.states.row a s hs
     have hl:=(List.getElem?_eq_some_iff.1 hs).1
     have hkin:=(hin'.out.states.kids s hms).keys
     have hksz:s.keys.size Ex.wt≤1048576:=by have h3:=le_sum_of Sa.sz p.states.l s hms;have h5:=hb'.out;unfold Pr.sz Sa.sz Sl.size at *;omega
     have hkT:∀ e ∈ s.keys.l,Kp Tryz.prog V 10 #[.agg #[.slice p.headers.p p.headers.l.length p.headers.cap,.slice p.metas.p p.metas.l.length p.metas.cap,.slice p.states.p p.states.l.length p.states.cap,.slice p.actions.p p.actions.l.length p.actions.cap,.slice p.tables.p p.tables.l.length p.tables.cap,.slice p.control.p p.control.l.length p.control.cap,.slice p.emit.p p.emit.l.length p.emit.cap],.int .i64 (-1),.agg #[.int .u8 e.op,.int .i64 e.lit.w,.int .u64 e.lit.h,.int .u64 e.lit.l,.string e.head,.string e.name,.int .i64 e.hi,.int .i64 e.lo,.slice e.p e.args.length e.cap]] (.bool true):=fun e he=>by
      have kT0:=lw_typed p hb'.out hwd'.out (-1) e 16 V (Nat.le_refl _) (hk e he) hin'.out (hkin.kids e he) (by have h4:=le_sum_of Ex.wt s.keys.l e he;unfold Sl.size at hksz;omega) (hty2 e he)
      simpa only [Ex.val,Ex.cells] using kT0
     obtain⟨sname,stakes,sto,⟨kp,kc,kl⟩,scases⟩:=s
     have hc1:CellsAt V (ps.add (a*5)) [.string sname,.slice stakes.p stakes.l.length stakes.cap,.string sto,.slice kp kl.length kc,.slice scases.p scases.l.length scases.cap]:=hct
     have hkr:RowAt V 9 Ex.cells kp kl:=hkin.row
     have hkl:kl.length≤1048576:=len_le Ex.wt Ex.wt_pos ⟨kp,kc,kl⟩ hksz
     rw [hps] at g2 hkT
     obtain⟨zV,hzV⟩:=hVU.out
     have hcW:=cells_up hzV hc1
     have s0:=fun y=>(hcW.plus y).c0 _ rfl
     have s1:=fun y=>(hcW.plus y).cs 0 _ rfl
     have s2:=fun y=>(hcW.plus y).cs 1 _ rfl
     have s3:=fun y=>(hcW.plus y).cs 2 _ rfl
     have hkT':=Lib.hid (fun e (he:e ∈ kl)=>kp_at hzV (hkT e he))
     have hkr':=Lib.hid (show ∀ y,RowAt (plus U y) 9 Ex.cells kp kl from fun y=>by rw [hzV,plus_plus];exact hkr.plus _)
     clear hnw hty hok hty2 hms hps hct hkin hksz hkT hc1 hkr hzV hcW hk hs
     obtain⟨nt,hnt⟩:∃ n,p.states.l.length=n:=⟨_,rfl⟩
     rw [hnt] at hl g2 hkT'
     obtain⟨m,hm⟩:∃ n,kl.length=n:=⟨_,rfl⟩
     rw [hm] at s3 hkl
     have hm':=Lib.hid hm
     have hkl':=Lib.hid hkl
     clear hnt hm hkl
     go_upto_region 18 with (fail)
     go_loopw [8,73] (fun _ iv wr=>∃ j:Nat,j≤m∧iv=.int .i64 (j:Int)∧∃ z,wr=plus U z) (fun _ iv _=>m - (intOf iv).toNat)
     case atStart=>exact⟨0,Nat.zero_le _,rfl,_,rfl⟩
     case round =>
      obtain⟨j,hj,rfl,zj,rfl⟩:=hrel
      by_cases hlt2:j < m
      ·obtain⟨e,hje⟩:∃ e,kl[j]?=some e:=⟨kl[j]'(by rw [hm'.out];exact hlt2),List.getElem?_eq_getElem _⟩
       obtain⟨pk,rfl,hc2⟩:=hkr'.out zj j e hje
       have kT:=Lib.hid (hkT'.out e (List.mem_of_getElem? hje))
       have hc3:∀ y,CellsAt (plus (plus U zj) y) (pk.add (j*9)) [.int .u8 e.op,.int .i64 e.lit.w,.int .u64 e.lit.h,.int .u64 e.lit.l,.string e.head,.string e.name,.int .i64 e.hi,.int .i64 e.lo,.slice e.p e.args.length e.cap]:=fun y=>hc2.plus y
       have hc4:=hc3 ⟨#[],(plus U zj).drawn⟩
       rw [plus_self] at hc4
       have f0:=hc4.c0 _ rfl
       have f1:=hc4.cs 0 _ rfl
       have f2:=hc4.cs 1 _ rfl
       have f3:=hc4.cs 2 _ rfl
       have f4:=hc4.cs 3 _ rfl
       have f5:=hc4.cs 4 _ rfl
       have f6:=hc4.cs 5 _ rfl
       have f7:=hc4.cs 6 _ rfl
       have f8:=hc4.cs 7 _ rfl
       have b6:=Lib.hid (wr_succ j m hlt2 hkl'.out)
       clear hc2 hc3 hc4 hje hkr' hkT' hm' hkl'
       go_upto_region 20 with (fail)
       obtain⟨U2,Y2,eU2,⟨zU2,hzU2⟩,ce⟩:=box1n (plus U zj) _ 45
       rw [eU2]
       have hU3:U2=plus U _:=hzU2.trans (plus_plus _ _ _)
       have h0:=ce 0 _ rfl
       have h1:=ce 1 _ rfl
       have h2:=ce 2 _ rfl
       have h3:=ce 3 _ rfl
       have h4:=ce 4 _ rfl
       have h5:=ce 5 _ rfl
       have h6:=ce 6 _ rfl
       have h7:=ce 7 _ rfl
       have h8:=ce 8 _ rfl
       replace g0:=lift8 hU3 g0
       replace g1:=lift8 hU3 g1
       replace g2:=lift8 hU3 g2
       replace g3:=lift8 hU3 g3
       replace g4:=lift8 hU3 g4
       replace g5:=lift8 hU3 g5
       replace g6:=lift8 hU3 g6
       have kT2:=Lib.hid (kp_calls8 hU3 kT.out)
       have hU3':=Lib.hid hU3
       clear kT eU2 hzU2 hU3 ce f0 f1 f2 f3 f4 f5 f6 f7 f8
       go_wp2_with (first|(go_at_call 10;with_reducible refine (kT2.out _).mono ?_;rintro r w' ⟨rfl,x,rfl⟩))
       go_roundw
       case rel=>exact⟨j+1,hlt2,congrArg (Value.int .i64) b6.out,_,rfl⟩
       case measure=>exact step_less j m hlt2 b6.out
      ·obtain rfl:j=m:=by omega
       go_wp2
       go_roundw
       case rel=>exact⟨k+1,hlt,congrArg (Value.int .i64) a6.out,by rw [hU'.out,plus_plus];exact⟨_,rfl⟩⟩
       case measure=>exact step_less k n hlt a6.out
  ·obtain rfl:k=n:=by omega
   have kK:=Lib.hid (known_at8 X2)
   go_wp2_with (first|(go_at_call 6;with_reducible refine (kK.out _).mono ?_;rintro r w' ⟨rfl,x,rfl⟩))
   go_ret
   exact⟨rfl,by obtain⟨z,h⟩:=hV2.out;rw [h,plus_plus];exact⟨_,rfl⟩⟩
end Go.Proofs.YtobhijbncchpiaaGreat
