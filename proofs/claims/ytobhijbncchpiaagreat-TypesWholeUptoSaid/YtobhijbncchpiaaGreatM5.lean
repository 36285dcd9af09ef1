/-
  WHAT IS PROVED HERE: a part of the proof (made narrower and merged by program; the parts: Sf GE).
-/
import Derived.Shelf.Abstract
import Derived.Test.YtobhijbncchpiaaGreatM3
import Derived.Test.YtobhijbncchpiaaGreatM4
namespace Go.Proofs.YtobhijbncchpiaaGreat
open Go.RowKit
theorem sz_pos_hr (s:Hr):1≤s.sz:=by unfold Hr.sz;omega
theorem sz_pos_sa (s:Sa):1≤s.sz:=by unfold Sa.sz;omega
theorem sz_pos_ac (s:Ac):1≤s.sz:=by unfold Ac.sz;omega
theorem sz_pos_ta (s:Ta):1≤s.sz:=by unfold Ta.sz;omega
theorem sz_pos_ca (s:Ca):1≤s.sz:=by unfold Ca.sz;omega
theorem sz_pos_ke (s:Ke):1≤s.sz:=by unfold Ke.sz;omega
theorem wr_two (a b c:Nat) (h:a+b+c≤1048576):wrap64 (wrap64 ((a:Int)+b)+c)=((a+b+c:Nat):Int):=by
 rw [wr_in ((a:Int)+b) (by omega),wr_in _ (by omega)]
 omega
theorem wr_hdr (t h f u:Nat) (hu:u=t+(1+h+f)) (hb:u≤1048576):wrap64 (wrap64 (wrap64 ((t:Int)+1)+h)+f)=(u:Int):=by
 rw [wr_in ((t:Int)+1) (by omega),wr_in ((t:Int)+1+h) (by omega),wr_in _ (by omega)]
 omega
theorem wr_four (t a b c u:Nat) (hu:u=t+1+a+b+c) (hb:u≤1048576):wrap64 (wrap64 (wrap64 (wrap64 ((t:Int)+1)+a)+b)+c)=(u:Int):=by
 rw [wr_in ((t:Int)+1) (by omega),wr_in ((t:Int)+1+a) (by omega),wr_in ((t:Int)+1+a+b) (by omega),wr_in _ (by omega)]
 omega
theorem wr_five (t a b c d u:Nat) (hu:u=t+1+a+b+c+d) (hb:u≤1048576):wrap64 (wrap64 (wrap64 (wrap64 (wrap64 ((t:Int)+1)+a)+b)+c)+d)=(u:Int):=by
 rw [wr_in ((t:Int)+1) (by omega),wr_in ((t:Int)+1+a) (by omega),wr_in ((t:Int)+1+a+b) (by omega),wr_in ((t:Int)+1+a+b+c) (by omega),wr_in _ (by omega)]
 omega
theorem wr_key (t a u:Nat) (hu:u=t+(1+a)) (hb:u≤1048576):wrap64 (wrap64 ((t:Int)+1)+a)=(u:Int):=by
 rw [wr_in ((t:Int)+1) (by omega),wr_in _ (by omega)]
 omega
theorem wr_one (t a u:Nat) (hu:u=t+a) (hb:u≤1048576):wrap64 ((t:Int)+a)=(u:Int):=by
 rw [wr_in _ (by omega)]
 omega
theorem sum_ones {α:Type} (f:α→Nat) (hf:∀ x,f x=1):∀ l:List α,(l.map f).sum=l.length
 | []=>rfl
 | a :: l=>by simp only [List.map_cons,List.sum_cons,List.length_cons,hf,sum_ones f hf l];omega
set_option maxRecDepth 100000 in
set_option maxHeartbeats 16000000 in
theorem ref_great (p:Pr) (w:World) (hin:p.In w) (hb:p.sz≤1048576):PureIn Tryz.prog w 5 #[.agg p.cells.toArray] (.bool (decide (6000 < p.sz))):=by
 intro y0
 obtain⟨Z,hZ⟩:∃ Z,p.sz=Z:=⟨_,rfl⟩
 rw [hZ] at hb ⊢
 obtain⟨⟨hp,hc,hl⟩,⟨mp,mc,ml⟩,⟨sp,sc,sl⟩,⟨ap,ac,al⟩,⟨tp,tc,tl⟩,⟨cp,cc,cl⟩,⟨ep,ec,el⟩⟩:=p
 obtain⟨ih,im,is,ia,it,ic,ie⟩:=hin
 simp only [Pr.sz,Sl.size] at ih im is ia it ic ie hZ
 obtain⟨H,hH⟩:∃ H,(hl.map Hr.sz).sum=H:=⟨_,rfl⟩
 obtain⟨M,hM⟩:∃ M,(ml.map Fd.sz).sum=M:=⟨_,rfl⟩
 obtain⟨S,hS⟩:∃ S,(sl.map Sa.sz).sum=S:=⟨_,rfl⟩
 obtain⟨A,hA⟩:∃ A,(al.map Ac.sz).sum=A:=⟨_,rfl⟩
 obtain⟨T,hT⟩:∃ T,(tl.map Ta.sz).sum=T:=⟨_,rfl⟩
 obtain⟨C,hC⟩:∃ C,(cl.map St.sz).sum=C:=⟨_,rfl⟩
 obtain⟨E,hE⟩:∃ E,(el.map strSize).sum=E:=⟨_,rfl⟩
 rw [hH,hM,hS,hA,hT,hC,hE] at hZ
 show Calls Tryz.prog 5 #[.agg #[.slice hp hl.length hc,.slice mp ml.length mc,.slice sp sl.length sc,.slice ap al.length ac,.slice tp tl.length tc,.slice cp cl.length cc,.slice ep el.length ec]] (plus w y0) _
 obtain⟨nh,hnh⟩:∃ n,hl.length=n:=⟨_,rfl⟩
 obtain⟨ns,hns⟩:∃ n,sl.length=n:=⟨_,rfl⟩
 obtain⟨na,hna⟩:∃ n,al.length=n:=⟨_,rfl⟩
 obtain⟨nt,hnt⟩:∃ n,tl.length=n:=⟨_,rfl⟩
 have bh:nh≤1048576:=by have:=length_le_sum Hr.sz sz_pos_hr hl;omega
 have bs:ns≤1048576:=by have:=length_le_sum Sa.sz sz_pos_sa sl;omega
 have ba:na≤1048576:=by have:=length_le_sum Ac.sz sz_pos_ac al;omega
 have bt:nt≤1048576:=by have:=length_le_sum Ta.sz sz_pos_ta tl;omega
 rw [hnh,hns,hna,hnt]
 have ih':=Lib.hid ih
 have is':=Lib.hid is
 have ia':=Lib.hid ia
 have it':=Lib.hid it
 have iz':=Lib.hid (And.intro im (And.intro ic ie))
 have hb':=Lib.hid hb
 have hZ':=Lib.hid hZ
 have hH':=Lib.hid hH
 have hS':=Lib.hid hS
 have hA':=Lib.hid hA
 have hT':=Lib.hid hT
 have hz':=Lib.hid (And.intro hM (And.intro hC hE))
 have hnh':=Lib.hid hnh
 have hns':=Lib.hid hns
 have hna':=Lib.hid hna
 have hnt':=Lib.hid hnt
 have bh':=Lib.hid bh
 have bs':=Lib.hid bs
 have ba':=Lib.hid ba
 have bt':=Lib.hid bt
 have n0:=Lib.hid (wr_two M C E (by omega))
 clear ih im is ia it ic ie hb hZ hH hM hS hA hT hC hE hnh hns hna hnt bh bs ba bt
 go_enter Tryz.func5,Tryz.ntmps5
 go_wp2_with fail
 obtain⟨W,hW,hB,hs,ca,fa⟩:=box1 (plus w y0) _ 30
 obtain⟨z,hz⟩:=plus_of_below hB
 rw [plus_plus] at hz
 rw [← hW]
 have c0:=ca 0 (some (.slice hp nh hc)) rfl
 have c1:=ca 1 (some (.slice mp ml.length mc)) rfl
 have c2:=ca 2 (some (.slice sp ns sc)) rfl
 have c3:=ca 3 (some (.slice ap na ac)) rfl
 have c4:=ca 4 (some (.slice tp nt tc)) rfl
 have c5:=ca 5 (some (.slice cp cl.length cc)) rfl
 have c6:=ca 6 (some (.slice ep el.length ec)) rfl
 have q1:=ref_fields ⟨mp,mc,ml⟩ W (hz ▸ iz'.out.1.plus (fun _ a=>a.plus _) _) (by have h1:=hz'.out.1;have h2:=hb'.out;have h3:=hZ'.out;show (ml.map Fd.sz).sum≤_;omega)
 have q2:=weighs_at ⟨cp,cc,cl⟩ W (hz ▸ iz'.out.2.1.plus (fun _ a=>a.plus _) _) (by have h1:=hz'.out.2.1;have h2:=hb'.out;have h3:=hZ'.out;show (cl.map St.sz).sum≤_;omega)
 have q3:=ref_names ⟨ep,ec,el⟩ W (hz ▸ iz'.out.2.2.plus (fun _ a=>a) _) (by have h1:=hz'.out.2.2;have h2:=hb'.out;have h3:=hZ'.out;show (el.map strSize).sum≤_;omega)
 simp only [Sl.size,Sl.v] at q1 q2 q3
 rw [hz'.out.1] at q1
 rw [hz'.out.2.1] at q2
 rw [hz'.out.2.2] at q3
 have q1':=Lib.hid q1
 have q2':=Lib.hid q2
 have q3':=Lib.hid q3
 have hzW:=Lib.hid hz
 have hW':=Lib.hid hW
 clear q1 q2 q3 hz hW ca fa hB
 refine wp_region_own0 (by kernel_rfl) (by kernel_rfl) ?_
 repeat (go_big_quiet_step (first|(with_reducible exact q1'.out _)|(with_reducible exact q2'.out _)|(with_reducible exact q3'.out _)))
 refine wpQuiet_nil ?_
 rintro _ ⟨y,rfl⟩
 rw [n0.out]
 clear q1' q2' q3'
 go_wp2
 obtain⟨B1,hB1⟩:∃ B1,M+C+E=B1:=⟨_,rfl⟩
 rw [hB1]
 have hB1':=Lib.hid hB1
 clear hB1 n0 iz' hz'
 have jh:Sl.In W 2 Hr.cells (Hr.In W) ⟨hp,hc,hl⟩:=by rw [hzW.out];exact ih'.out.plus (fun _ a=>a.plus _) _
 have js:Sl.In W 5 Sa.cells (Sa.In W) ⟨sp,sc,sl⟩:=by rw [hzW.out];exact is'.out.plus (fun _ a=>a.plus _) _
 have ja:Sl.In W 3 Ac.cells (Ac.In W) ⟨ap,ac,al⟩:=by rw [hzW.out];exact ia'.out.plus (fun _ a=>a.plus _) _
 have jt:Sl.In W 5 Ta.cells (Ta.In W) ⟨tp,tc,tl⟩:=by rw [hzW.out];exact it'.out.plus (fun _ a=>a.plus _) _
 have jh':=Lib.hid jh
 have js':=Lib.hid js
 have ja':=Lib.hid ja
 have jt':=Lib.hid jt
 clear jh js ja jt ih' is' ia' it' c1 c5 c6
 go_loopw [3,4] (fun nv iv wr=>∃ k:Nat,k≤nh∧iv=.int .i64 (k:Int)∧nv=.int .i64 (tally Hr.sz B1 hl k:Int)∧∃ y,wr=plus W y) (fun _ iv _=>nh - (intOf iv).toNat)
 case atStart=>exact⟨0,Nat.zero_le _,rfl,congrArg (Value.int .i64) (by rw [tally_zero]),y,rfl⟩
 case round =>
  obtain⟨k,hk,rfl,rfl,y,rfl⟩:=hrel
  by_cases hlt:k < nh
  ·obtain⟨x,hx⟩:∃ x,hl[k]?=some x:=⟨hl[k]'(by rw [hnh'.out];exact hlt),List.getElem?_eq_getElem _⟩
   obtain⟨a,rfl,hc⟩:=jh'.out.row k x hx
   have a3:=tally_succ Hr.sz B1 hl k x hx
   have a4:=tally_le Hr.sz B1 hl (k+1)
   have hxi:=jh'.out.kids x (List.mem_of_getElem? hx)
   obtain⟨nm,⟨fp,fc,fl⟩⟩:=x
   obtain⟨_,hfi⟩:=hxi
   have a5:Hr.sz ⟨nm,⟨fp,fc,fl⟩⟩=1+nm.size+(fl.map Fd.sz).sum:=rfl
   have b0:tally Hr.sz B1 hl (k+1)≤1048576:=by have h1:=hH'.out;have h2:=hb'.out;have h3:=hZ'.out;have h4:=hB1'.out;omega
   have q1:=ref_fields ⟨fp,fc,fl⟩ W hfi (by show (fl.map Fd.sz).sum≤_;omega)
   simp only [Sl.size,Sl.v] at q1
   obtain⟨F,hF⟩:∃ F,(fl.map Fd.sz).sum=F:=⟨_,rfl⟩
   rw [hF] at q1 a5
   have d0:=fun y=>(hc.plus y).c0 _ rfl
   have d1:=fun y=>(hc.plus y).cs 0 _ rfl
   simp only [Sl.v] at d0 d1
   have a6:=Lib.hid (wr_succ k nh hlt bh'.out)
   have a7:=Lib.hid (wr_hdr (tally Hr.sz B1 hl k) nm.size F (tally Hr.sz B1 hl (k+1)) (by rw [a3,a5]) b0)
   have q1':=Lib.hid q1
   clear q1 hF a3 a4 a5 b0 hfi hc hx
   go_wp2
   refine wp_region_own (by kernel_rfl) (by kernel_rfl) ?_
   repeat (go_big_quiet_step (first|(with_reducible exact q1'.out _)))
   refine wpQuiet_nil ?_
   rintro _ ⟨y1,rfl⟩
   go_wp2
   go_roundw
   case rel=>exact⟨k+1,hlt,congrArg (Value.int .i64) a6.out,congrArg (Value.int .i64) a7.out,y1,rfl⟩
   case measure=>exact step_less k nh hlt a6.out
  ·obtain rfl:k=nh:=by omega
   have hT1:tally Hr.sz B1 hl k=B1+H:=by rw [tally_all Hr.sz _ hl k hnh'.out,hH'.out]
   rw [hT1]
   clear hT1 hlt hk jh' hH' hnh' bh'
   go_wp2
   clear c0
   obtain⟨B2,hB2⟩:∃ B2,B1+H=B2:=⟨_,rfl⟩
   rw [hB2]
   have hB2':=Lib.hid hB2
   clear hB2
   go_loopw [3,5] (fun nv iv wr=>∃ k:Nat,k≤ns∧iv=.int .i64 (k:Int)∧nv=.int .i64 (tally Sa.sz B2 sl k:Int)∧∃ y,wr=plus W y) (fun _ iv _=>ns - (intOf iv).toNat)
   case atStart=>exact⟨0,Nat.zero_le _,rfl,congrArg (Value.int .i64) (by rw [tally_zero]),y,rfl⟩
   case round =>
    obtain⟨k,hk,rfl,rfl,y,rfl⟩:=hrel
    by_cases hlt:k < ns
    ·obtain⟨x,hx⟩:∃ x,sl[k]?=some x:=⟨sl[k]'(by rw [hns'.out];exact hlt),List.getElem?_eq_getElem _⟩
     obtain⟨a,rfl,hc⟩:=js'.out.row k x hx
     have a3:=tally_succ Sa.sz B2 sl k x hx
     have a4:=tally_le Sa.sz B2 sl (k+1)
     have hxi:=js'.out.kids x (List.mem_of_getElem? hx)
     obtain⟨nm,⟨kp,kc,kl⟩,t0o,⟨yp,yc,yl⟩,⟨zp,zc,zl⟩⟩:=x
     obtain⟨_,xt,_,xk,xc⟩:=hxi
     have d0:=fun y=>(hc.plus y).c0 _ rfl
     have d1:=fun y=>(hc.plus y).cs 0 _ rfl
     have d2:=fun y=>(hc.plus y).cs 1 _ rfl
     have d3:=fun y=>(hc.plus y).cs 2 _ rfl
     have d4:=fun y=>(hc.plus y).cs 3 _ rfl
     simp only [Sl.v] at d0 d1 d2 d3 d4
     have a6:=Lib.hid (wr_succ k ns hlt bs'.out)
     have a5:Sa.sz ⟨nm,⟨kp,kc,kl⟩,t0o,⟨yp,yc,yl⟩,⟨zp,zc,zl⟩⟩=1+nm.size+(kl.map strSize).sum+t0o.size+(yl.map Ex.wt).sum+(zl.map Ca.sz).sum:=rfl
     have b0:tally Sa.sz B2 sl (k+1)≤1048576:=by have h1:=hS'.out;have h2:=hb'.out;have h3:=hZ'.out;have h4:=hB1'.out;have h5:=hB2'.out;omega
     obtain⟨KK,hKK⟩:∃ F,(kl.map strSize).sum=F:=⟨_,rfl⟩
     obtain⟨Y,hY⟩:∃ F,(yl.map Ex.wt).sum=F:=⟨_,rfl⟩
     obtain⟨X,hX⟩:∃ F,(zl.map Ca.sz).sum=F:=⟨_,rfl⟩
     rw [hKK,hY,hX] at a5
     obtain⟨ny,hny⟩:∃ n,yl.length=n:=⟨_,rfl⟩
     obtain⟨nz,hnz⟩:∃ n,zl.length=n:=⟨_,rfl⟩
     rw [hny] at d3
     rw [hnz] at d4
     have by_:=Lib.hid (show ny≤1048576 by have:=length_le_sum Ex.wt Ex.wt_pos yl;omega)
     have bz_:=Lib.hid (show nz≤1048576 by have:=length_le_sum Ca.sz sz_pos_ca zl;omega)
     obtain⟨N1,hN1⟩:∃ N,tally Sa.sz B2 sl (k+1)=N:=⟨_,rfl⟩
     rw [hN1] at b0 a3 a4
     obtain⟨N0,hN0⟩:∃ N,tally Sa.sz B2 sl k=N:=⟨_,rfl⟩
     rw [hN0] at a3 ⊢
     have a3':N1=N0+1+nm.size+t0o.size+KK+Y+X:=by omega
     have a3h:=Lib.hid a3'
     have b0h:=Lib.hid b0
     have hN1h:=Lib.hid hN1
     have hYh:=Lib.hid (And.intro hY (And.intro hny (And.intro hX hnz)))
     have hKh:=Lib.hid hKK
     have xth:=Lib.hid xt
     have xkh:=Lib.hid xk
     have xch:=Lib.hid xc
     clear a3 a3' a4 a5 b0 hN1 hN0 hY hX hny hnz hKK xt xk xc hx hc
     go_wp2_with fail
     obtain⟨V,hV,hBV,hsV,cv,fv⟩:=box1 (plus W y) _ 61
     obtain⟨zv,hzv⟩:=plus_of_below hBV
     rw [plus_plus] at hzv
     rw [← hV]
     have v0:=cv 0 (some (.string nm)) rfl
     have v1:=cv 1 (some (.slice kp kl.length kc)) rfl
     have v2:=cv 2 (some (.string t0o)) rfl
     have v3:=cv 3 (some (.slice yp ny yc)) rfl
     have v4:=cv 4 (some (.slice zp nz zc)) rfl
     have q1:=ref_names ⟨kp,kc,kl⟩ V (by rw [hzv];exact xth.out.plus (fun _ a=>a) _) (by show (kl.map strSize).sum≤_;have h1:=hKh.out;have h2:=a3h.out;have h3:=b0h.out;omega)
     simp only [Sl.size,Sl.v] at q1
     rw [hKh.out] at q1
     have q1':=Lib.hid q1
     have hzvh:=Lib.hid hzv
     have a7:=Lib.hid (wr_four N0 nm.size t0o.size KK (N0+1+nm.size+t0o.size+KK) rfl (by have h2:=a3h.out;have h3:=b0h.out;omega))
     clear q1 hzv hV hBV hsV cv fv d0 d1 d2 d3 d4
     refine wp_region_own0 (by kernel_rfl) (by kernel_rfl) ?_
     repeat (go_big_quiet_step (first|(with_reducible exact q1'.out _)))
     refine wpQuiet_nil ?_
     rintro _ ⟨y1,rfl⟩
     rw [a7.out]
     obtain⟨B3,hB3⟩:∃ B3,N0+1+nm.size+t0o.size+KK=B3:=⟨_,rfl⟩
     rw [hB3]
     have hB3':=Lib.hid hB3
     have jy:Sl.In V 9 Ex.cells (Ex.In V) ⟨yp,yc,yl⟩:=by rw [hzvh.out];exact xkh.out.plus (fun _ a=>a.plus _) _
     have jz:Sl.In V 3 Ca.cells (Ca.In V) ⟨zp,zc,zl⟩:=by rw [hzvh.out];exact xch.out.plus (fun _ a=>a.plus _) _
     have jy':=Lib.hid jy
     have jz':=Lib.hid jz
     clear hB3 a7 q1' v0 v1 v2 jy jz xth xkh xch hKh
     go_wp2
     go_loopw [3,7] (fun nv iv wr=>∃ j:Nat,j≤ny∧iv=.int .i64 (j:Int)∧nv=.int .i64 (tally Ex.wt B3 yl j:Int)∧∃ y,wr=plus V y) (fun _ iv _=>ny - (intOf iv).toNat)
     case atStart=>exact⟨0,Nat.zero_le _,rfl,congrArg (Value.int .i64) (by rw [tally_zero]),y1,rfl⟩
     case round =>
      obtain⟨j,hj,rfl,rfl,y,rfl⟩:=hrel
      by_cases hlj:j < ny
      ·obtain⟨e,he⟩:∃ e,yl[j]?=some e:=⟨yl[j]'(by rw [hYh.out.2.1];exact hlj),List.getElem?_eq_getElem _⟩
       obtain⟨a2,rfl,hc⟩:=jy'.out.row j e he
       have r3:=tally_succ Ex.wt B3 yl j e he
       have r4:=tally_le Ex.wt B3 yl (j+1)
       have hei:=jy'.out.kids e (List.mem_of_getElem? he)
       obtain⟨E1,hE1⟩:∃ E,e.wt=E:=⟨_,rfl⟩
       have r0:tally Ex.wt B3 yl (j+1)≤1048576:=by have h1:=hYh.out.1;have h2:=a3h.out;have h3:=b0h.out;have h4:=hB3'.out;omega
       have q1:=weigh_in e V hei (by omega)
       rw [hE1] at q1 r3
       obtain⟨eop,⟨elw,elh,ell⟩,ehd,enm,eeh,eel,ep,ecap,eargs⟩:=e
       have q1:PureIn Tryz.prog V 14 #[.agg #[.int .u8 eop,.int .i64 elw,.int .u64 elh,.int .u64 ell,.string ehd,.string enm,.int .i64 eeh,.int .i64 eel,.slice ep eargs.length ecap]] _:=q1
       have e0:=fun y=>(hc.plus y).c0 _ rfl
       have e1:=fun y=>(hc.plus y).cs 0 _ rfl
       have e2:=fun y=>(hc.plus y).cs 1 _ rfl
       have e3:=fun y=>(hc.plus y).cs 2 _ rfl
       have e4:=fun y=>(hc.plus y).cs 3 _ rfl
       have e5:=fun y=>(hc.plus y).cs 4 _ rfl
       have e6:=fun y=>(hc.plus y).cs 5 _ rfl
       have e7:=fun y=>(hc.plus y).cs 6 _ rfl
       have e8:=fun y=>(hc.plus y).cs 7 _ rfl
       simp only [Ex.op,Ex.lit,Ex.head,Ex.name,Ex.hi,Ex.lo,Ex.p,Ex.cap,Ex.args] at e0 e1 e2 e3 e4 e5 e6 e7 e8
       have r6:=Lib.hid (wr_succ j ny hlj by_.out)
       have r7:=Lib.hid (wr_one (tally Ex.wt B3 yl j) E1 (tally Ex.wt B3 yl (j+1)) r3 r0)
       have q1':=Lib.hid q1
       clear q1 r3 r4 r0 hei hE1 hc he
       go_wp2_with (go_at_call 14;refine (q1'.out _).mono ?_;rintro r w' ⟨rfl,x,rfl⟩)
       go_roundw
       case rel=>exact⟨j+1,hlj,congrArg (Value.int .i64) r6.out,congrArg (Value.int .i64) r7.out,x,rfl⟩
       case measure=>exact step_less j ny hlj r6.out
      ·obtain rfl:j=ny:=by omega
       have hT1:tally Ex.wt B3 yl j=B3+Y:=by rw [tally_all Ex.wt _ yl j hYh.out.2.1,hYh.out.1]
       rw [hT1]
       clear hT1 hlj hj jy'
       go_wp2
       clear v3
       obtain⟨B4,hB4⟩:∃ B4,B3+Y=B4:=⟨_,rfl⟩
       rw [hB4]
       have hB4':=Lib.hid hB4
       clear hB4
       go_loopw [3,8] (fun nv iv wr=>∃ j:Nat,j≤nz∧iv=.int .i64 (j:Int)∧nv=.int .i64 (tally Ca.sz B4 zl j:Int)∧∃ y,wr=plus V y) (fun _ iv _=>nz - (intOf iv).toNat)
       case atStart=>exact⟨0,Nat.zero_le _,rfl,congrArg (Value.int .i64) (by rw [tally_zero]),y,rfl⟩
       case round =>
        obtain⟨j,hj,rfl,rfl,y,rfl⟩:=hrel
        by_cases hlj:j < nz
        ·obtain⟨c,hcc⟩:∃ c,zl[j]?=some c:=⟨zl[j]'(by rw [hYh.out.2.2.2];exact hlj),List.getElem?_eq_getElem _⟩
         obtain⟨a2,rfl,hc⟩:=jz'.out.row j c hcc
         have r3:=tally_succ Ca.sz B4 zl j c hcc
         have r4:=tally_le Ca.sz B4 zl (j+1)
         have r0:tally Ca.sz B4 zl (j+1)≤1048576:=by have h1:=hYh.out.2.2.1;have h2:=a3h.out;have h3:=b0h.out;have h4:=hB3'.out;have h5:=hB4'.out;omega
         obtain⟨df,⟨gp,gc,gl⟩,cto⟩:=c
         have r5:Ca.sz ⟨df,⟨gp,gc,gl⟩,cto⟩=1+cto.size+gl.length:=by show 1+(gl.map Se.sz).sum+cto.size=_;rw [sum_ones Se.sz (fun _=>rfl)];omega
         have e1:=fun y=>(hc.plus y).cs 0 _ rfl
         have e2:=fun y=>(hc.plus y).cs 1 _ rfl
         simp only [Sl.v] at e1 e2
         have r6:=Lib.hid (wr_succ j nz hlj bz_.out)
         have r7:=Lib.hid (wr_hdr (tally Ca.sz B4 zl j) cto.size gl.length (tally Ca.sz B4 zl (j+1)) (by rw [r3,r5]) r0)
         clear r3 r4 r5 r0 hc hcc
         go_wp2
         refine wp_region_own (by kernel_rfl) (by kernel_rfl) ?_
         repeat (go_big_quiet_step (fail))
         refine wpQuiet_nil ?_
         rintro _ ⟨y2,rfl⟩
         go_wp2
         go_roundw
         case rel=>exact⟨j+1,hlj,congrArg (Value.int .i64) r6.out,congrArg (Value.int .i64) r7.out,y2,rfl⟩
         case measure=>exact step_less j nz hlj r6.out
        ·obtain rfl:j=nz:=by omega
         have hT1:tally Ca.sz B4 zl j=tally Sa.sz B2 sl (k+1):=by
          have h1:=hYh.out.2.2.1
          have h2:=a3h.out
          have h3:=hB3'.out
          have h4:=hB4'.out
          rw [tally_all Ca.sz _ zl j hYh.out.2.2.2,hN1h.out]
          omega
         rw [hT1]
         clear hT1 hlj hj jz'
         go_wp2
         go_roundw
         case rel=>exact⟨k+1,hlt,congrArg (Value.int .i64) a6.out,rfl,by rw [hzvh.out,plus_plus];exact⟨_,rfl⟩⟩
         case measure=>exact step_less k ns hlt a6.out
    ·obtain rfl:k=ns:=by omega
     have hT1:tally Sa.sz B2 sl k=B2+S:=by rw [tally_all Sa.sz _ sl k hns'.out,hS'.out]
     rw [hT1]
     clear hT1 hlt hk js' hS' hns' bs'
     go_wp2
     clear c2
     obtain⟨B5,hB5⟩:∃ B5,B2+S=B5:=⟨_,rfl⟩
     rw [hB5]
     have hB5':=Lib.hid hB5
     clear hB5
     go_loopw [3,9] (fun nv iv wr=>∃ k:Nat,k≤na∧iv=.int .i64 (k:Int)∧nv=.int .i64 (tally Ac.sz B5 al k:Int)∧∃ y,wr=plus W y) (fun _ iv _=>na - (intOf iv).toNat)
     case atStart=>exact⟨0,Nat.zero_le _,rfl,congrArg (Value.int .i64) (by rw [tally_zero]),y,rfl⟩
     case round =>
      obtain⟨k,hk,rfl,rfl,y,rfl⟩:=hrel
      by_cases hlt:k < na
      ·obtain⟨x,hx⟩:∃ x,al[k]?=some x:=⟨al[k]'(by rw [hna'.out];exact hlt),List.getElem?_eq_getElem _⟩
       obtain⟨a,rfl,hc⟩:=ja'.out.row k x hx
       have a3:=tally_succ Ac.sz B5 al k x hx
       have a4:=tally_le Ac.sz B5 al (k+1)
       have hxi:=ja'.out.kids x (List.mem_of_getElem? hx)
       obtain⟨nm,⟨fp,fc,fl⟩,⟨gp,gc,gl⟩⟩:=x
       obtain⟨_,hfi,hgi⟩:=hxi
       have a5:Ac.sz ⟨nm,⟨fp,fc,fl⟩,⟨gp,gc,gl⟩⟩=1+nm.size+(fl.map Fd.sz).sum+(gl.map St.sz).sum:=rfl
       have b0:tally Ac.sz B5 al (k+1)≤1048576:=by have h1:=hA'.out;have h2:=hb'.out;have h3:=hZ'.out;have h4:=hB1'.out;have h5:=hB2'.out;have h6:=hB5'.out;omega
       have q1:=ref_fields ⟨fp,fc,fl⟩ W hfi (by show (fl.map Fd.sz).sum≤_;omega)
       have q2:=weighs_at ⟨gp,gc,gl⟩ W hgi (by show (gl.map St.sz).sum≤_;omega)
       simp only [Sl.size,Sl.v] at q1 q2
       obtain⟨F,hF⟩:∃ F,(fl.map Fd.sz).sum=F:=⟨_,rfl⟩
       obtain⟨G,hG⟩:∃ G,(gl.map St.sz).sum=G:=⟨_,rfl⟩
       rw [hF] at q1 a5
       rw [hG] at q2 a5
       have d0:=fun y=>(hc.plus y).c0 _ rfl
       have d1:=fun y=>(hc.plus y).cs 0 _ rfl
       have d2:=fun y=>(hc.plus y).cs 1 _ rfl
       simp only [Sl.v] at d0 d1 d2
       have a6:=Lib.hid (wr_succ k na hlt ba'.out)
       have a7:=Lib.hid (wr_four (tally Ac.sz B5 al k) nm.size F G (tally Ac.sz B5 al (k+1)) (by rw [a3,a5];omega) b0)
       have q1':=Lib.hid q1
       have q2':=Lib.hid q2
       clear q1 q2 hF hG a3 a4 a5 b0 hfi hgi hc hx
       go_wp2
       refine wp_region_own (by kernel_rfl) (by kernel_rfl) ?_
       repeat (go_big_quiet_step (first|(with_reducible exact q1'.out _)|(with_reducible exact q2'.out _)))
       refine wpQuiet_nil ?_
       rintro _ ⟨y1,rfl⟩
       go_wp2
       go_roundw
       case rel=>exact⟨k+1,hlt,congrArg (Value.int .i64) a6.out,congrArg (Value.int .i64) a7.out,y1,rfl⟩
       case measure=>exact step_less k na hlt a6.out
      ·obtain rfl:k=na:=by omega
       have hT1:tally Ac.sz B5 al k=B5+A:=by rw [tally_all Ac.sz _ al k hna'.out,hA'.out]
       rw [hT1]
       clear hT1 hlt hk ja' hA' hna' ba'
       go_wp2
       clear c3
       obtain⟨B6,hB6⟩:∃ B6,B5+A=B6:=⟨_,rfl⟩
       rw [hB6]
       have hB6':=Lib.hid hB6
       clear hB6
       go_loopw [3,10] (fun nv iv wr=>∃ k:Nat,k≤nt∧iv=.int .i64 (k:Int)∧nv=.int .i64 (tally Ta.sz B6 tl k:Int)∧∃ y,wr=plus W y) (fun _ iv _=>nt - (intOf iv).toNat)
       case atStart=>exact⟨0,Nat.zero_le _,rfl,congrArg (Value.int .i64) (by rw [tally_zero]),y,rfl⟩
       case round =>
        obtain⟨k,hk,rfl,rfl,y,rfl⟩:=hrel
        by_cases hlt:k < nt
        ·obtain⟨x,hx⟩:∃ x,tl[k]?=some x:=⟨tl[k]'(by rw [hnt'.out];exact hlt),List.getElem?_eq_getElem _⟩
         obtain⟨a,rfl,hc⟩:=jt'.out.row k x hx
         have a3:=tally_succ Ta.sz B6 tl k x hx
         have a4:=tally_le Ta.sz B6 tl (k+1)
         have hxi:=jt'.out.kids x (List.mem_of_getElem? hx)
         obtain⟨nm,⟨yp,yc,yl⟩,⟨kp,kc,kl⟩,⟨dn,⟨gp,gc,gl⟩⟩⟩:=x
         obtain⟨_,xk,xt,_⟩:=hxi
         have d0:=fun y=>(hc.plus y).c0 _ rfl
         have d1:=fun y=>(hc.plus y).cs 0 _ rfl
         have d2:=fun y=>(hc.plus y).cs 1 _ rfl
         have d3:=fun y=>(hc.plus y).cs 2 _ rfl
         have d4:=fun y=>(hc.plus y).cs 3 _ rfl
         simp only [Sl.v] at d0 d1 d2 d3 d4
         have a6:=Lib.hid (wr_succ k nt hlt bt'.out)
         have a5:Ta.sz ⟨nm,⟨yp,yc,yl⟩,⟨kp,kc,kl⟩,⟨dn,⟨gp,gc,gl⟩⟩⟩=1+nm.size+(yl.map Ke.sz).sum+(kl.map strSize).sum+(dn.size+gl.length):=by rw [← sum_ones (fun _:Lt=>1) (fun _=>rfl) gl];rfl
         have b0:tally Ta.sz B6 tl (k+1)≤1048576:=by have h1:=hT'.out;have h2:=hb'.out;have h3:=hZ'.out;have h4:=hB1'.out;have h5:=hB2'.out;have h6:=hB5'.out;have h7:=hB6'.out;omega
         obtain⟨KK,hKK⟩:∃ F,(kl.map strSize).sum=F:=⟨_,rfl⟩
         obtain⟨Y,hY⟩:∃ F,(yl.map Ke.sz).sum=F:=⟨_,rfl⟩
         rw [hKK,hY] at a5
         obtain⟨ny,hny⟩:∃ n,yl.length=n:=⟨_,rfl⟩
         rw [hny] at d1
         have by_:=Lib.hid (show ny≤1048576 by have:=length_le_sum Ke.sz sz_pos_ke yl;omega)
         obtain⟨N1,hN1⟩:∃ N,tally Ta.sz B6 tl (k+1)=N:=⟨_,rfl⟩
         rw [hN1] at b0 a3 a4
         obtain⟨N0,hN0⟩:∃ N,tally Ta.sz B6 tl k=N:=⟨_,rfl⟩
         rw [hN0] at a3 ⊢
         have a3':N1=N0+1+nm.size+KK+dn.size+gl.length+Y:=by omega
         have a3h:=Lib.hid a3'
         have b0h:=Lib.hid b0
         have hN1h:=Lib.hid hN1
         have hYh:=Lib.hid (And.intro hY hny)
         have hKh:=Lib.hid hKK
         have xth:=Lib.hid xt
         have xkh:=Lib.hid xk
         clear a3 a3' a4 a5 b0 hN1 hN0 hY hny hKK xt xk hx hc
         go_wp2_with fail
         obtain⟨V,hV,hBV,hsV,cv,fv⟩:=box1 (plus W y) _ 58
         obtain⟨zv,hzv⟩:=plus_of_below hBV
         rw [plus_plus] at hzv
         rw [← hV]
         have v0:=cv 0 (some (.string nm)) rfl
         have v1:=cv 1 (some (.slice yp ny yc)) rfl
         have v2:=cv 2 (some (.slice kp kl.length kc)) rfl
         have v3:=cv 3 (some (.string dn)) rfl
         have v4:=cv 4 (some (.slice gp gl.length gc)) rfl
         have q1:=ref_names ⟨kp,kc,kl⟩ V (by rw [hzv];exact xth.out.plus (fun _ a=>a) _) (by show (kl.map strSize).sum≤_;have h1:=hKh.out;have h2:=a3h.out;have h3:=b0h.out;omega)
         simp only [Sl.size,Sl.v] at q1
         rw [hKh.out] at q1
         have q1':=Lib.hid q1
         have hzvh:=Lib.hid hzv
         have a7:=Lib.hid (wr_five N0 nm.size KK dn.size gl.length (N0+1+nm.size+KK+dn.size+gl.length) rfl (by have h2:=a3h.out;have h3:=b0h.out;omega))
         clear q1 hzv hV hBV hsV cv fv d0 d1 d2 d3 d4
         refine wp_region_own0 (by kernel_rfl) (by kernel_rfl) ?_
         repeat (go_big_quiet_step (first|(with_reducible exact q1'.out _)))
         refine wpQuiet_nil ?_
         rintro _ ⟨y1,rfl⟩
         rw [a7.out]
         obtain⟨B3,hB3⟩:∃ B3,N0+1+nm.size+KK+dn.size+gl.length=B3:=⟨_,rfl⟩
         rw [hB3]
         have hB3':=Lib.hid hB3
         have jy:Sl.In V 10 Ke.cells (Ke.In V) ⟨yp,yc,yl⟩:=by rw [hzvh.out];exact xkh.out.plus (fun _ a=>a.plus _) _
         have jy':=Lib.hid jy
         clear hB3 a7 q1' v0 v2 v3 v4 jy xth xkh hKh
         go_wp2
         go_loopw [3,12] (fun nv iv wr=>∃ j:Nat,j≤ny∧iv=.int .i64 (j:Int)∧nv=.int .i64 (tally Ke.sz B3 yl j:Int)∧∃ y,wr=plus V y) (fun _ iv _=>ny - (intOf iv).toNat)
         case atStart=>exact⟨0,Nat.zero_le _,rfl,congrArg (Value.int .i64) (by rw [tally_zero]),y1,rfl⟩
         case round =>
          obtain⟨j,hj,rfl,rfl,y,rfl⟩:=hrel
          by_cases hlj:j < ny
          ·obtain⟨e,he⟩:∃ e,yl[j]?=some e:=⟨yl[j]'(by rw [hYh.out.2];exact hlj),List.getElem?_eq_getElem _⟩
           obtain⟨a2,rfl,hc⟩:=jy'.out.row j e he
           have r3:=tally_succ Ke.sz B3 yl j e he
           have r4:=tally_le Ke.sz B3 yl (j+1)
           have hei:=jy'.out.kids e (List.mem_of_getElem? he)
           obtain⟨e,kd⟩:=e
           obtain⟨hei,_⟩:=hei
           have r5:Ke.sz ⟨e,kd⟩=1+e.wt:=rfl
           rw [r5] at r3
           obtain⟨E1,hE1⟩:∃ E,e.wt=E:=⟨_,rfl⟩
           have r0:tally Ke.sz B3 yl (j+1)≤1048576:=by have h1:=hYh.out.1;have h2:=a3h.out;have h3:=b0h.out;have h4:=hB3'.out;omega
           have q1:=weigh_in e V hei (by omega)
           rw [hE1] at q1 r3
           obtain⟨eop,⟨elw,elh,ell⟩,ehd,enm,eeh,eel,ep,ecap,eargs⟩:=e
           have q1:PureIn Tryz.prog V 14 #[.agg #[.int .u8 eop,.int .i64 elw,.int .u64 elh,.int .u64 ell,.string ehd,.string enm,.int .i64 eeh,.int .i64 eel,.slice ep eargs.length ecap]] _:=q1
           have e0:=fun y=>(hc.plus y).c0 _ rfl
           have e1:=fun y=>(hc.plus y).cs 0 _ rfl
           have e2:=fun y=>(hc.plus y).cs 1 _ rfl
           have e3:=fun y=>(hc.plus y).cs 2 _ rfl
           have e4:=fun y=>(hc.plus y).cs 3 _ rfl
           have e5:=fun y=>(hc.plus y).cs 4 _ rfl
           have e6:=fun y=>(hc.plus y).cs 5 _ rfl
           have e7:=fun y=>(hc.plus y).cs 6 _ rfl
           have e8:=fun y=>(hc.plus y).cs 7 _ rfl
           simp only [Ex.op,Ex.lit,Ex.head,Ex.name,Ex.hi,Ex.lo,Ex.p,Ex.cap,Ex.args] at e0 e1 e2 e3 e4 e5 e6 e7 e8
           have r6:=Lib.hid (wr_succ j ny hlj by_.out)
           have r7:=Lib.hid (wr_key (tally Ke.sz B3 yl j) E1 (tally Ke.sz B3 yl (j+1)) r3 r0)
           have q1':=Lib.hid q1
           clear q1 r3 r4 r5 r0 hei hE1 hc he
           go_wp2_with (go_at_call 14;refine (q1'.out _).mono ?_;rintro r w' ⟨rfl,x,rfl⟩)
           go_roundw
           case rel=>exact⟨j+1,hlj,congrArg (Value.int .i64) r6.out,congrArg (Value.int .i64) r7.out,x,rfl⟩
           case measure=>exact step_less j ny hlj r6.out
          ·obtain rfl:j=ny:=by omega
           have hT1:tally Ke.sz B3 yl j=tally Ta.sz B6 tl (k+1):=by
            have h1:=hYh.out.1
            have h2:=a3h.out
            have h3:=hB3'.out
            rw [tally_all Ke.sz _ yl j hYh.out.2,hN1h.out]
            omega
           rw [hT1]
           clear hT1 hlj hj jy'
           go_wp2
           go_roundw
           case rel=>exact⟨k+1,hlt,congrArg (Value.int .i64) a6.out,rfl,by rw [hzvh.out,plus_plus];exact⟨_,rfl⟩⟩
           case measure=>exact step_less k nt hlt a6.out
        ·obtain rfl:k=nt:=by omega
         have hT1:tally Ta.sz B6 tl k=Z:=by
          have h3:=hZ'.out
          have h4:=hB1'.out
          have h5:=hB2'.out
          have h6:=hB5'.out
          have h7:=hB6'.out
          rw [tally_all Ta.sz _ tl k hnt'.out,hT'.out]
          omega
         rw [hT1]
         have hD:=Lib.hid (show decide ((6000:Int) < (Z:Int))=decide (6000 < Z) by simp;omega)
         clear hT1 hlt hk jt' hT' hnt' bt'
         go_wp2
         go_ret
         exact⟨congrArg (fun z=>Ending.returned (Value.bool z)) hD.out,by rw [hzW.out,plus_plus];exact⟨_,rfl⟩⟩
theorem clo3 (V:World) (A B:Obj) (v:Value) (t:TypeId):∃ W,((V.alloc A).alloc B).alloc (.cells #[v] t)=W∧(∃ z,W=plus V z)∧W.cell? ⟨V.heap.size+1+1,0,none⟩=some v:=by
 refine⟨_,rfl,?_,cell_new _ _ _ _ _ (by simp)⟩
 obtain⟨x,hx⟩:=alloc2_plus V A B
 rw [hx]
 exact plus_alloc1 V x _
theorem shp_ex (x:Ex):shp_Expr x.cells:=⟨_,_,_,_,_,_,_,_,_,_,_,rfl⟩
theorem shp_st (x:St):shp_Stmt x.cells:=⟨_,_,_,_,_,_,_,_,_,_,_,_,_,_,_,_,_,_,_,_,rfl⟩
theorem Ex.sames_eq:∀ l r:List Ex,Ex.sames l r=eqAll Ex.same l r
 | [],[]=>by rw [Ex.sames,eqAll]
 | a :: l,b :: r=>by rw [Ex.sames,eqAll,Ex.sames_eq l r]
 | [],_ :: _=>by rw [Ex.sames,eqAll]
 | _ :: _,[]=>by rw [Ex.sames,eqAll]
def fv_expr (c:Nat):Value:=.func (.func 217) #[] #[.pointer (some ⟨c,0,none⟩)]
theorem same1:∀ (a b:Ex) (w:World) (c:Nat),a.In w→b.In w→a.wt≤1048576→w.cell? ⟨c,0,none⟩=some (fv_expr c)→Kp Tryz.prog w 217 #[a.val,b.val,.pointer (some ⟨c,0,none⟩)] (.bool (a.same b)):=by
 intro a
 induction a using Ex.ind with
 | _ a ih =>
 intro b w c ha hb wa hc
 have h1:=ha
 have h2:=hb
 obtain⟨_,_,_,_,_,_,_,l1,c1,r1,k1⟩:=h1
 obtain⟨_,_,_,_,_,_,_,l2,c2,r2,k2⟩:=h2
 have e1:=Ex.wt_eq a
 have hl:a.args.length≤1048576:=by have:=length_le_sum Ex.wt Ex.wt_pos a.args;omega
 have hE:=eqf_Expr Ex.cells shp_ex Ex.same 217 #[.pointer (some ⟨c,0,none⟩)] (Ex.In w) w ⟨a.p,a.cap,a.args⟩ ⟨b.p,b.cap,b.args⟩ ⟨l1,c1,r1,k1⟩ ⟨l2,c2,r2,k2⟩ hl (enters_of Tryz.func217 (by kernel_rfl) rfl)
  (fun x hx y hy=>ih x hx y w c (k1 x hx) (k2 y hy) (Nat.le_trans (le_sum_of Ex.wt a.args x hx) (by omega)) hc)
 refine (expr1_of a.op a.lit.w a.lit.h a.lit.l a.head a.name a.hi a.lo a.p a.args.length a.cap b.op b.lit.w b.lit.h b.lit.l b.head b.name b.hi b.lo b.p b.args.length b.cap c _ w hc hE).eqv ?_
 simp only [Ex.same_eq,Ex.top,Ex.sames_eq,Bool.and_assoc]
set_option maxRecDepth 100000 in
set_option maxHeartbeats 8000000 in
theorem ast_sameExpr (a b:Ex) (w:World) (ha:a.In w) (hb:b.In w) (wa:a.wt≤1048576):Kp Tryz.prog w 196 #[a.val,b.val] (.bool (a.same b)):=by
 intro y0
 have ha:=ha.plus y0
 have hb:=hb.plus y0
 obtain⟨V,hV⟩:∃ V,plus w y0=V:=⟨_,rfl⟩
 rw [hV] at ha hb ⊢
 clear hV
 have hq:=fun (W:World) (c:Nat) (z:Ext) (hz:W=plus V z) (hc:W.cell? ⟨c,0,none⟩=some (fv_expr c))=>calls_self (same1 a b W c (hz ▸ ha.plus z) (hz ▸ hb.plus z) wa hc)
 obtain⟨S,hS⟩:∃ S,a.same b=S:=⟨_,rfl⟩
 rw [hS] at hq ⊢
 clear hS ha hb wa
 obtain⟨op,⟨lw,lh,ll⟩,hd,nm,eh,el,p,cap,args⟩:=a
 obtain⟨op2,⟨lw2,lh2,ll2⟩,hd2,nm2,eh2,el2,p2,cap2,args2⟩:=b
 have hq:∀ (W:World) (c:Nat) (z:Ext),W=plus V z→W.cell? ⟨c,0,none⟩=some (fv_expr c)→Calls Tryz.prog 217 #[.agg #[.int .u8 op,.int .i64 lw,.int .u64 lh,.int .u64 ll,.string hd,.string nm,.int .i64 eh,.int .i64 el,.slice p args.length cap],.agg #[.int .u8 op2,.int .i64 lw2,.int .u64 lh2,.int .u64 ll2,.string hd2,.string nm2,.int .i64 eh2,.int .i64 el2,.slice p2 args2.length cap2],.pointer (some ⟨c,0,none⟩)] W fun e w'=>e=.returned (.bool S)∧∃ x,w'=plus W x:=hq
 show Calls Tryz.prog 196 #[.agg #[.int .u8 op,.int .i64 lw,.int .u64 lh,.int .u64 ll,.string hd,.string nm,.int .i64 eh,.int .i64 el,.slice p args.length cap],.agg #[.int .u8 op2,.int .i64 lw2,.int .u64 lh2,.int .u64 ll2,.string hd2,.string nm2,.int .i64 eh2,.int .i64 el2,.slice p2 args2.length cap2]] V _
 generalize args.length=n1 at hq ⊢
 generalize args2.length=n2 at hq ⊢
 have hq':=Lib.hid hq
 clear hq
 have hmf:∀ (fn:Fn) (first cap:Array Value) (w:World),(Instr.makeFunc fn first cap).run Tryz.prog w=.ok (.func fn first cap) w:=fun _ _ _ _=>rfl
 go_enter Tryz.func196,Tryz.ntmps196
 go_wp2_with fail
 obtain⟨W,hW,⟨z,hz⟩,hc⟩:=clo3 V _ _ _ _
 rw [hW]
 have hz':=Lib.hid hz
 refine (hq'.out W _ z hz hc).mono ?_
 clear hW hz hc
 rintro r w' ⟨rfl,x,rfl⟩
 go_wp2
 go_ret
 exact⟨rfl,pp hz'.out⟩
theorem St.In.inE {w:World} {s:St} (h:s.In w):s.e.In w:=by obtain⟨_,_,_,_,e,_,_,_,_,_,_,_,_⟩:=h;exact e
theorem St.In.inThn {w:World} {s:St} (h:s.In w):s.thnS.In w 14 St.cells (St.In w):=by obtain⟨_,_,_,_,_,l,c,r,k,_,_,_,_⟩:=h;exact⟨l,c,r,k⟩
theorem St.In.inEls {w:World} {s:St} (h:s.In w):s.elsS.In w 14 St.cells (St.In w):=by obtain⟨_,_,_,_,_,_,_,_,_,l,c,r,k⟩:=h;exact⟨l,c,r,k⟩
theorem shp_fd (x:Fd):shp_Field x.cells:=⟨_,_,rfl⟩
theorem shp_hr (x:Hr):shp_Header x.cells:=⟨_,_,_,_,rfl⟩
theorem shp_se (x:Se):shp_Set x.cells:=⟨_,_,_,_,_,_,_,rfl⟩
theorem shp_lt (x:Lt):shp_Lit x.cells:=⟨_,_,_,rfl⟩
theorem shp_ca (x:Ca):shp_Case x.cells:=⟨_,_,_,_,_,rfl⟩
theorem shp_sa (x:Sa):shp_State x.cells:=⟨_,_,_,_,_,_,_,_,_,_,_,rfl⟩
theorem shp_ac (x:Ac):shp_Action x.cells:=⟨_,_,_,_,_,_,_,rfl⟩
theorem shp_ke (x:Ke):shp_Key x.cells:=⟨_,_,_,_,_,_,_,_,_,_,_,_,rfl⟩
theorem shp_ta (x:Ta):shp_Table x.cells:=⟨_,_,_,_,_,_,_,_,_,_,_,rfl⟩
theorem len_le {α:Type} (f:α→Nat) (hf:∀ x,1≤f x) (L:Sl α) {n:Nat} (h:L.size f≤n):L.l.length≤n:=Nat.le_trans (length_le_sum f hf L.l) h
theorem one_sz {α:Type} {f:α→Nat} {L:Sl α} {n:Nat} {x:α} (h:L.size f≤n) (hx:x ∈ L.l):f x≤n:=Nat.le_trans (le_sum_of f L.l x hx) h
theorem strSize_le (L:Sl ByteArray) {n:Nat} (h:L.size strSize≤n):L.l.length≤n:=len_le strSize strSize_pos L h
theorem lt_sz (L:Sl Lt) {n:Nat} (h:L.size (fun _=>1)≤n):L.l.length≤n:=len_le (fun _=>1) (fun _=>Nat.le_refl _) L h
end Go.Proofs.YtobhijbncchpiaaGreat
