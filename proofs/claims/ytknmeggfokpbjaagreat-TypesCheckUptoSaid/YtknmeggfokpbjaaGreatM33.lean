/-
  WHAT IS PROVED HERE: a part of the proof (made narrower and merged by program; the parts: Wn HP Zw Zx Jn Zy Eh).
-/
import Derived.Test.YtknmeggfokpbjaaGreatM32
import Derived.Test.YtknmeggfokpbjaaGreatM10
import Derived.Test.YtknmeggfokpbjaaGreatM4
import Derived.Test.YtknmeggfokpbjaaGreatM29
import Derived.Test.YtknmeggfokpbjaaGreatM28
import Derived.Test.YtknmeggfokpbjaaGreatM26
set_option maxRecDepth 100000
set_option maxHeartbeats 8000000
set_option linter.all false
namespace Go.Proofs.YtknmeggfokpbjaaGreat
open Z
open Go.RowKit Go.Proofs.Tryz
open Below renaming refl→Zb
open Lib renaming hid→Zf
open List renaming length_append→Zj,length_cons→Zk,length_nil→Zl,mem_of_getElem?→Zo,take_succ_cons→Zs
open Nat renaming le_refl→Zt,zero_add→Zv,zero_le→Zw
open Go.Proofs.Tryz renaming prog→Zx
open Value renaming int→Zz
open Go.RowKit
theorem P9{α:Type}(f:Nat→α→List It):∀(l:List α) (b k:Nat) (x:α),l[k]?=some x→YD f b (l.take (k+1))=YD f b (l.take k)++f (b+k) x
 | [],b,k,x,h=>by simp at h
 | y :: l,b,0,x,h=>by
  obtain rfl:y=x:=asN;simp[YD]
 | y :: l,b,k+1,x,h=>by
  have:=P9 f l (b+1) k x asN;rw[Zs,Zs,YD,YD,this,List.append_assoc,show b+1+k=b+(k+1) by omega]
theorem Oa{α:Type}(f:Nat→α→List It):∀(l:List α) (b k:Nat),(YD f b (l.take k)).length≤(YD f b l).length
 | [],b,k=>by simp
 | y :: l,b,0=>by simp[YD]
 | y :: l,b,k+1=>by
  have:=Oa f l (b+1) k;rw[Zs,YD,YD,Zj,Zj];omega
theorem ed{w U W:World}{v:Value}{l:List It}(h:XC U W v l)(hU:Below w.heap.size w U):XC w W v l :=
 ⟨hU.trans (h.below.mono hU.size),by
  obtain⟨hl,h2⟩:=h.own;refine⟨hl,?_⟩;rcases h2 with h2|⟨g,cap,cur,hv,hg,h3⟩
  ·exact .inl h2
  ·exact .inr ⟨g,cap,cur,hv,Nat.le_trans hU.size hg,h3⟩⟩
theorem dB(p:Pr)(w:World)(ZF:p.In w)(hz:p.sz≤1048576):Calls Zx 9 #[.agg #[.slice p.headers.p p.headers.l.length p.headers.cap,.slice p.metas.p p.metas.l.length p.metas.cap,.slice p.states.p p.states.l.length p.states.cap,.slice p.actions.p p.actions.l.length p.actions.cap,.slice p.tables.p p.tables.l.length p.tables.cap,.slice p.control.p p.control.l.length p.control.cap,.slice p.emit.p p.emit.l.length p.emit.cap]] w fun e w'=>∃v,e=.returned v∧XC w w' v (Yh p):=by
 have VR:=Zf ZF;have ZN:=Zf hz;clear ZF hz;go_enter func9,ntmps9;go_upto_region 1 with (fail)
 generalize TL:w.alloc _=U;have hU:=Zf (show Below w.heap.size w U from TL▸(Zb _ w).alloc (Zt _) _);have Pf:=Zf (show p.In U from by obtain⟨z,h⟩:=Yy hU.out;rw[h];exact VR.out.plus z);obtain⟨b,hb⟩:=ZB w.heap.size;have cpU:=Zf (show ∀j v,p.cells[j]?=some v→U.cell? ⟨b,j,none⟩=some v from fun j v hj=>by rw[←TL,←hb];exact (YI w _ _ _ j rfl).trans (by simpa [Pr.cells,Sl.v]using hj));rw[hb];clear hb TL VR;have hT:=Zf (show []++(e1 p++(e2 p++(e3 p++(e4 p++(e5 p++(e6 p++e7 p))))))=Yh p from rfl);have Xc:=Zf (FE U);go_wp2;obtain⟨n1,hn1⟩:=ZB p.headers.l.length;have hn1':=Zf hn1;have hl1':=Zf (show n1≤1048576 from by rw[←hn1];obtain⟨_,_,_,_,_,_⟩:=U4 ZN.out;assumption);have Tg:=Zf (show (([]:List It)++YD (fun a h=>Up a h.fields.l.length) 0 p.headers.l).length≤2097152 from by have h1:=S9 p ZN.out;rw[←hT.out]at h1;rw[Zj,Zj]at h1;rw[Zj];have h2:(YD (fun a h=>Up a h.fields.l.length) 0 p.headers.l).length=(e1 p).length:=rfl;omega);clear hn1;go_loopw [3,4] (fun ov iv wr=>∃k:Nat,k≤n1∧iv=.int .i64 (k:Int)∧XC U wr ov (([]:List It)++YD (fun a h=>Up a h.fields.l.length) 0 (p.headers.l.take k))) (fun _ iv _=>n1-(intOf iv).toNat)
 case atStart=>exact⟨0,Zw _,rfl,atu⟩
 case round =>
  obtain⟨k,hk,rfl,hI⟩:=hrel;by_cases ZC:k<n1
  ·obtain⟨x,hx⟩:=Yq p.headers.l k (by rw[hn1'.out];exact ZC)
   have ZV:=Zo hx;obtain⟨pa,hpa0,hc⟩:=Pf.out.headers.row k x hx;have Yw:=Zf hpa0;clear hpa0;have WT:=Zf (show ∀v1 w1 l1,XC U w1 v1 l1→w1.cell? ⟨b,0,none⟩=some p.headers.v∧Yg w1 (pa.add (k*2)) (Hr.cells x)∧∃z,w1=plus U z from fun v1 w1 l1 h1=>by obtain⟨z,rfl⟩:=h1.plus;exact⟨ZS (cpU.out 0 _ rfl) z,hc.plus z,z,rfl⟩);have he:=Zf (show ([]:List It)++YD (fun a h=>Up a h.fields.l.length) 0 (p.headers.l.take (k+1))=(([]:List It)++YD (fun a h=>Up a h.fields.l.length) 0 (p.headers.l.take k))++Up k x.fields.l.length from by rw[P9 (fun a h=>Up a h.fields.l.length) p.headers.l 0 k x hx,←List.append_assoc,Zv]);have hb0:((([]:List It)++YD (fun a h=>Up a h.fields.l.length) 0 (p.headers.l.take k))++Up k x.fields.l.length).length≤2097152:=by rw[←he.out];have h1:=Tg.out;have h2:=Oa (fun a h=>Up a h.fields.l.length) p.headers.l 0 (k+1);rw[Zj]at h1 ⊢;omega
   generalize ([]:List It)++YD (fun a h=>Up a h.fields.l.length) 0 (p.headers.l.take k)=Z at hI he hb0;simp only[Up,Zj,Zk,Ui]at hb0;obtain⟨g0,hc0,-⟩:=WT.out _ _ _ hI;simp only[Sl.v,hn1'.out,Yw.out]at g0;have Yi:=Zf hb0;have hI0:=Zf hI;have a6:=Zf (Y7 k n1 ZC hl1'.out);have hM6:=Zf (fun W=>Mf 2 k x.fields.l.length W atv);clear hI hc hb0 ZV hx;go_upto_region 6 with (first|(at_builtin;refine Qu hI0.out (.num 1 k 0) _ rfl rfl _ _ rfl rfl rfl asR ?_;intro v5 w5 h5;obtain⟨g5,hc5,hz5⟩:=WT.out _ _ _ h5;simp only[Sl.v,hn1'.out,Yw.out]at g5;have hz5':=Zf hz5;have TJ:=Zf h5;clear h5 hz5))
   clear g0;have y6:=hc5.cs 0 _ rfl;simp only[Sl.v]at y6;go_wp2_with (first|(go_at_call 24;with_reducible refine (hM6.out _).mono ?_;rintro e u6 ⟨r6,rfl,m6⟩;obtain⟨p6,c6,rfl,t6⟩:=m6.row;have t6':=Zf t6;have m6':=Zf (TJ.out.after m6.below);clear m6 t6)|(at_builtin;refine RM m6'.out (Wu 2 k x.fields.l.length) p6 _ c6 rfl t6'.out rfl _ _ rfl rfl rfl asR ?_;intro v6 w6 h6;have hI2:=Zf h6;clear h6));go_roundw
   case rel=>exact⟨k+1,ZC,congrArg (Zz .i64) a6.out,by rw[he.out];simpa [Up,List.append_assoc]using hI2.out⟩
   case measure=>exact Y9 k n1 ZC a6.out
  ·obtain rfl:k=n1:=by omega
   rw[List.take_of_length_le (by rw[hn1'.out];exact Zt _)]at hI;obtain⟨zz,hzz⟩:=hI.plus;have gx:wr.cell? ⟨b,0,none⟩=some p.headers.v:=by rw[hzz];exact ZS (cpU.out 0 _ rfl) zz
   simp only[Sl.v,hn1'.out]at gx;obtain⟨X2,XP⟩:=ZB (([]:List It)++YD (fun a h=>Up a h.fields.l.length) 0 p.headers.l);rw[XP]at hI;replace hT:=Zf (show X2++(e2 p++(e3 p++(e4 p++(e5 p++(e6 p++e7 p)))))=Yh p from atC);have Xc:=Zf hI;clear hI XP ZC hk Tg;clear hzz;go_wp2;clear gx;obtain⟨n2,SF⟩:=ZB p.metas.l.length;have hn2':=Zf SF;have hl2':=Zf (show n2≤1048576 from by rw[←SF];obtain⟨_,_,_,_,_,_⟩:=U4 ZN.out;assumption);have Tg:=Zf (show (X2++YD (fun a (_:Fd)=>[It.num 3 a 0]) 0 p.metas.l).length≤2097152 from by have h1:=S9 p ZN.out;rw[←hT.out]at h1;rw[Zj,Zj]at h1;rw[Zj];have h2:(YD (fun a (_:Fd)=>[It.num 3 a 0]) 0 p.metas.l).length=(e2 p).length:=rfl;omega);clear SF;go_loopw [3,5] (fun ov iv wr=>∃k:Nat,k≤n2∧iv=.int .i64 (k:Int)∧XC U wr ov (X2++YD (fun a (_:Fd)=>[It.num 3 a 0]) 0 (p.metas.l.take k))) (fun _ iv _=>n2-(intOf iv).toNat)
   case atStart=>exact⟨0,Zw _,rfl,atu⟩
   case round =>
    obtain⟨k,hk,rfl,hI⟩:=hrel;by_cases ZC:k<n2
    ·obtain⟨x,hx⟩:=Yq p.metas.l k (by rw[hn2'.out];exact ZC)
     have ZV:=Zo hx;obtain⟨pa,hpa0,hc⟩:=Pf.out.metas.row k x hx;have Yw:=Zf hpa0;clear hpa0;have WT:=Zf (show ∀v1 w1 l1,XC U w1 v1 l1→w1.cell? ⟨b,1,none⟩=some p.metas.v∧Yg w1 (pa.add (k*2)) (Fd.cells x)∧∃z,w1=plus U z from fun v1 w1 l1 h1=>by obtain⟨z,rfl⟩:=h1.plus;exact⟨ZS (cpU.out 1 _ rfl) z,hc.plus z,z,rfl⟩);have he:=Zf (show X2++YD (fun a (_:Fd)=>[It.num 3 a 0]) 0 (p.metas.l.take (k+1))=(X2++YD (fun a (_:Fd)=>[It.num 3 a 0]) 0 (p.metas.l.take k))++[It.num 3 k 0] from by rw[P9 (fun a (_:Fd)=>[It.num 3 a 0]) p.metas.l 0 k x hx,←List.append_assoc,Zv]);have hb0:((X2++YD (fun a (_:Fd)=>[It.num 3 a 0]) 0 (p.metas.l.take k))++[It.num 3 k 0]).length≤2097152:=by rw[←he.out];have h1:=Tg.out;have h2:=Oa (fun a (_:Fd)=>[It.num 3 a 0]) p.metas.l 0 (k+1);rw[Zj]at h1 ⊢;omega
     generalize X2++YD (fun a (_:Fd)=>[It.num 3 a 0]) 0 (p.metas.l.take k)=Z at hI he hb0;simp only[Zj,Zk,Zl]at hb0;obtain⟨g0,hc0,-⟩:=WT.out _ _ _ hI;simp only[Sl.v,hn2'.out,Yw.out]at g0;have Yi:=Zf hb0;have hI0:=Zf hI;have a6:=Zf (Y7 k n2 ZC hl2'.out);clear hI hc hb0 ZV hx;go_wp2_with (first|(at_builtin;refine Qu hI0.out (.num 3 k 0) _ rfl rfl _ _ rfl rfl rfl asR ?_;intro v10 w10 h10;have TJ:=Zf h10;clear h10));go_roundw
     case rel=>exact⟨k+1,ZC,congrArg (Zz .i64) a6.out,by rw[he.out];simpa [List.append_assoc]using TJ.out⟩
     case measure=>exact Y9 k n2 ZC a6.out
    ·obtain rfl:k=n2:=by omega
     rw[List.take_of_length_le (by rw[hn2'.out];exact Zt _)]at hI;obtain⟨zz,hzz⟩:=hI.plus;have gx:wr.cell? ⟨b,1,none⟩=some p.metas.v:=by rw[hzz];exact ZS (cpU.out 1 _ rfl) zz
     simp only[Sl.v,hn2'.out]at gx;obtain⟨X2,XP⟩:=ZB (X2++YD (fun a (_:Fd)=>[It.num 3 a 0]) 0 p.metas.l);rw[XP]at hI;replace hT:=Zf (show X2++(e3 p++(e4 p++(e5 p++(e6 p++e7 p))))=Yh p from atC);have Xc:=Zf hI;clear hI XP ZC hk Tg;clear hzz;go_wp2;clear gx;obtain⟨n3,hn3⟩:=ZB p.states.l.length;have Om:=Zf hn3;have hl3':=Zf (show n3≤1048576 from by rw[←hn3];obtain⟨_,_,_,_,_,_⟩:=U4 ZN.out;assumption);have Tg:=Zf (show (X2++YD (fun a s=>VN a s.takes.l.length s.cases.l.length) 0 p.states.l).length≤2097152 from by have h1:=S9 p ZN.out;rw[←hT.out]at h1;rw[Zj,Zj]at h1;rw[Zj];have h2:(YD (fun a s=>VN a s.takes.l.length s.cases.l.length) 0 p.states.l).length=(e3 p).length:=rfl;omega);clear hn3;go_loopw [3,6] (fun ov iv wr=>∃k:Nat,k≤n3∧iv=.int .i64 (k:Int)∧XC U wr ov (X2++YD (fun a s=>VN a s.takes.l.length s.cases.l.length) 0 (p.states.l.take k))) (fun _ iv _=>n3-(intOf iv).toNat)
     case atStart=>exact⟨0,Zw _,rfl,atu⟩
     case round =>
      obtain⟨k,hk,rfl,hI⟩:=hrel;by_cases ZC:k<n3
      ·obtain⟨x,hx⟩:=Yq p.states.l k (by rw[Om.out];exact ZC)
       have ZV:=Zo hx;obtain⟨pa,hpa0,hc⟩:=Pf.out.states.row k x hx;have Yw:=Zf hpa0;clear hpa0;have WT:=Zf (show ∀v1 w1 l1,XC U w1 v1 l1→w1.cell? ⟨b,2,none⟩=some p.states.v∧Yg w1 (pa.add (k*5)) (Sa.cells x)∧∃z,w1=plus U z from fun v1 w1 l1 h1=>by obtain⟨z,rfl⟩:=h1.plus;exact⟨ZS (cpU.out 2 _ rfl) z,hc.plus z,z,rfl⟩);have he:=Zf (show X2++YD (fun a s=>VN a s.takes.l.length s.cases.l.length) 0 (p.states.l.take (k+1))=(X2++YD (fun a s=>VN a s.takes.l.length s.cases.l.length) 0 (p.states.l.take k))++VN k x.takes.l.length x.cases.l.length from by rw[P9 (fun a s=>VN a s.takes.l.length s.cases.l.length) p.states.l 0 k x hx,←List.append_assoc,Zv]);have hb0:((X2++YD (fun a s=>VN a s.takes.l.length s.cases.l.length) 0 (p.states.l.take k))++VN k x.takes.l.length x.cases.l.length).length≤2097152:=by rw[←he.out];have h1:=Tg.out;have h2:=Oa (fun a s=>VN a s.takes.l.length s.cases.l.length) p.states.l 0 (k+1);rw[Zj]at h1 ⊢;omega
       generalize X2++YD (fun a s=>VN a s.takes.l.length s.cases.l.length) 0 (p.states.l.take k)=Z at hI he hb0;simp only[VN,Zj,Zk,Ui]at hb0;obtain⟨g0,hc0,-⟩:=WT.out _ _ _ hI;simp only[Sl.v,Om.out,Yw.out]at g0;have Yi:=Zf hb0;have hI0:=Zf hI;have a6:=Zf (Y7 k n3 ZC hl3'.out);have hM15:=Zf (fun W=>Mf 5 k x.takes.l.length W atv);have hM17:=Zf (fun W=>Mf 7 k x.cases.l.length W atv);clear hI hc hb0 ZV hx;go_upto_region 15 with (first|(at_builtin;refine Qu hI0.out (.num 4 k 0) _ rfl rfl _ _ rfl rfl rfl asR ?_;intro v14 w14 h14;obtain⟨g14,hc14,hz14⟩:=WT.out _ _ _ h14;simp only[Sl.v,Om.out,Yw.out]at g14;have hz14':=Zf hz14;have TJ:=Zf h14;clear h14 hz14))
       clear g0;have y15:=hc14.cs 0 _ rfl;simp only[Sl.v]at y15;go_upto_region 16 with (first|(go_at_call 24;with_reducible refine (hM15.out _).mono ?_;rintro e u15 ⟨r15,rfl,m15⟩;obtain⟨p15,c15,rfl,t15⟩:=m15.row;have t15':=Zf t15;have m15':=Zf (TJ.out.after m15.below);clear m15 t15)|(at_builtin;refine RM m15'.out (Wu 5 k x.takes.l.length) p15 _ c15 rfl t15'.out rfl _ _ rfl rfl rfl asR ?_;intro v15 w15 h15;obtain⟨g15,hc15,hz15⟩:=WT.out _ _ _ h15;simp only[Sl.v,Om.out,Yw.out]at g15;have hz15':=Zf hz15;have hI2:=Zf h15;clear h15 hz15))
       clear y15 g14;go_upto_region 17 with (first|(at_builtin;refine Qu hI2.out (.num 6 k 0) _ rfl rfl _ _ rfl rfl rfl asR ?_;intro v16 w16 h16;obtain⟨g16,hc16,hz16⟩:=WT.out _ _ _ h16;simp only[Sl.v,Om.out,Yw.out]at g16;have hz16':=Zf hz16;have hI3:=Zf h16;clear h16 hz16))
       clear g15;have y17:=hc16.cs 3 _ rfl;simp only[Sl.v]at y17;go_wp2_with (first|(go_at_call 24;with_reducible refine (hM17.out _).mono ?_;rintro e u17 ⟨r17,rfl,m17⟩;obtain⟨p17,c17,rfl,t17⟩:=m17.row;have t17':=Zf t17;have m17':=Zf (hI3.out.after m17.below);clear m17 t17)|(at_builtin;refine RM m17'.out (Wu 7 k x.cases.l.length) p17 _ c17 rfl t17'.out rfl _ _ rfl rfl rfl asR ?_;intro v17 w17 h17;have hI4:=Zf h17;clear h17));go_roundw
       case rel=>exact⟨k+1,ZC,congrArg (Zz .i64) a6.out,by rw[he.out];simpa [VN,List.append_assoc]using hI4.out⟩
       case measure=>exact Y9 k n3 ZC a6.out
      ·obtain rfl:k=n3:=by omega
       rw[List.take_of_length_le (by rw[Om.out];exact Zt _)]at hI;obtain⟨zz,hzz⟩:=hI.plus;have gx:wr.cell? ⟨b,2,none⟩=some p.states.v:=by rw[hzz];exact ZS (cpU.out 2 _ rfl) zz
       simp only[Sl.v,Om.out]at gx;obtain⟨X2,XP⟩:=ZB (X2++YD (fun a s=>VN a s.takes.l.length s.cases.l.length) 0 p.states.l);rw[XP]at hI;replace hT:=Zf (show X2++(e4 p++(e5 p++(e6 p++e7 p)))=Yh p from atC);have Xc:=Zf hI;clear hI XP ZC hk Tg;clear hzz;go_wp2;clear gx;obtain⟨n4,hn4⟩:=ZB p.actions.l.length;have NE:=Zf hn4;have hl4':=Zf (show n4≤1048576 from by rw[←hn4];obtain⟨_,_,_,_,_,_⟩:=U4 ZN.out;assumption);have Tg:=Zf (show (X2++YD Td 0 p.actions.l).length≤2097152 from by have h1:=S9 p ZN.out;rw[←hT.out]at h1;rw[Zj,Zj]at h1;rw[Zj];have h2:(YD Td 0 p.actions.l).length=(e4 p).length:=rfl;omega);clear hn4;go_loopw [3,7] (fun ov iv wr=>∃k:Nat,k≤n4∧iv=.int .i64 (k:Int)∧XC U wr ov (X2++YD Td 0 (p.actions.l.take k))) (fun _ iv _=>n4-(intOf iv).toNat)
       case atStart=>exact⟨0,Zw _,rfl,atu⟩
       case round =>
        obtain⟨k,hk,rfl,hI⟩:=hrel;by_cases ZC:k<n4
        ·obtain⟨x,hx⟩:=Yq p.actions.l k (by rw[NE.out];exact ZC)
         have ZV:=Zo hx;obtain⟨pa,hpa0,hc⟩:=Pf.out.actions.row k x hx;have Yw:=Zf hpa0;clear hpa0;have WT:=Zf (show ∀v1 w1 l1,XC U w1 v1 l1→w1.cell? ⟨b,3,none⟩=some p.actions.v∧Yg w1 (pa.add (k*3)) (Ac.cells x)∧∃z,w1=plus U z from fun v1 w1 l1 h1=>by obtain⟨z,rfl⟩:=h1.plus;exact⟨ZS (cpU.out 3 _ rfl) z,hc.plus z,z,rfl⟩);have he:=Zf (show X2++YD Td 0 (p.actions.l.take (k+1))=(X2++YD Td 0 (p.actions.l.take k))++Td k x from by rw[P9 Td p.actions.l 0 k x hx,←List.append_assoc,Zv]);have hb0:((X2++YD Td 0 (p.actions.l.take k))++Td k x).length≤2097152:=by rw[←he.out];have h1:=Tg.out;have h2:=Oa Td p.actions.l 0 (k+1);rw[Zj]at h1 ⊢;omega
         generalize X2++YD Td 0 (p.actions.l.take k)=Z at hI he hb0;simp only[Td,Zj,Zk,Ui]at hb0;obtain⟨g0,hc0,-⟩:=WT.out _ _ _ hI;simp only[Sl.v,NE.out,Yw.out]at g0;have Yi:=Zf hb0;have hI0:=Zf hI;have a6:=Zf (Y7 k n4 ZC hl4'.out);have hM22:=Zf (fun W=>Mf 9 k x.params.l.length W atv);have hS23:=Zf (show ∀W,(∃z,W=plus U z)→Calls Zx 25 #[.int .i64 (k:Int),.slice x.body.p x.body.l.length x.body.cap] W (fun e w'=>∃v,e=.returned v∧XC W w' v (St.encs (k:Int) x.body.l)) from fun W ⟨z,h⟩=>by subst h;exact yL x.body (k:Int) (plus U z) (((Pf.out.plus z).actions.kids x ZV).body) (by have:=YW Ac.sz p.actions.l x ZV;have:=ZN.out;unfold Pr.sz Ac.sz Sl.size at *;omega));clear hI hc hb0 ZV hx;go_upto_region 22 with (first|(at_builtin;refine Qu hI0.out (.num 8 k 0) _ rfl rfl _ _ rfl rfl rfl asR ?_;intro v21 w21 h21;obtain⟨g21,hc21,hz21⟩:=WT.out _ _ _ h21;simp only[Sl.v,NE.out,Yw.out]at g21;have hz21':=Zf hz21;have TJ:=Zf h21;clear h21 hz21))
         clear g0;have y22:=hc21.cs 0 _ rfl;simp only[Sl.v]at y22;go_upto_region 23 with (first|(go_at_call 24;with_reducible refine (hM22.out _).mono ?_;rintro e u22 ⟨r22,rfl,m22⟩;obtain⟨p22,c22,rfl,t22⟩:=m22.row;have t22':=Zf t22;have m22':=Zf (TJ.out.after m22.below);clear m22 t22)|(at_builtin;refine RM m22'.out (Wu 9 k x.params.l.length) p22 _ c22 rfl t22'.out rfl _ _ rfl rfl rfl asR ?_;intro v22 w22 h22;obtain⟨g22,hc22,hz22⟩:=WT.out _ _ _ h22;simp only[Sl.v,NE.out,Yw.out]at g22;have hz22':=Zf hz22;have hI2:=Zf h22;clear h22 hz22))
         clear y22 g21;have y23:=hc22.cs 1 _ rfl;simp only[Sl.v]at y23;go_wp2_with (first|(go_at_call 25;with_reducible refine (hS23.out _ hz22'.out).mono ?_;rintro e u23 ⟨r23,rfl,m23⟩;obtain⟨p23,c23,rfl,t23⟩:=m23.row;have t23':=Zf t23;have m23':=Zf (hI2.out.after m23.below);clear m23 t23)|(at_builtin;refine RM m23'.out (St.encs (k:Int) x.body.l) p23 _ c23 rfl t23'.out rfl _ _ rfl rfl rfl asR ?_;intro v23 w23 h23;have hI3:=Zf h23;clear h23));go_roundw
         case rel=>exact⟨k+1,ZC,congrArg (Zz .i64) a6.out,by rw[he.out];simpa [Td,List.append_assoc]using hI3.out⟩
         case measure=>exact Y9 k n4 ZC a6.out
        ·obtain rfl:k=n4:=by omega
         rw[List.take_of_length_le (by rw[NE.out];exact Zt _)]at hI;obtain⟨zz,hzz⟩:=hI.plus;have gx:wr.cell? ⟨b,3,none⟩=some p.actions.v:=by rw[hzz];exact ZS (cpU.out 3 _ rfl) zz
         simp only[Sl.v,NE.out]at gx;obtain⟨X2,XP⟩:=ZB (X2++YD Td 0 p.actions.l);rw[XP]at hI;replace hT:=Zf (show X2++(e5 p++(e6 p++e7 p))=Yh p from atC);have Xc:=Zf hI;clear hI XP ZC hk Tg;clear hzz;go_wp2;clear gx;obtain⟨n5,hn5⟩:=ZB p.tables.l.length;have Oo:=Zf hn5;have hl5':=Zf (show n5≤1048576 from by rw[←hn5];obtain⟨_,_,_,_,_,_⟩:=U4 ZN.out;assumption);have Tg:=Zf (show (X2++YD (fun a x=>VG a x.keys.l.length x.actions.l.length) 0 p.tables.l).length≤2097152 from by have h1:=S9 p ZN.out;rw[←hT.out]at h1;rw[Zj,Zj]at h1;rw[Zj];have h2:(YD (fun a x=>VG a x.keys.l.length x.actions.l.length) 0 p.tables.l).length=(e5 p).length:=rfl;omega);clear hn5;go_loopw [3,8] (fun ov iv wr=>∃k:Nat,k≤n5∧iv=.int .i64 (k:Int)∧XC U wr ov (X2++YD (fun a x=>VG a x.keys.l.length x.actions.l.length) 0 (p.tables.l.take k))) (fun _ iv _=>n5-(intOf iv).toNat)
         case atStart=>exact⟨0,Zw _,rfl,atu⟩
         case round =>
          obtain⟨k,hk,rfl,hI⟩:=hrel;by_cases ZC:k<n5
          ·obtain⟨x,hx⟩:=Yq p.tables.l k (by rw[Oo.out];exact ZC)
           have ZV:=Zo hx;obtain⟨pa,hpa0,hc⟩:=Pf.out.tables.row k x hx;have Yw:=Zf hpa0;clear hpa0;have WT:=Zf (show ∀v1 w1 l1,XC U w1 v1 l1→w1.cell? ⟨b,4,none⟩=some p.tables.v∧Yg w1 (pa.add (k*5)) (Ta.cells x)∧∃z,w1=plus U z from fun v1 w1 l1 h1=>by obtain⟨z,rfl⟩:=h1.plus;exact⟨ZS (cpU.out 4 _ rfl) z,hc.plus z,z,rfl⟩);have he:=Zf (show X2++YD (fun a x=>VG a x.keys.l.length x.actions.l.length) 0 (p.tables.l.take (k+1))=(X2++YD (fun a x=>VG a x.keys.l.length x.actions.l.length) 0 (p.tables.l.take k))++VG k x.keys.l.length x.actions.l.length from by rw[P9 (fun a x=>VG a x.keys.l.length x.actions.l.length) p.tables.l 0 k x hx,←List.append_assoc,Zv]);have hb0:((X2++YD (fun a x=>VG a x.keys.l.length x.actions.l.length) 0 (p.tables.l.take k))++VG k x.keys.l.length x.actions.l.length).length≤2097152:=by rw[←he.out];have h1:=Tg.out;have h2:=Oa (fun a x=>VG a x.keys.l.length x.actions.l.length) p.tables.l 0 (k+1);rw[Zj]at h1 ⊢;omega
           generalize X2++YD (fun a x=>VG a x.keys.l.length x.actions.l.length) 0 (p.tables.l.take k)=Z at hI he hb0;simp only[VG,Zj,Zk,Zl,Ui]at hb0;obtain⟨g0,hc0,-⟩:=WT.out _ _ _ hI;simp only[Sl.v,Oo.out,Yw.out]at g0;have Yi:=Zf hb0;have hI0:=Zf hI;have a6:=Zf (Y7 k n5 ZC hl5'.out);have hM28:=Zf (fun W=>Mf 12 k x.keys.l.length W atv);have hM29:=Zf (fun W=>Mf 13 k x.actions.l.length W atv);clear hI hc hb0 ZV hx;go_upto_region 28 with (first|(at_builtin;refine Qu hI0.out (.num 11 k 0) _ rfl rfl _ _ rfl rfl rfl asR ?_;intro v27 w27 h27;obtain⟨g27,hc27,hz27⟩:=WT.out _ _ _ h27;simp only[Sl.v,Oo.out,Yw.out]at g27;have hz27':=Zf hz27;have TJ:=Zf h27;clear h27 hz27))
           clear g0;have y28:=hc27.cs 0 _ rfl;simp only[Sl.v]at y28;go_upto_region 29 with (first|(go_at_call 24;with_reducible refine (hM28.out _).mono ?_;rintro e u28 ⟨r28,rfl,m28⟩;obtain⟨p28,c28,rfl,t28⟩:=m28.row;have t28':=Zf t28;have m28':=Zf (TJ.out.after m28.below);clear m28 t28)|(at_builtin;refine RM m28'.out (Wu 12 k x.keys.l.length) p28 _ c28 rfl t28'.out rfl _ _ rfl rfl rfl asR ?_;intro v28 w28 h28;obtain⟨g28,hc28,hz28⟩:=WT.out _ _ _ h28;simp only[Sl.v,Oo.out,Yw.out]at g28;have hz28':=Zf hz28;have hI2:=Zf h28;clear h28 hz28))
           clear y28 g27;have y29:=hc28.cs 1 _ rfl;simp only[Sl.v]at y29;go_upto_region 30 with (first|(go_at_call 24;with_reducible refine (hM29.out _).mono ?_;rintro e u29 ⟨r29,rfl,m29⟩;obtain⟨p29,c29,rfl,t29⟩:=m29.row;have t29':=Zf t29;have m29':=Zf (hI2.out.after m29.below);clear m29 t29)|(at_builtin;refine RM m29'.out (Wu 13 k x.actions.l.length) p29 _ c29 rfl t29'.out rfl _ _ rfl rfl rfl asR ?_;intro v29 w29 h29;obtain⟨g29,hc29,hz29⟩:=WT.out _ _ _ h29;simp only[Sl.v,Oo.out,Yw.out]at g29;have hz29':=Zf hz29;have hI3:=Zf h29;clear h29 hz29))
           clear y29 g28;go_wp2_with (first|(at_builtin;refine Qu hI3.out (.num 14 k 0) _ rfl rfl _ _ rfl rfl rfl asR ?_;intro v30 w30 h30;have hI4:=Zf h30;clear h30));go_roundw
           case rel=>exact⟨k+1,ZC,congrArg (Zz .i64) a6.out,by rw[he.out];simpa [VG,List.append_assoc]using hI4.out⟩
           case measure=>exact Y9 k n5 ZC a6.out
          ·obtain rfl:k=n5:=by omega
           rw[List.take_of_length_le (by rw[Oo.out];exact Zt _)]at hI;obtain⟨zz,hzz⟩:=hI.plus;have gx:wr.cell? ⟨b,4,none⟩=some p.tables.v:=by rw[hzz];exact ZS (cpU.out 4 _ rfl) zz
           simp only[Sl.v,Oo.out]at gx;have g5:wr.cell? ⟨b,5,none⟩=some p.control.v:=by rw[hzz];exact ZS (cpU.out 5 _ rfl) zz
           simp only[Sl.v]at g5;have hS31:=Zf (show Calls Zx 25 #[.int .i64 (-1),.slice p.control.p p.control.l.length p.control.cap] wr (fun e w'=>∃v,e=.returned v∧XC wr w' v (St.encs (-1) p.control.l)) from by rw[hzz];exact yL p.control (-1) (plus U zz) (Pf.out.plus zz).control (by have:=ZN.out;unfold Pr.sz at this;omega));obtain⟨X2,XP⟩:=ZB (X2++YD (fun a x=>VG a x.keys.l.length x.actions.l.length) 0 p.tables.l);rw[XP]at hI;have hT2:=Zf (show X2++(e6 p++e7 p)=Yh p from atC);have hb2:=Zf (show X2.length+(St.encs (-1) p.control.l).length≤2097152 from by have h1:=S9 p ZN.out;rw[←hT2.out,Zj,Zj]at h1;have h2:(St.encs (-1) p.control.l).length=(e6 p).length:=rfl;omega);have hJ:=Zf hI;clear hI XP hT hzz ZC hk Tg;go_upto_region 32 with (first|(go_at_call 25;with_reducible refine hS31.out.mono ?_;rintro e u31 ⟨r31,rfl,m31⟩;obtain⟨p31,c31,rfl,t31⟩:=m31.row;have t31':=Zf t31;have m31':=Zf (hJ.out.after m31.below);clear m31 t31)|(at_builtin;refine RM m31'.out (St.encs (-1) p.control.l) p31 _ c31 rfl t31'.out rfl _ _ rfl rfl rfl (by have:=hb2.out;omega) ?_;intro v31 w31 h31;have Xc:=Zf h31;clear h31))
           clear g5 gx;have hT:=Zf (show (X2++St.encs (-1) p.control.l)++(e7 p++[])=Yh p from by rw[List.append_nil,List.append_assoc];exact hT2.out);obtain⟨X3,Rd⟩:=ZB (X2++St.encs (-1) p.control.l);rw[Rd]at hT Xc;clear Rd;obtain⟨zz,hzz⟩:=Xc.out.plus;clear hzz;go_wp2;obtain⟨n6,hn6⟩:=ZB p.emit.l.length;have hn6':=Zf hn6;have hl6':=Zf (show n6≤1048576 from by rw[←hn6];obtain⟨_,_,_,_,_,_⟩:=U4 ZN.out;assumption);have Tg:=Zf (show (X3++YD (fun a (_:ByteArray)=>[It.num 15 a 0]) 0 p.emit.l).length≤2097152 from by have h1:=S9 p ZN.out;rw[←hT.out]at h1;rw[Zj,Zj]at h1;rw[Zj];have h2:(YD (fun a (_:ByteArray)=>[It.num 15 a 0]) 0 p.emit.l).length=(e7 p).length:=rfl;omega);clear hn6;go_loopw [3,9] (fun ov iv wr=>∃k:Nat,k≤n6∧iv=.int .i64 (k:Int)∧XC U wr ov (X3++YD (fun a (_:ByteArray)=>[It.num 15 a 0]) 0 (p.emit.l.take k))) (fun _ iv _=>n6-(intOf iv).toNat)
           case atStart=>exact⟨0,Zw _,rfl,atu⟩
           case round =>
            obtain⟨k,hk,rfl,hI⟩:=hrel;by_cases ZC:k<n6
            ·obtain⟨x,hx⟩:=Yq p.emit.l k (by rw[hn6'.out];exact ZC)
             have ZV:=Zo hx;obtain⟨pa,hpa0,hc⟩:=Pf.out.emit.row k x hx;have Yw:=Zf hpa0;clear hpa0;have WT:=Zf (show ∀v1 w1 l1,XC U w1 v1 l1→w1.cell? ⟨b,6,none⟩=some p.emit.v∧Yg w1 (pa.add (k*1)) (V1 x)∧∃z,w1=plus U z from fun v1 w1 l1 h1=>by obtain⟨z,rfl⟩:=h1.plus;exact⟨ZS (cpU.out 6 _ rfl) z,hc.plus z,z,rfl⟩);have he:=Zf (show X3++YD (fun a (_:ByteArray)=>[It.num 15 a 0]) 0 (p.emit.l.take (k+1))=(X3++YD (fun a (_:ByteArray)=>[It.num 15 a 0]) 0 (p.emit.l.take k))++[It.num 15 k 0] from by rw[P9 (fun a (_:ByteArray)=>[It.num 15 a 0]) p.emit.l 0 k x hx,←List.append_assoc,Zv]);have hb0:((X3++YD (fun a (_:ByteArray)=>[It.num 15 a 0]) 0 (p.emit.l.take k))++[It.num 15 k 0]).length≤2097152:=by rw[←he.out];have h1:=Tg.out;have h2:=Oa (fun a (_:ByteArray)=>[It.num 15 a 0]) p.emit.l 0 (k+1);rw[Zj]at h1 ⊢;omega
             generalize X3++YD (fun a (_:ByteArray)=>[It.num 15 a 0]) 0 (p.emit.l.take k)=Z at hI he hb0;simp only[Zj,Zk,Zl]at hb0;obtain⟨g0,hc0,-⟩:=WT.out _ _ _ hI;simp only[Sl.v,hn6'.out,Yw.out]at g0;have Yi:=Zf hb0;have hI0:=Zf hI;have a6:=Zf (Y7 k n6 ZC hl6'.out);clear hI hc hb0 ZV hx;go_wp2_with (first|(at_builtin;refine Qu hI0.out (.num 15 k 0) _ rfl rfl _ _ rfl rfl rfl asR ?_;intro v35 w35 h35;have TJ:=Zf h35;clear h35));go_roundw
             case rel=>exact⟨k+1,ZC,congrArg (Zz .i64) a6.out,by rw[he.out];simpa [List.append_assoc]using TJ.out⟩
             case measure=>exact Y9 k n6 ZC a6.out
            ·obtain rfl:k=n6:=by omega
             rw[List.take_of_length_le (by rw[hn6'.out];exact Zt _)]at hI;obtain⟨zz,hzz⟩:=hI.plus;have gx:wr.cell? ⟨b,6,none⟩=some p.emit.v:=by rw[hzz];exact ZS (cpU.out 6 _ rfl) zz
             simp only[Sl.v,hn6'.out]at gx;have hfin:=Zf (show XC U wr _ (Yh p) from by rw[←hT.out,List.append_nil];exact hI);clear hI ZC hk Tg hzz;go_wp2;go_ret;exact⟨_,rfl,ed hfin.out hU.out⟩
mutual
/-- How many items statements have. -/
def St.it:St→Nat
 | .mk _ _ _ _ _ _ thn _ _ els=>1+(St.its thn+St.its els)
def St.its:List St→Nat
 | []=>0
 | s :: l=>s.it+St.its l
end
def St.more(s:St):Nat:=St.its s.thn+St.its s.els
open Go.RowKit Go.Shelf
open Go.RowKit Go.Shelf
attribute [local go_sem] Oper.semAt_some
open Go.RowKit Go.Shelf
attribute [local go_sem] Oper.semAt_some
theorem FK(p:Pr):(#[.agg #[.slice p.headers.p p.headers.l.length p.headers.cap,.slice p.metas.p p.metas.l.length p.metas.cap,.slice p.states.p p.states.l.length p.states.cap,.slice p.actions.p p.actions.l.length p.actions.cap,.slice p.tables.p p.tables.l.length p.tables.cap,.slice p.control.p p.control.l.length p.control.cap,.slice p.emit.p p.emit.l.length p.emit.cap]]:Array Value)=#[.agg p.cells.toArray]:=rfl
abbrev Ci(P:Program)(V:World)(f:FuncId)(args:Array Value)(v:Value):Prop:=∀W,(∃z,W=plus V z)→Calls P f args W fun e w'=>e=.returned v∧∃x,w'=plus W x
theorem nV{P:Program}{V:World}{f:FuncId}{args:Array Value}{v:Value}(h:Wo P V f args v):Calls P f args V fun e w'=>e=.returned v∧∃x,w'=plus V x:=by
 exact Cb
theorem Cq(p:Pr)(V:World)(ZF:p.In V)(hz:p.sz≤1048576):Ci Zx V 5 #[.agg p.cells.toArray] (.bool (decide (6000<p.sz))):=fun W ⟨z,h⟩=>by
 subst h;exact nV (dJ p (plus V z) (ZF.plus z) hz)
open Go.RowKit Go.Shelf
theorem ni{P:Program}{V X:World}{zX:ZH}{f:FuncId}{args:Array Value}{v:Value}(h:Ci P V f args v)(hz:X=plus V zX)(y:ZH):Calls P f args (plus X y) fun e w'=>e=.returned v∧∃x,w'=plus X x :=
 (h (plus X y) ⟨_,by rw[hz,ZD]⟩).mono fun e w' ⟨he,x,hx⟩=>⟨he,_,hx.trans (ZD _ _ _)⟩
theorem zH(X:World)(y:ZH):Calls Zx 6 #[] (plus X y) fun e w'=>e=.returned (.bool true)∧∃x,w'=plus X x :=
 (jM (plus X y)).mono fun e w' ⟨he,x,hx⟩=>⟨he,_,hx.trans (ZD _ _ _)⟩
end Go.Proofs.YtknmeggfokpbjaaGreat
