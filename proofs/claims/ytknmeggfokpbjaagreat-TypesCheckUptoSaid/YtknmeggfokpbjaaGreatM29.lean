/-
  WHAT IS PROVED HERE: a part of the proof (made narrower and merged by program; the parts: Zv Dc Di Dj Dx Dy).
-/
import Derived.Test.YtknmeggfokpbjaaGreatM27
import Derived.Test.YtknmeggfokpbjaaGreatM28
import Derived.Test.YtknmeggfokpbjaaGreatM10
set_option maxRecDepth 100000
set_option maxHeartbeats 8000000
set_option linter.all false
namespace Go.Proofs.YtknmeggfokpbjaaGreat
open Z
open Go.RowKit Go.Proofs.Tryz
open AllReadyH renaming cons→Za
open Bool renaming and_eq_true→Zc
open Ending renaming returned→Zd
open Lib renaming hid→Zf
open List renaming drop_succ_cons→Zg,drop_zero→Zh,getElem?_eq_some_iff→Zi,length_cons→Zk,map_cons→Zm,mem_append→Zn,mem_of_getElem?→Zo,setIfInBounds_toArray→Zp,set_cons_succ→Zq,set_cons_zero→Zr,take_succ_cons→Zs
open Nat renaming le_refl→Zt,zero_add→Zv,zero_le→Zw
open Go.Proofs.Tryz renaming prog→Zx
open Value renaming bool→Zy,int→Zz
open World renaming cell?_setCell_other→ZA
open Go.RowKit Go.Shelf
theorem zZ{α:Type}(f:Nat→α→List It):∀(l:List α) (b i:Nat) (x:α) (z:It),l[i]?=some x→z∈f (b+i) x→z∈YD f b l
 | [],_,i,_,_,h,_=>by simp at h
 | y :: l,b,0,x,z,h,hz=>by
  obtain rfl:y=x:=asN;exact List.mem_append_left _ hz
 | y :: l,b,i+1,x,z,h,hz=>List.mem_append_right _ (zZ f l (b+1) i x z asN (by rw[show b+1+i=b+(i+1) by omega];exact hz))
theorem Ea(p:Pr):∀(l:List It) (n:Nat),(Tm p l n).2=0→(∀z∈l,Yu p z=0)∧(Tm p l n).1=n+l.length
 | [],n,_=>⟨fun z h=>asT,rfl⟩
 | x :: l,n,h=>by
  by_cases e:Yu p x=0
  ·rw[Tm,if_pos e]at h ⊢
   obtain⟨h1,h2⟩:=Ea p l (n+1) h;refine⟨fun z hz=>?_,by rw[h2,Zk];omega⟩;rcases List.mem_cons.1 hz with rfl|hz
   ·exact e
   ·exact h1 z hz
  ·rw[Tm,if_neg e]at h
   exact absurd h e
section
variable {p:Pr} (Xs:∀z∈Yh p,Yu p z=0)
include Xs
omit Xs in
theorem Fr{i:Nat}{x:Ta}(hx:p.tables.l[i]?=some x){z:It}(hz:z∈VG i x.keys.l.length x.actions.l.length):z∈Yh p :=
 List.mem_append_right _ (List.mem_append_right _ (List.mem_append_right _ (List.mem_append_right _ (List.mem_append_left _ (zZ _ _ 0 i x _ hx (by rw[Zv];exact hz))))))
theorem fj{i:Nat}{x:Ta}(hx:p.tables.l[i]?=some x):Tp p.tables.l x.name=(i:Int)∧XD p.actions.l x.dflt.name≠-1:=by
 refine⟨?_,?_⟩
 ·have h:=Xs (.num 11 i 0) (Fr hx (List.mem_cons_self ..))
  have hv:Yu p (.num 11 i 0)=if Tp p.tables.l x.name=(i:Int) then 0 else 8:=as3;rw[hv]at h;split at h
  ·assumption
  ·cases h
 ·have h:=Xs (.num 14 i 0) (Fr hx (by simp[VG]))
  obtain⟨w,hw⟩:=ZB (match p.actions.l[(XD p.actions.l x.dflt.name).toNat]? with|some z=>z.params.l.length|none=>0);have hv:Yu p (.num 14 i 0)=SU x.actions.l x.dflt.name x.dflt.args.l.length w:=by rw[←hw];simp[Yu,Wm,hx];rfl
  rw[hv]at h;unfold SU at h;split at h
  ·cases h
  ·next hn =>
   obtain⟨b,y,hb,hy⟩:=H8 (fun y:ByteArray=>y.toList==x.dflt.name.toList) x.actions.l 0 hn;have ZC:=(Zi.1 hb).1;have q:=Xs (.num 13 i b) (Fr hx (List.mem_cons_of_mem _ (List.mem_append_right _ (List.mem_append_left _ (Zo (JM 13 i _ b ZC))))));have hv:Yu p (.num 13 i b)=if XD p.actions.l y=-1 then 7 else if XT x.actions.l y=(b:Int) then 0 else 8:=by simp[Yu,Wm,hx,hb]
   exact te
end
theorem FA(a:Int):∀(n:Nat) (l:List St),St.mayB n l=true→∀z∈St.encs a l,∃s,z=.st a s∧s.one=true
 | 0,l,h,z,hz=>by
  rw[St.mayB]at h;obtain rfl:=List.length_eq_zero_iff.1 (show l.length=0 by have:(l.length:Int)=0:=asN;omega);rw[St.encs]at hz;cases hz
 | n+1,l,h,z,hz=>by
  rw[St.mayB]at h;have Xs:=Uo h;rw[St.encs_fl a _ 0]at hz;obtain⟨i,x,hx,Vx⟩:=WM _ z _ 0 hz;have hm:=Xs x (Zo hx);simp only[Zc]at hm;obtain⟨h1,h2,h3⟩:=hm;rw[St.enc_eq]at Vx;rcases List.mem_cons.1 Vx with rfl|Vx
  ·exact⟨x,rfl,h1⟩
  rcases Zn.1 Vx with Vx|Vx
  ·exact FA a n _ h2 z Vx
  ·exact FA a n _ h3 z Vx
theorem gD(p:Pr)(hB:Vr p=true)(a:Int)(s:St)(h:It.st a s∈Yh p):s.one=true:=by
 unfold Vr at hB;simp only[Zc]at hB;obtain⟨-,-,-,h4,-,h6,-⟩:=hB;have key:∀(b:Int) (n:Nat) (l:List St),St.mayB n l=true→It.st a s∈St.encs b l→s.one=true:=fun b n l hl hm=>by
  obtain⟨s2,e,h⟩:=FA b n l hl _ hm;injection e with _ e2
  rw[e2];exact h
 unfold Yh at h;rcases Zn.1 h with h|h
 ·obtain⟨i,x,hx,hm⟩:=WM _ _ _ 0 h
  exact tW
 rcases Zn.1 h with h|h
 ·obtain⟨i,x,hx,hm⟩:=WM _ _ _ 0 h
  cases List.mem_singleton.1 hm
 rcases Zn.1 h with h|h
 ·obtain⟨i,x,hx,hm⟩:=WM _ _ _ 0 h
  rcases List.mem_cons.1 hm with hm|hm
  ·cases hm
  rcases Zn.1 hm with hm|hm
  ·obtain⟨j,_,e⟩:=UY hm;cases e
  exact tW
 rcases Zn.1 h with h|h
 ·obtain⟨i,x,hx,hm⟩:=WM _ _ _ 0 h
  rcases List.mem_cons.1 hm with hm|hm
  ·cases hm
  rcases Zn.1 hm with hm|hm
  ·obtain⟨j,_,e⟩:=UY hm;cases e
  ·have TS:=Uo h4 x (Zo hx)
   unfold Tr at TS;simp only[Zc]at TS;exact key _ 8 _ TS.2.2 hm
 rcases Zn.1 h with h|h
 ·obtain⟨i,x,hx,hm⟩:=WM _ _ _ 0 h
  rcases List.mem_cons.1 hm with hm|hm
  ·cases hm
  rcases Zn.1 hm with hm|hm
  ·obtain⟨j,_,e⟩:=UY hm;cases e
  rcases Zn.1 hm with hm|hm
  ·obtain⟨j,_,e⟩:=UY hm;cases e
  ·cases List.mem_singleton.1 hm
 rcases Zn.1 h with h|h
 ·exact key _ 8 _ h6 h
 ·obtain⟨i,x,hx,hm⟩:=WM _ _ _ 0 h
  cases List.mem_singleton.1 hm
inductive Qh (p:Pr):It→Prop where
 | next (a:Nat) (s:Sa) (hs:p.states.l[a]?=some s) (hk:∀k∈s.keys.l,k.may 16=true):Qh p (.num 6 a 0)
 | case_ (a b:Nat) (s:Sa) (c:Ca) (hs:p.states.l[a]?=some s) (hc:s.cases.l[b]?=some c) (hl:c.sets.l.length≤s.keys.l.length):Qh p (.num 7 a b)
 | key (a b:Nat) (t:Ta) (k:Ke) (ht:p.tables.l[a]?=some t) (hk:t.keys.l[b]?=some k) (hm:k.e.may 16=true):Qh p (.num 12 a b)
 | dflt (a k:Nat) (t:Ta) (x:Ac) (ht:p.tables.l[a]?=some t) (hn:XD p.actions.l t.dflt.name=(k:Int)) (hx:p.actions.l[k]?=some x) (hl:t.dflt.args.l.length=x.params.l.length):Qh p (.num 14 a 0)
 | stmt (a:Int) (s:St) (hm:s.kind=1∨s.kind=2∨s.kind=5→s.e.may 16=true) (ht:s.kind=1→Sn p s.head s.name≠-1) (h0:¬(s.kind=1∨s.kind=2∨s.kind=5)→s.e.op=0):Qh p (.st a s)
 | other (k:Int) (a b:Nat) (h:k≠6∧k≠7∧k≠10∧k≠12∧k≠14):Qh p (.num k a b)
theorem yg(p:Pr)(w:World)(ZF:p.In w)(hz:p.sz≤1048576)(hB:Vr p=true)(Xs:∀z∈Yh p,Yu p z=0):∀z∈Yh p,Qh p z:=by
 intro z hm;have XI:=hB;unfold Vr at XI;simp only[Zc]at XI;obtain⟨-,-,h3,-,h5,-,-⟩:=XI;have Vp:∀(a:Nat) (s:Sa),p.states.l[a]?=some s→(∀k∈s.keys.l,k.may 16=true)∧∀c∈s.cases.l,c.sets.l.length≤s.keys.l.length:=fun a s hs=>by
  have h:=Uo h3 s (Zo hs);unfold VZ Py at h;simp only[Zc]at h;obtain⟨-,-,h⟩:=h;split at h
  ·simp only[Zc]at h
   refine⟨fun k hk=>Uo h.1 k hk,fun c hc=>?_⟩;have q:=Uo h.2 c hc;unfold Vm at q;simp only[Zc]at q;have q2:=M0 q.2;unfold Nr at q2;split at q2 <;> omega
  ·simp only[Zc,beq_iff_eq]at h
   obtain⟨-,ZL,ZT⟩:=h;have e1:s.keys.l=[]:=List.length_eq_zero_iff.1 asB;have e2:s.cases.l=[]:=List.length_eq_zero_iff.1 asB;exact⟨fun k hk=>(by rw[e1]at hk;cases hk),fun c hc=>(by rw[e2]at hc;cases hc)⟩
 have hw:=Xs z hm;have VS:=PZ p w ZF hz z hm;cases VS with
 | header a x hx=>exact .other _ _ _ asE
 | field a b x y hx hy=>exact .other _ _ _ asE
 | mta a x hx=>exact .other _ _ _ asE
 | state a x hx=>exact .other _ _ _ asE
 | take a b x y hx hy=>exact .other _ _ _ asE
 | next a x hx=>exact .next a x hx (Vp a x hx).1
 | case_ a b x y hx hy=>exact .case_ a b x y hx hy ((Vp a x hx).2 y (Zo hy))
 | action a x hx=>exact .other _ _ _ asE
 | param a b x y hx hy=>exact .other _ _ _ asE
 | table a x hx=>exact .other _ _ _ asE
 | key a b x y hx hy =>
  have h:=Uo h5 x (Zo hx);unfold Tn at h;simp only[Zc]at h;have q:=Uo h.2.1 y (Zo hy);unfold SL at q;simp only[Zc]at q;exact .key a b x y hx hy q.2.2
 | listed a b x y hx hy=>exact .other _ _ _ asE
 | dflt a x hx =>
  obtain⟨k,y,hk,hy⟩:=Kt (fj Xs hx).2;refine .dflt a k x y hx hk hy ?_;have hv:Yu p (.num 14 a 0)=SU x.actions.l x.dflt.name x.dflt.args.l.length y.params.l.length:=by simp[Yu,Wm,hx,hk,hy]
  rw[hv]at hw;unfold SU at hw;split at hw
  ·cases hw
  split at hw
  ·cases hw
  split at hw
  ·cases hw
  ·omega
 | emit a x hx=>exact .other _ _ _ asE
 | stmt a s hs YB =>
  have h1:=gD p hB a s hm;unfold St.one at h1;simp only[Zc]at h1;obtain⟨-,-,h1⟩:=h1;have hv:Yu p (.st a s)=PE p a s.kind s.head s.name (if s.e.there (YP p a) then 0 else 7):=rfl;rw[hv]at hw;have ht:TX s.kind=true↔(s.kind=1∨s.kind=2∨s.kind=5):=by simp[TX,or_assoc]
  refine .stmt a s (fun h=>?_) (fun h=>?_) (fun h=>?_)
  ·rw[if_pos (ht.2 h)]at h1
   exact h1
  ·unfold PE at hw
   rw[if_pos h]at hw;intro e;rw[if_pos e]at hw;cases hw
  ·rw[if_neg (fun q=>h (ht.1 q))]at h1
   rw[Ex.same_eq]at h1;simp only[Zc]at h1;have h2:=h1.1;unfold Ex.top at h2;simp only[Zc,beq_iff_eq]at h2;exact h2.1.1.1.1.1
structure MN (W:World) (cb:Nat) (p:Pr) (kv:Value):Prop where
 cells:∀j v,p.cells[j]?=some v→W.cell? ⟨cb,j,none⟩=some v
 keys:W.cell? ⟨cb,7,none⟩=some kv
theorem MN.plus{W:World}{cb:Nat}{p:Pr}{kv:Value}(h:MN W cb p kv)(x:ZH):MN (Go.Proofs.YtknmeggfokpbjaaGreat.plus W x) cb p kv:=⟨fun j v hj=>ZS (h.cells j v hj) x,ZS h.keys x⟩
def NI(i:Int):List Value:=[.int .i64 i]
theorem az(cb:Nat)(c:Ca)(ws:List Int)(kp)(kc:Nat)(w:World)(hc:c.In w)(hz:c.sz≤1048576)(hl:c.sets.l.length≤ws.length)(hk:w.cell? ⟨cb,7,none⟩=some (.slice kp ws.length kc))(hr:Xa w 1 NI kp ws) :
  Yr Zx w 35 #[.pointer (some ⟨cb,0,none⟩),.agg c.cells.toArray] (Yl (V7 (TW c.sets.l ws)) (.tuple #[])):=by
 intro y0;have RG:=hc.sets.row.plus y0;have WU:∀x∈c.sets.l,x.v.Ok∧x.m.Ok:=fun x hx=>⟨(hc.sets.kids x hx).v,(hc.sets.kids x hx).m⟩;have hk:=ZS hk y0;have hr:=hr.plus y0;obtain⟨V,hV⟩:=ZB (plus w y0);rw[hV]at RG hk hr ⊢;clear hV hc;have hn:c.sets.l.length≤1048576:=Xk Se.sz (fun _=>Zt _) c.sets (by unfold Ca.sz at hz;omega);obtain⟨dfl,⟨sp,scap,sl⟩,cto⟩:=c;simp only at RG WU hl hn ⊢;simp only[Ca.cells,Sl.v];have SG:=Ed sl ws;have V9:=fun (k:Nat) (x:Se) (v:Int) (h1:sl[k]?=some x) (h2:ws[k]?=some v)=>Ec sl ws k x v h1 h2;obtain⟨n,hnn⟩:=ZB sl.length;obtain⟨kn,Ua⟩:=ZB ws.length;rw[hnn]at hn hl SG;rw[Ua]at hk hl;rw[hnn];have ZO:=Zf hn;have Yt:=Zf hl;have TA:=Zf hnn;have NC:=Zf Ua;have KT:=Zf RG;have hlit':=Zf WU;have SD:=Zf hk;have XV:=Zf hr;have hat':=Zf V9;have hsl':=Zf SG;clear hn hl hnn Ua RG WU hk hr V9 SG hz;go_enter func35,ntmps35;go_upto_region 1 with (fail)
 obtain⟨X,Y0,hX,⟨zX,ZE⟩,ca⟩:=YO V _ 70;rw[hX];have b1:=ca 1 _ rfl;have hz:=Zf ZE;clear hX ca ZE;go_wp2;go_loopw [4,5,9] (fun _ _ iv wr=>∃k:Nat,k≤n∧iv=.int .i64 (k:Int)∧(∃z,wr=plus V z)∧∀j y,j<k→(TW sl ws)[j]?=some y→y=0) (fun _ _ iv _=>n-(intOf iv).toNat)
 case atStart=>exact⟨0,Zw _,rfl,⟨_,atB⟩,fun j y h=>absurd h (Nat.not_lt_zero j)⟩
 case round =>
  obtain⟨k,hk,rfl,⟨z,hzr⟩,hJ⟩:=hrel;by_cases ZC:k<n
  ·obtain⟨x,hx⟩:=Yq sl k atR
   have hlk:=Yt.out;obtain⟨v,hv⟩:=Yq ws k (by rw[NC.out];omega);obtain⟨pa,rfl,YZ⟩:=KT.out k x hx;obtain⟨ka,rfl,hck⟩:=XV.out k v hv;have Vw:=hat'.out k x v hx hv;obtain⟨ok1,ok2⟩:=hlit'.out x (Zo hx);have l1:=Zf (fun W=>Es x.v v W ok1);have l2:=Zf (fun W=>Es x.m v W ok2);clear ok1 ok2;have Yx:Yg wr (pa.add (k*7)) x.cells:=by rw[hzr];exact YZ.plus z
   have d0:=Yx.c0 _ rfl;have d1:=Yx.cs 0 _ rfl;have d2:=Yx.cs 1 _ rfl;have d3:=Yx.cs 2 _ rfl;have d4:=Yx.cs 3 _ rfl;have d5:=Yx.cs 4 _ rfl;have d6:=Yx.cs 5 _ rfl;have a6:=Zf (Y7 k n ZC ZO.out);have hkr:∀y,(plus wr y).cell? ⟨cb,7,none⟩=some (.slice (some ka) kn kc):=fun y=>by rw[hzr,ZD];exact ZS SD.out _
   have hkv:∀y,(plus wr y).cell? (ka.add k)=some (.int .i64 v):=fun y=>by
    have q:=hck.c0 _ rfl;rw[Nat.mul_one]at q;rw[hzr,ZD];exact ZS q _
   have RJ:=Zf hzr;have Tv:=Zf hJ;have Vf:=Zf Vw;clear Yx YZ hck hx hv hzr hJ Vw;go_upto_region 4 with (fail)
   obtain⟨X2,Y2,XP,⟨Xt,ZG⟩,cc⟩:=YO wr _ 162;rw[XP];have s1:=cc 1 _ rfl;have s2:=cc 2 _ rfl;have s3:=cc 3 _ rfl;have s4:=cc 4 _ rfl;have s5:=cc 5 _ rfl;have s6:=cc 6 _ rfl;have Yp:∀y,(plus X2 y).cell? ⟨cb,7,none⟩=some (.slice (some ka) kn kc):=fun y=>by rw[ZG,ZD];exact hkr _
   have hv2:∀y,(plus X2 y).cell? (ka.add k)=some (.int .i64 v):=fun y=>by rw[ZG,ZD];exact hkv _
   have hzX2:=Zf ZG;clear XP cc ZG hkr hkv d0 d1 d2 d3 d4 d5 d6;have Sg:¬((k:Int)<0):=asB;have Ub:(k:Int)<(kn:Int):=asB;have hpast:∀x1,∃z,plus X2 x1=plus V z:=fun x1=>by rw[hzX2.out,RJ.out,ZD,ZD];exact⟨_,rfl⟩
   have QU:=Zf hpast;clear hpast;obtain⟨xk,⟨v1,v2,v3⟩,⟨m1,m2,m3⟩⟩:=x;simp only[Lt.cells]at l1 l2;simp only[Se.cells,List.getElem?_toArray,List.getElem?_cons_succ,List.getElem?_cons_zero]at s1 s2 s3 s4 s5 s6;obtain⟨r1,hr1⟩:=ZB (Wg ⟨v1,v2,v3⟩ v);obtain⟨r2,TB⟩:=ZB (Wg ⟨m1,m2,m3⟩ v);simp only[hr1,TB]at l1 l2 Vf;clear hr1 TB;refine Wj 9 asC asC ?_;open Z renaming aff→NM in exact Ms
  ·obtain rfl:k=n:=by omega
   have VW:V7 (TW sl ws)=0:=P0 _ fun j y hj=>hJ j y (by have:=(Zi.1 hj).1;have:=hsl'.out;omega) hj;exact tZ
theorem aD(cb:Nat)(p:Pr)(kv:Value)(x:Cl)(k:Nat)(a:Ac)(w:World)(ZF:p.In w)(hz:p.sz≤1048576)(hC:MN w cb p kv)(hx:x.In w)(hn:XD p.actions.l x.name=(k:Int))(ha:p.actions.l[k]?=some a)(hl:x.args.l.length≤a.params.l.length)(hs:x.args.l.length≤1048576) :
  Yr Zx w 38 #[.pointer (some ⟨cb,0,none⟩),.agg x.cells.toArray] (Yl (V7 (Ts x.args.l a.params.l)) (.tuple #[])):=by
 intro y0;have kA:=(JO p w ZF hz x.name).up y0;rw[hn]at kA;have hC:=hC.plus y0;have Pd:=hx.args.row.plus y0;have WU:=hx.args.kids;obtain⟨pa,Yw,hca⟩:=ZF.actions.row k a ha;have hca:=hca.plus y0;have hpar:=(ZF.actions.kids a (Zo ha)).params.row.plus y0;have hkl:=(Zi.1 ha).1;obtain⟨V,hV⟩:=ZB (plus w y0);rw[hV]at kA hC Pd hca hpar ⊢;clear hV ZF hz hx hn ha;have C0:=hC.cells 0 _ rfl;have C1:=hC.cells 1 _ rfl;have C2:=hC.cells 2 _ rfl;have C3:=hC.cells 3 _ rfl;have C4:=hC.cells 4 _ rfl;have C5:=hC.cells 5 _ rfl;have C6:=hC.cells 6 _ rfl;clear hC;obtain⟨⟨p0,Ym,l0⟩,⟨p1,ZL,l1⟩,⟨p2,ZT,l2⟩,⟨p3,Ys,l3⟩,⟨p4,YQ,l4⟩,⟨p5,WF,l5⟩,⟨p6,Vz,l6⟩⟩:=p;simp only[Sl.v]at C0 C1 C2 C3 C4 C5 C6 kA Yw hkl;subst Yw;open Z renaming akt→AU in exact uY
theorem jk(cb:Nat)(p0 n0 Ym p1 n1 ZL p2 n2 ZT p3 n3 Ys p4 n4 YQ p5 n5 WF p6 n6 Vz)(l:List Ke)(lp:Option Addr)(lc b:Nat)(k:Ke)(R:Int)(t:Ty)(w:World)(C0:w.cell? ⟨cb,0,none⟩=some (.slice p0 n0 Ym))(C1:w.cell? ⟨cb,1,none⟩=some (.slice p1 n1 ZL))(C2:w.cell? ⟨cb,2,none⟩=some (.slice p2 n2 ZT))(C3:w.cell? ⟨cb,3,none⟩=some (.slice p3 n3 Ys))(C4:w.cell? ⟨cb,4,none⟩=some (.slice p4 n4 YQ))(C5:w.cell? ⟨cb,5,none⟩=some (.slice p5 n5 WF))(C6:w.cell? ⟨cb,6,none⟩=some (.slice p6 n6 Vz))(hr:Xa w 10 Ke.cells lp l)(hlc:l.length≤lc)(hn:l.length≤1048576)(hk:l[b]?=some k)(kt:Yr Zx w 28 #[.agg #[.slice p0 n0 Ym,.slice p1 n1 ZL,.slice p2 n2 ZT,.slice p3 n3 Ys,.slice p4 n4 YQ,.slice p5 n5 WF,.slice p6 n6 Vz,.int .i64 (-1)],k.e.val] (Yl R t.v)) :
  Yr Zx w 37 #[.pointer (some ⟨cb,0,none⟩),.slice lp l.length lc,.int .i64 (b:Int)]
   (Yl (if (if R=0 then Yz t else R)=0 then (if k.kind=2 then (if (l.take b).all fun y=>decide (y.kind≠2) then 0 else 8) else 0) else (if R=0 then Yz t else R)) (.tuple #[])):=by
 intro y0;open Z renaming ami→zo in exact tX
def Ww(W:World)(cb:Nat)(p:Pr)(kv:Value):Prop:=W.heap[cb]?=some (.cells (p.cells++[kv]).toArray 81 (0,0))
theorem Ww.at{W:World}{cb:Nat}{p:Pr}{kv:Value}(h:Ww W cb p kv):MN W cb p kv :=
 ⟨fun j v hj=>YX h (by have ZC:=(Zi.1 hj).1;rw[List.getElem?_toArray,List.getElem?_append_left ZC];exact hj),YX h (by simp[Pr.cells])⟩
theorem Ww.plus{W:World}{cb:Nat}{p:Pr}{kv:Value}(h:Ww W cb p kv)(x:ZH):Ww (Go.Proofs.YtknmeggfokpbjaaGreat.plus W x) cb p kv:=UN h x
theorem Ww.alloc{W:World}{cb:Nat}{p:Pr}{kv:Value}(h:Ww W cb p kv)(o:Obj):Ww (W.alloc o) cb p kv:=(Below.heap_alloc W o cb (Array.getElem?_eq_some_iff.1 h).1).trans h
theorem Ww.set{W:World}{cb:Nat}{p:Pr}{kv:Value}(h:Ww W cb p kv)(v:Value):Ww (W.setCell ⟨cb,7,none⟩ v) cb p v:=Ga [v] (p.cells++[kv]) W 7 h
theorem Ww.lt{W:World}{cb:Nat}{p:Pr}{kv:Value}(h:Ww W cb p kv):cb<W.heap.size:=(Array.getElem?_eq_some_iff.1 h).1
theorem Ww.frozen{W:World}{cb:Nat}{p:Pr}{kv:Value}(h:Ww W cb p kv)(o:Nat):W.frozen? ⟨cb,o,none⟩=false:=frozen_of_row W cb o _ _ h
structure SN (cb eb:Nat) (v0 v1 v2 v3 v4 v5 v6:Value) (u0 u1 u2 u3 u4 u5 u6 u7 u8:Value) (W:World):Prop where
 c0:W.cell? ⟨cb,0,none⟩=some v0
 c1:W.cell? ⟨cb,1,none⟩=some v1
 c2:W.cell? ⟨cb,2,none⟩=some v2
 c3:W.cell? ⟨cb,3,none⟩=some v3
 c4:W.cell? ⟨cb,4,none⟩=some v4
 c5:W.cell? ⟨cb,5,none⟩=some v5
 c6:W.cell? ⟨cb,6,none⟩=some v6
 e0:W.cell? ⟨eb,0,none⟩=some u0
 e1:W.cell? ⟨eb,1,none⟩=some u1
 e2:W.cell? ⟨eb,2,none⟩=some u2
 e3:W.cell? ⟨eb,3,none⟩=some u3
 e4:W.cell? ⟨eb,4,none⟩=some u4
 e5:W.cell? ⟨eb,5,none⟩=some u5
 e6:W.cell? ⟨eb,6,none⟩=some u6
 e7:W.cell? ⟨eb,7,none⟩=some u7
 e8:W.cell? ⟨eb,8,none⟩=some u8
theorem SN.keep{cb eb:Nat}{v0 v1 v2 v3 v4 v5 v6 u0 u1 u2 u3 u4 u5 u6 u7 u8:Value}{W W':World}(h:SN cb eb v0 v1 v2 v3 v4 v5 v6 u0 u1 u2 u3 u4 u5 u6 u7 u8 W)(hk:∀j v,j<7→W.cell? ⟨cb,j,none⟩=some v→W'.cell? ⟨cb,j,none⟩=some v)(he:∀j v,W.cell? ⟨eb,j,none⟩=some v→W'.cell? ⟨eb,j,none⟩=some v):SN cb eb v0 v1 v2 v3 v4 v5 v6 u0 u1 u2 u3 u4 u5 u6 u7 u8 W' :=
 ⟨hk 0 _ asE h.c0,hk 1 _ asE h.c1,hk 2 _ asE h.c2,hk 3 _ asE h.c3,hk 4 _ asE h.c4,hk 5 _ asE h.c5,hk 6 _ asE h.c6,he 0 _ h.e0,he 1 _ h.e1,he 2 _ h.e2,he 3 _ h.e3,he 4 _ h.e4,he 5 _ h.e5,he 6 _ h.e6,he 7 _ h.e7,he 8 _ h.e8⟩
theorem SN.plus{cb eb:Nat}{v0 v1 v2 v3 v4 v5 v6 u0 u1 u2 u3 u4 u5 u6 u7 u8:Value}{W:World}(h:SN cb eb v0 v1 v2 v3 v4 v5 v6 u0 u1 u2 u3 u4 u5 u6 u7 u8 W)(x:ZH):SN cb eb v0 v1 v2 v3 v4 v5 v6 u0 u1 u2 u3 u4 u5 u6 u7 u8 (Go.Proofs.YtknmeggfokpbjaaGreat.plus W x):=h.keep (fun _ _ _ q=>ZS q x) (fun _ _ q=>ZS q x)
theorem Kq.shrink{cb:Nat}{V W:World}(h:Kq (fun b=>b=cb∨V.heap.size≤b) V W):Kq (fun b=>b=cb) V W :=
 ⟨h.size,fun a v n hv=>h.cell a v (fun q=>by
  rcases q with q|q
  ·exact n q
  ·have:=World.block_lt_of_cell? V a hv;omega) hv,fun B hb hs=>h.low B hb (fun b q=>by
  rcases q with q|q
  ·exact hs b q
  ·omega)⟩
theorem KU:(Zx.info? 3).map (fun i=>(i.zero,i.size,i.bytes))=some (some (.int .i64 0),1,8):=asC
theorem aJ(w0 V:World)(p:Pr)(s:Sa)(cb:Nat)(kv0:Value)(hV:∃z,V=plus w0 z)(Tw:w0.heap.size≤cb)(ZF:p.In w0)(hz:p.sz≤1048576)(hW:U8 p)(hs:s.In w0)(YB:s.sz≤1048576)(hm:∀k∈s.keys.l,k.may 16=true)(hB:Ww V cb p kv0)(Post:Ending→World→Prop)(hP0:(∀(j:Nat) (x:Ex),s.keys.l[j]?=some x→VA p x=0)→∀w' kv,(∃z,w'=plus w0 z)→Kq (fun b=>b=cb) V w'→Ww w' cb p kv→w'.ownsRow V.heap.size 3 1 kv s.keys.l.length ((((s.keys.l.map (UW p))).map NI).flatten)→Post (.returned (.tuple #[])) w')(hPk:∀(k:Nat) (x:Ex),s.keys.l[k]?=some x→(∀(j:Nat) (y:Ex),j<k→s.keys.l[j]?=some y→VA p y=0)→VA p x≠0→∀w',(∃z,w'=plus w0 z)→Kq (fun b=>b=cb) V w'→Post (YJ (VA p x)) w') :
  Calls Zx 34 #[.pointer (some ⟨cb,0,none⟩),.agg s.cells.toArray] V Post:=by
 have hkt:=fun (W:World) (hWz:∃z,W=plus w0 z) (x:Ex) (hx:x∈s.keys.l)=>(Mj p hz hW (-1) x 16 W (hm x hx) (by obtain⟨z,rfl⟩:=hWz;exact ZF.plus z) (by obtain⟨z,rfl⟩:=hWz;exact (hs.keys.kids x hx).plus z) (by
  have h1:=YW Ex.wt s.keys.l x hx;unfold Sa.sz Sl.size at YB;omega))
 have hn:s.keys.l.length≤1048576:=by
  have:=XM Ex.wt (fun e=>by have:=Ex.wt_eq e;omega) s.keys.l;unfold Sa.sz Sl.size at YB;omega
 have Yj:=hs.keys.row;have V9:=fun W kv (h:Ww W cb p kv)=>Ww.at h;obtain⟨sn,⟨tkp,tkc,tkl⟩,sto,⟨kyp,kyc,kyl⟩,⟨csp,csc,csl⟩⟩:=s;simp only at hkt hn Yj hP0 hPk hm;simp only[Sa.cells,Sl.v];obtain⟨tkn,htk⟩:=ZB tkl.length;obtain⟨csn,VK⟩:=ZB csl.length;obtain⟨n,hnn⟩:=ZB kyl.length;rw[htk,VK,hnn];rw[hnn]at hn hP0;have hkt':=Zf hkt;have ZO:=Zf hn;have TA:=Zf hnn;have Wf:=Zf Yj;have hP0':=Zf hP0;have hPk':=Zf hPk;have hV':=Zf hV;have hcb':=Zf Tw;clear hkt hn hnn Yj hP0 hPk hs YB ZF hz hW hm htk VK hV Tw;go_enter func34,ntmps34;have B1:=hB.alloc (.cells #[.string sn,.slice tkp tkn tkc,.string sto,.slice kyp n kyc,.slice csp csn csc] 61);obtain⟨X,hX⟩:=ZB (V.alloc (.cells #[.string sn,.slice tkp tkn tkc,.string sto,.slice kyp n kyc,.slice csp csn csc] 61));rw[hX]at B1;have UA:=B1.at.keys;have f7:=B1.frozen 7;have Re:X.heap[V.heap.size]?=some (.cells #[.string sn,.slice tkp tkn tkc,.string sto,.slice kyp n kyc,.slice csp csn csc] 61 (0,0)):=by rw[←hX];exact World.alloc_heap_new V _
 have SA:Kq (fun b=>b=cb) V X:=by rw[←hX];exact Kq.alloc _ V _
 obtain⟨X1,T9⟩:=ZB (X.setCell ⟨cb,7,none⟩ (.slice none 0 0));have B2:=B1.set (.slice none 0 0);have hq1:Kq (fun b=>b=cb) V X1:=by rw[←T9];exact SA.trans (Kq.setCell X ⟨cb,7,none⟩ _ rfl)
 have Ue:∃z,X1=plus w0 z:=by
  obtain⟨z,hz⟩:=hV'.out;refine Yy (Below.trans (b:=V) (by rw[hz];exact Xl w0 z) ?_);have hVs:w0.heap.size≤V.heap.size:=by rw[hz];exact XZ w0 z
  exact hq1.low _ hVs (fun b h=>by have:=hcb'.out;omega)
 have hVX:V.heap.size≤X1.heap.size:=hq1.size;have hs3:X1.cell? ⟨V.heap.size,3,none⟩=some (.slice kyp n kyc):=by
  rw[←T9];have YN:V.heap.size≠cb:=by have:=hB.lt;omega
  exact (World.cell?_setCell_far X ⟨cb,7,none⟩ ⟨V.heap.size,3,none⟩ _ (fun e=>YN e.symm)).trans (YX Re rfl)
 rw[T9]at B2;have HB:=Zf B2;have HQ:=Zf hq1;have HZ:=Zf Ue;have HX:=Zf hVX;have Hlt:=Zf hB.lt;clear B1 B2 hq1 Ue hVX Re SA hB;go_wp2_with (first|(rw[hX])|(rw[T9]));clear hs3 UA f7 hX T9 V9;have HN:=Zf (World.ownsRow_nil X1 V.heap.size 3 1);go_loopw [5,12] (fun _ iv wr=>∃k:Nat,k≤n∧iv=.int .i64 (k:Int)∧(∃z,wr=plus w0 z)∧Kq (fun b=>b=cb) V wr∧∃kv:Value,Ww wr cb p kv∧wr.ownsRow V.heap.size 3 1 kv k ((((kyl.take k).map (UW p)).map NI).flatten)∧∀(j:Nat) (x:Ex),j<k→kyl[j]?=some x→VA p x=0) (fun _ iv _=>n-(intOf iv).toNat)
 case atStart=>exact⟨0,Zw _,rfl,HZ.out,HQ.out,.slice none 0 0,HB.out,by simpa using HN.out,fun j x h=>absurd h (Nat.not_lt_zero j)⟩
 case round =>
  obtain⟨k,hk,rfl,hzr,hqr,kv,hBr,hOr,hJ⟩:=hrel;by_cases ZC:k<n
  ·obtain⟨x,hx⟩:=Yq kyl k atR
   obtain⟨pa,rfl,YZ⟩:=Wf.out k x hx;have Yx:Yg wr (pa.add (k*9)) x.cells:=by obtain⟨z,hz⟩:=hzr;rw[hz];exact YZ.plus z
   open Z renaming ag7→Gv in exact EZ
  ·obtain rfl:k=n:=by omega
   have RJ:=Zf hzr;have hqr':=Zf hqr;have hBr':=Zf hBr;have hOr':=Zf hOr;have Tv:=Zf hJ;clear hzr hqr hBr hOr hJ;go_wp2;refine bodyPost_end (results_none rfl _ _ _) rfl ?_;refine hP0'.out (fun j x hj=>Tv.out j x (by have:=(Zi.1 hj).1;rw[TA.out]at this;exact this) hj) _ kv RJ.out hqr'.out hBr'.out ?_;have q:=hOr'.out;rwa [List.take_of_length_le (by rw[TA.out];exact Zt _)]at q
end Go.Proofs.YtknmeggfokpbjaaGreat
