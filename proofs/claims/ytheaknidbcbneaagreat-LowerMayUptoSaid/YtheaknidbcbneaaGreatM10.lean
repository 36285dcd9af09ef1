/-
  WHAT IS PROVED HERE: a part of the proof (made narrower and merged by program; the parts: Loo Lot).
-/
import Derived.Test.YtheaknidbcbneaaGreatM9
import Derived.Test.YtheaknidbcbneaaGreatM6
set_option maxRecDepth 100000
set_option maxHeartbeats 8000000
set_option linter.all false
namespace Go.Proofs.YtheaknidbcbneaaGreat
open Go.RowKit Go.Proofs.Tryz
open Below renaming refl→Zc
open Bool renaming true_and→Ze
open Lib renaming hid→Zg
open List renaming drop_of_length_le→Zh,getElem?_eq_getElem→Zi,getElem?_eq_some_iff→Zj,mem_cons_self→Zk,mem_of_getElem?→Zl
open Nat renaming le_refl→Zp,zero_le→Zq
open Go.Proofs.Tryz renaming prog→Zr
open Value renaming bool→Zs,int→Zt
open Go.RowKit
theorem U4(l:List Int)(w:Int):(!(l.any fun x=>x !=w))=l.all fun x=>x==w:=by
 induction l with
 | nil=>rfl
 | cons a l ih=>rw[List.any_cons,List.all_cons,←ih,Bool.not_or];cases h:a==w <;> simp[bne,h]
theorem Qm(l:List (Sl Int))(s:Sl Int)(h:s∈l):s.l.length≤(l.map (Xk YL)).sum:=by
 have h1:=We (Xk YL) l s h;have h2:=Yw YL (fun _=>Zp _) s.l;unfold Xk Sl.size at h1 ⊢;omega
theorem Qa{w:World}{A:Sl Int}(hA:A.In w 1 (Z8 .i64) (Yg .i64))(h:A.l.length=1):∃ta x,A.p=some ta∧A.l=[x]∧ZG w ta [.int .i64 x]:=by
 obtain⟨x,hx⟩:∃x,A.l=[x]:=List.length_eq_one_iff.1 h;obtain⟨a,ha,hc⟩:=hA.row 0 x (by rw[hx];rfl);exact⟨a,x,ha,hx,by simpa [Z8,Addr.add_zero']using hc⟩
theorem Rt{w:World}{A:Sl Int}(hA:A.In w 1 (Z8 .i64) (Yg .i64))(h:A.l.length=2):∃ta x y,A.p=some ta∧A.l=[x,y]∧ZG w ta [.int .i64 x,.int .i64 y]:=by
 obtain⟨x,y,hx⟩:∃x y,A.l=[x,y]:=match A.l,h with|[x,y],_=>⟨x,y,rfl⟩
 obtain⟨a,ha,hc⟩:=hA.row 0 x (by rw[hx];rfl);obtain⟨b,hb,hd⟩:=hA.row 1 y (by rw[hx];rfl);rw[ha]at hb;obtain rfl:=Option.some.inj hb;refine⟨a,x,y,ha,hx,fun j v hj=>?_⟩;match j,hj with
 | 0,hj=>exact (by simpa [Z8,Addr.add_zero']using hc:ZG w a [.int .i64 x]) 0 v (by simpa using hj)
 | 1,hj =>
  have hd:=hd 0 v (by simpa [Z8]using hj);rw[Addr.add_zero']at hd;simpa using hd
theorem QB(z:Int)(h:0≤z)(k:z≤1000):wrap64 z=z:=by
 unfold wrap64;omega
theorem NG(F:Bool)(na nb nw x vh vl:Int)(E:Xf)(hx:1≤x∧x≤128):(decide (na<x)&&(decide (nb≤na)&&(decide (0≤nb)&&nw==wrap64 (wrap64 (na-nb)+1))))=YZ E F ⟨9,nw,na,nb,⟨vh,vl⟩⟩ [x]:=by
 simp only[YZ];by_cases h:na<x∧nb≤na∧0≤nb
 ·rw[QB (na-nb) (by omega) (by omega),QB (na-nb+1) (by omega) (by omega)]
  simp
 ·by_cases h1:na<x
  ·by_cases h2:nb≤na
   ·have h3:¬0≤nb:=fun c=>h ⟨h1,h2,c⟩
    simp[h1,h2,h3]
   ·simp[h2]
  ·simp[h1]
theorem NW(l:List At)(n:Int):∃a:At,TP l n=.agg #[a.params.v,a.body.v]∧a.params.l=(if 0≤n∧n<(l.length:Int) then (match l[n.toNat]? with|some a=>a.params.l|none=>[]) else [])∧(a.params=⟨none,0,[]⟩∨a∈l):=by
 unfold TP;by_cases h:0≤n∧n<(l.length:Int)
 ·have hl:n.toNat<l.length:=by omega
  refine⟨l[n.toNat],?_,?_,.inr (List.getElem_mem hl)⟩
  ·rw[if_pos h,Zi hl]
  ·rw[if_pos h,Zi hl]
 ·refine⟨⟨⟨none,0,[]⟩,⟨none,0,[]⟩⟩,?_,?_,.inl rfl⟩
  ·rw[if_neg h];rfl
  ·rw[if_neg h]
theorem NB(l:List At)(a:At)(h:a∈l):a.params.l.length≤(l.map At.sz).sum:=by
 have h1:=We At.sz l a h;have h2:=Yw YL (fun _=>Zp _) a.params.l;have h3:a.params.size YL≤a.sz:=by unfold At.sz;omega
 unfold Sl.size at h3;omega
theorem Kz(p:Pg)(mr:Nat)(act)(n:Nd)(A:Sl Int)(w:World)(hp:p.In w)(hz:p.sz≤1048576)(hn:n.In)(hA:A.In w 1 (Z8 .i64) (Yg .i64))(hl:A.l.length≤1048576)(YA:(A.l.length:Int)=Xi n.op)(hop:1≤n.op∧n.op≤20)(hb:∀x∈A.l,1≤x∧x≤128) :
  Kp Zr w 40 #[X0 p mr,.int .i64 act,n.val,A.v] (.bool (YZ (p.env act) n.fit n A.l)):=by
 have hm:p.metas.l.length≤1048576:=by
  have:=Yw YL (fun _=>Zp _) p.metas.l;unfold Pg.sz Sl.size at hz;omega
 have hh:p.heads.l.length≤1048576:=by
  have:=Yw (Xk YL) (fun _=>by unfold Xk;omega) p.heads.l;unfold Pg.sz Sl.size at hz;omega
 have hc:n.op=1∨n.op=2∨n.op=3∨n.op=4∨n.op=5∨n.op=6∨n.op=7∨n.op=8∨n.op=9∨n.op=10∨n.op=11∨n.op=12∨n.op=13∨n.op=14∨n.op=15∨n.op=16∨n.op=17∨n.op=18∨n.op=19∨n.op=20:=by omega
 have Xg:=KO n hn w;generalize n.fit=F at Xg ⊢;obtain⟨op,nw,na,nb,⟨vh,vl⟩⟩:=n;simp only at hc YA Xg;rcases hc with rfl|rfl|rfl|rfl|rfl|rfl|rfl|rfl|rfl|rfl|rfl|rfl|rfl|rfl|rfl|rfl|rfl|rfl|rfl|rfl
 ·exact (Kd _ _ _ _ _ _ _ _ _ _ _ _ _ _ _ _ _ _ _ _ _ _ _ _ _ _ _ _ _ _ _ _ _ _ _ _ _ _ _ _ _ _ _ _ _ _ F w Xg).eqv (by simp[YZ])
 ·obtain⟨s,e1,e2,e3⟩:=QS p.heads.l na
  have h0:=PF p.heads na _ w hp.heads hh;rw[e1]at h0;have hs:s.In w 1 (Z8 .i64) (Yg .i64):=by rcases e3 with rfl|e3;exact R9 w;exact hp.heads.kids s e3
  have hsl:s.l.length≤1048576:=by rcases e3 with rfl|e3;exact Zq _;have:=Qm _ s e3;unfold Pg.sz Sl.size at hz;omega
  exact (Kq _ _ _ _ _ _ _ _ _ _ _ _ _ _ _ _ _ _ _ _ _ _ _ _ _ _ _ _ _ _ _ _ _ _ _ _ _ _ _ _ _ _ _ _ _ _ s.p s.l.length s.cap (Xb s.l nb) w h0 (RX s nb _ w hs hsl)).eqv (by rw[e2];simp[YZ,Pv])
 ·exact (Ks _ _ _ _ _ _ _ _ _ _ _ _ _ _ _ _ _ _ _ _ _ _ _ _ _ _ _ _ _ _ _ _ _ _ _ _ _ _ _ _ _ _ _ _ _ _ (Xb p.metas.l na) w (RX p.metas na _ w hp.metas hm)).eqv (by simp[YZ,Pg.env])
 ·obtain⟨s,e1,e2,e3⟩:=NW p.acts.l act
  have ha:p.acts.l.length≤1048576:=by have:=Yw At.sz (fun x=>by unfold At.sz;omega) p.acts.l;unfold Pg.sz Sl.size at hz;omega
  have h0:=KE p.acts act _ w hp.acts ha;rw[e1]at h0;have hs:s.params.In w 1 (Z8 .i64) (Yg .i64):=by rcases e3 with e3|e3;exact e3▸R9 w;exact (hp.acts.kids s e3).params
  have hsl:s.params.l.length≤1048576:=by rcases e3 with e3|e3;rw[e3];exact Zq _;have:=NB _ s e3;unfold Pg.sz Sl.size at hz;omega
  exact (Kt _ _ _ _ _ _ _ _ _ _ _ _ _ _ _ _ _ _ _ _ _ _ _ _ _ _ _ _ _ _ _ _ _ _ _ _ _ _ _ _ _ _ _ _ _ _ s.params.p s.body.p s.params.l.length s.params.cap s.body.l.length s.body.cap (Xb s.params.l na) w h0 (RX s.params na _ w hs hsl)).eqv (by rw[e2];rfl)
 ·exact (Ku _ _ _ _ _ _ _ _ _ _ _ _ _ _ _ _ _ _ _ _ _ _ _ _ _ _ _ _ _ _ _ _ _ _ _ _ _ _ _ _ _ _ _ _ _ _ w).eqv (by simp[YZ])
 ·exact (Kv _ _ _ _ _ _ _ _ _ _ _ _ _ _ _ _ _ _ _ _ _ _ _ _ _ _ _ _ _ _ _ _ _ _ _ _ _ _ _ _ _ _ _ _ _ _ (decide (0≤na)&&decide (na<(p.heads.l.length:Int))) w (SH na p.heads.p p.heads.l.length p.heads.cap w)).eqv (by simp[YZ,Pg.env])
 ·exact (Kw _ _ _ _ _ _ _ _ _ _ _ _ _ _ _ _ _ _ _ _ _ _ _ _ _ _ _ _ _ _ _ _ _ _ _ _ _ _ _ _ _ _ act w A (Yg .i64) hA hl).eqv (by rw[U4];simp[YZ])
 ·exact (Kx _ _ _ _ _ _ _ _ _ _ _ _ _ _ _ _ _ _ _ _ _ _ _ _ _ _ _ _ _ _ _ _ _ _ _ _ _ _ _ _ _ _ act w A (Yg .i64) hA hl).eqv (by rw[U4];simp[YZ])
 ·obtain⟨ta,x,e1,e2,ht⟩:=Qa hA (by simp[Xi]at YA;omega)
  obtain⟨q,c,l⟩:=A;simp only at e1 e2 hb;subst e1 e2;have hx:=hb x (Zk);exact (Ky _ _ _ _ _ _ _ _ _ _ _ _ _ _ _ _ _ _ _ _ _ _ _ _ _ _ _ _ _ _ _ _ _ _ _ _ _ _ _ _ _ _ act ta 1 c x w ht rfl).eqv (by exact congrArg Zs (NG F na nb nw x vh vl _ hx))
 ·obtain⟨ta,x,y,e1,e2,ht⟩:=Rt hA (by simp[Xi]at YA;omega)
  obtain⟨q,c,l⟩:=A;simp only at e1 e2 hb;subst e1 e2;have hx:=hb x (Zk);have hy:=hb y (by simp);exact (Kf _ _ _ _ _ _ _ _ _ _ _ _ _ _ _ _ _ _ _ _ _ _ _ _ _ _ _ _ _ _ _ _ _ _ _ _ _ _ _ _ _ _ act ta 2 c x y w ht rfl).eqv (by rw[QB (x+y) (by omega) (by omega)];simp[YZ])
 ·exact (Kg _ _ _ _ _ _ _ _ _ _ _ _ _ _ _ _ _ _ _ _ _ _ _ _ _ _ _ _ _ _ _ _ _ _ _ _ _ _ _ _ _ _ act w A (Yg .i64) hA hl).eqv (by rw[U4];simp[YZ])
 ·exact (Kh _ _ _ _ _ _ _ _ _ _ _ _ _ _ _ _ _ _ _ _ _ _ _ _ _ _ _ _ _ _ _ _ _ _ _ _ _ _ _ _ _ _ act w A (Yg .i64) hA hl).eqv (by rw[U4];simp[YZ])
 ·obtain⟨ta,x,e1,e2,ht⟩:=Qa hA (by simp[Xi]at YA;omega)
  obtain⟨q,c,l⟩:=A;simp only at e1 e2 hb;subst e1 e2;have hx:=hb x (Zk);exact (Ki _ _ _ _ _ _ _ _ _ _ _ _ _ _ _ _ _ _ _ _ _ _ _ _ _ _ _ _ _ _ _ _ _ _ _ _ _ _ _ _ _ _ act ta 1 c x w ht rfl).eqv (by simp[YZ])
 ·obtain⟨ta,x,e1,e2,ht⟩:=Qa hA (by simp[Xi]at YA;omega)
  obtain⟨q,c,l⟩:=A;simp only at e1 e2 hb;subst e1 e2;have hx:=hb x (Zk);exact (Kj _ _ _ _ _ _ _ _ _ _ _ _ _ _ _ _ _ _ _ _ _ _ _ _ _ _ _ _ _ _ _ _ _ _ _ _ _ _ _ _ _ _ act ta 1 c x w ht rfl).eqv (by simp[YZ])
 ·exact (Kk _ _ _ _ _ _ _ _ _ _ _ _ _ _ _ _ _ _ _ _ _ _ _ _ _ _ _ _ _ _ _ _ _ _ _ _ _ _ _ _ _ _ act w A (Yg .i64) hA hl).eqv (by rw[U4];simp[YZ])
 ·exact (Kl _ _ _ _ _ _ _ _ _ _ _ _ _ _ _ _ _ _ _ _ _ _ _ _ _ _ _ _ _ _ _ _ _ _ _ _ _ _ _ _ _ _ act w A (Yg .i64) hA hl).eqv (by rw[U4];simp[YZ])
 ·exact (Km _ _ _ _ _ _ _ _ _ _ _ _ _ _ _ _ _ _ _ _ _ _ _ _ _ _ _ _ _ _ _ _ _ _ _ _ _ _ _ _ _ _ act w A (Yg .i64) hA hl).eqv (by rw[U4];simp[YZ])
 ·obtain⟨ta,x,y,e1,e2,ht⟩:=Rt hA (by simp[Xi]at YA;omega)
  obtain⟨q,c,l⟩:=A;simp only at e1 e2 hb;subst e1 e2;have hx:=hb x (Zk);have hy:=hb y (by simp);exact (Kn _ _ _ _ _ _ _ _ _ _ _ _ _ _ _ _ _ _ _ _ _ _ _ _ _ _ _ _ _ _ _ _ _ _ _ _ _ _ _ _ _ _ act ta 2 c x y w ht rfl).eqv (by simp[YZ])
 ·obtain⟨ta,x,y,e1,e2,ht⟩:=Rt hA (by simp[Xi]at YA;omega)
  obtain⟨q,c,l⟩:=A;simp only at e1 e2 hb;subst e1 e2;have hx:=hb x (Zk);have hy:=hb y (by simp);exact (Ko _ _ _ _ _ _ _ _ _ _ _ _ _ _ _ _ _ _ _ _ _ _ _ _ _ _ _ _ _ _ _ _ _ _ _ _ _ _ _ _ _ _ act ta 2 c x y w ht rfl).eqv (by simp[YZ])
 ·obtain⟨ta,x,y,e1,e2,ht⟩:=Rt hA (by simp[Xi]at YA;omega)
  obtain⟨q,c,l⟩:=A;simp only at e1 e2 hb;subst e1 e2;have hx:=hb x (Zk);have hy:=hb y (by simp);exact (Kr _ _ _ _ _ _ _ _ _ _ _ _ _ _ _ _ _ _ _ _ _ _ _ _ _ _ _ _ _ _ _ _ _ _ _ _ _ _ _ _ _ _ act ta 2 c x y w ht rfl).eqv (by simp[YZ])
theorem PN(z:Value)(f:Int→Value)(i:Int):∀(n s:Nat),WA z i ((List.range' s n).map fun (j:Nat)=>(⟨.int .u8 ((j:Int)+1),f ((j:Int)+1),j⟩:MapEntry))=if (s:Int)+1≤i∧i≤(s:Int)+n then (f i,true) else (z,false)
 | 0,s=>by rw[if_neg (by omega)];rfl
 | n+1,s=>by
  rw[List.range'_succ,List.map_cons,WA];simp only;cases hi:(i==(s:Int)+1) with
  | true =>
   rw[beq_iff_eq]at hi;rw[if_pos rfl,if_pos (by omega),hi]
  | false =>
   have hi:¬i=(s:Int)+1:=by simpa using hi
   rw[if_neg (by simp),PN z f i n (s+1)];by_cases h:(s:Int)+1≤i∧i≤(s:Int)+(n+1:Nat)
   ·rw[if_pos h,if_pos (by omega)]
   ·rw[if_neg h,if_neg (by omega)]
theorem Jc(f:Int→Value)(n:Nat):SP (((List.range n).map fun (j:Nat)=>(⟨.int .u8 ((j:Int)+1),f ((j:Int)+1),j⟩:MapEntry)).toArray).toList:=by
 intro e he;simp only[List.mem_map]at he;obtain⟨j,_,rfl⟩:=he;exact⟨_,rfl⟩
theorem JV(z:Value)(f:Int→Value)(i:Int)(n:Nat):WA z i (((List.range n).map fun (j:Nat)=>(⟨.int .u8 ((j:Int)+1),f ((j:Int)+1),j⟩:MapEntry)).toArray).toList=if 1≤i∧i≤n then (f i,true) else (z,false):=by
 have:=PN z f i n 0;rw[←List.range_eq_range']at this;simpa using this
theorem LK{op:Int}(h:¬(1≤op∧op≤20)):Tn op=.agg #[.int .i64 0,.bool false,.bool false,.bool false]:=by
 have e1:Xi op=0:=by unfold Xi;rw[if_neg (by omega),if_neg (by omega)]
 have e2:lA op=false:=by unfold lA;simp;omega
 have e3:lB op=false:=by unfold lB;simp;omega
 have e4:lV op=false:=by unfold lV;simp;omega
 unfold Tn;rw[e1,e2,e3,e4]
theorem J5(w:World)(m:Nat)(h:Yf w m (X9 20))(op):(Instr.lookup 80 (.map (some m)) (.int .u8 op) true).run Zr w=.ok (.tuple #[Tn op,.bool (VP op)]) w:=by
 have hz:(zeroValue 111).run Zr w=.ok (.agg #[.int .i64 0,.bool false,.bool false,.bool false]) w:=by kernel_rfl
 have:=PR Tryz.underlying80 Tryz.underlying5 hz h (Jc Tn 20) op;rw[this];unfold X9 VP;rw[JV];by_cases h1:1≤op∧op≤((20:Nat):Int)
 ·rw[if_pos h1,decide_eq_true (by omega)]
 ·rw[if_neg h1,decide_eq_false (by omega),LK (by omega)]
def Wo(E:Xf):List Int→List Nd→Option (List Int)
 | st,[]=>some st
 | st,n :: r=>match Vt E n.fit st n with
  | some st'=>Wo E st' r
  | none=>none
def Wz:Option (List Int)→Int × Bool
 | some [x]=>(x,true)
 | _=>(0,false)
def YR(E:Xf)(code:List Nd):Int × Bool:=if code.length≤65536 then Wz (Wo E [] code) else (0,false)
theorem SN(E:Xf)(F:Bool)(st:List Int)(n:Nd)(h:(VP n.op&&(decide (0≤(st.length:Int)-Xi n.op)&&(U9 n&&YZ E F n (st.drop ((st.length:Int)-Xi n.op).toNat))))=false):Vt E F st n=none:=by
 unfold Vt;rw[h];rfl
theorem OW(E:Xf)(F:Bool)(st:List Int)(n:Nd)(r:Nat)(hr:(st.length:Int)-Xi n.op=(r:Int))(h:(VP n.op&&(U9 n&&YZ E F n (st.drop r)))=true):Vt E F st n=some (st.take r++[n.w]):=by
 have e:((st.length:Int)-Xi n.op).toNat=r:=by omega
 have e2:decide (0≤(st.length:Int)-Xi n.op)=true:=decide_eq_true (by omega);unfold Vt;rw[e,e2,Ze,h];rfl
theorem Fq(op:Int):0≤Xi op∧Xi op≤2:=by unfold Xi;split;omega;split <;> omega
structure LW (W:World) (v:Value) (l:List Int) (wr:World):Prop where
 below:Below W.heap.size W wr
 own:XJ wr W.heap.size v l
 wid:∀x∈l,1≤x∧x≤128
theorem LW.alloc{W wr:World}{v:Value}{l:List Int}(h:LW W v l wr)(o:Obj):LW W v l (wr.alloc o):=⟨h.below.alloc h.below.size o,h.own.alloc o,h.wid⟩
theorem LW.plus{W wr:World}{v:Value}{l:List Int}(h:LW W v l wr)(y:ZA):LW W v l (Go.Proofs.YtheaknidbcbneaaGreat.plus wr y):=⟨h.below.trans ((Z9 wr y).mono h.below.size),Rh h.own (Z9 wr y),h.wid⟩
theorem LW.cell{W wr:World}{v:Value}{l:List Int}(h:LW W v l wr){b i:Nat}{u:Value}(hb:b<W.heap.size)(hc:W.cell? ⟨b,i,none⟩=some u):wr.cell? ⟨b,i,none⟩=some u:=(h.below.cell (p:=⟨b,i,none⟩) hb).trans hc
theorem LW.map{W wr:World}{v:Value}{l:List Int}{m:Nat}{es:Array MapEntry}(h:LW W v l wr)(hl:m<W.heap.size)(hm:Yf W m es):Yf wr m es:=by
 obtain⟨n,hm⟩:=hm;exact⟨n,(h.below.block m hl).trans hm⟩
theorem V5{W wr:World}{a:Addr}{cs:List Value}(hB:Below W.heap.size W wr)(h:ZG W a cs):ZG wr a cs:=fun j v hj=>(hB.cell (SZ (h j v hj))).trans (h j v hj)
theorem Hj{w:World}{base nl sc r:Nat}{sa:Addr}{l:List Int}(h:w.ownsRow base 3 1 (.slice (some sa) nl sc) nl ((l.map Xt).flatten))(hl:l.length=nl)(hr:r≤nl)(hw:∀x∈l,1≤x∧x≤128):(⟨if sc=r then some sa else some (sa.add r),sc-r,l.drop r⟩:Sl Int).In w 1 (Z8 .i64) (Yg .i64):=by
 have Vd:nl≤sc∧sc≤maxLen:=by
  rcases h.2 with⟨hv,h0⟩|⟨g,cap,cur,hv,hg,hh,h3,h4,h5,h6⟩
  ·cases hv
  ·simp only[Value.slice.injEq]at hv
   obtain⟨-,-,rfl⟩:=hv;exact⟨h3,h4⟩
 refine⟨by simp only[List.length_drop];omega,by simp only;omega,fun i x hx=>?_,fun y hy=>?_⟩
 ·simp only[List.getElem?_drop]at hx
  have Zz:=(Zj.1 hx).1;obtain⟨g,hg,-,-,hc⟩:=VY h hx;obtain rfl:=Option.some.inj hg;refine⟨_,if_neg (by omega),fun j v hj=>?_⟩;match j,hj with
  | 0,hj =>
   obtain rfl:=Option.some.inj hj;rw[Addr.add_lit,Addr.add_lit,Addr.add_lit];simpa using hc
 ·have:=hw y (List.mem_of_mem_drop hy)
  show (Lit.int .i64 y).wf=true
  simp[Lit.wf,IntKind.min,IntKind.max,IntKind.signed,IntKind.bits];omega
theorem O8(l:List Int)(r:Nat):((l.map Xt).take r).flatten=((l.map Xt).flatten).take r:=by
 rw[Rb,←List.map_take,Rb,List.map_take]
theorem Wg(k n:Nat)(h:k<n):n-(intOf (Zt .i64 ((k:Int)+1))).toNat<n-(intOf (Zt .i64 (k:Int))).toNat:=by
 simp only[intOf];omega
theorem Pf{l:List Int}{R1:Int}{R2:Bool}(h:¬l.length=1)(hr:Wz (some l)=(R1,R2)):R1=0∧R2=false:=by
 match l,h with
 | [],_=>obtain⟨h1,h2⟩:=Prod.mk.inj hr;exact⟨h1.symm,h2.symm⟩
 | [x],h=>exact absurd rfl h
 | x :: y :: r,_=>obtain⟨h1,h2⟩:=Prod.mk.inj hr;exact⟨h1.symm,h2.symm⟩
theorem Wy{B:Nat}{a w:World}(h:Below B a w):Below B a w.drew:=by
 obtain⟨h1,h2,h3,h4,h5⟩:=h;exact⟨h1,h2,h3,h4,h5⟩
theorem Su{E:Xf}{l:List Int}{n:Nd}{r:List Nd}{R1:Int}{R2:Bool}(h:Wz (match Vt E n.fit l n with|some st'=>Wo E st' r|none=>none)=(R1,R2))(hn:Vt E n.fit l n=none):R1=0∧R2=false:=by
 rw[hn]at h;obtain⟨h1,h2⟩:=Prod.mk.inj h;exact⟨h1.symm,h2.symm⟩
theorem J3(q0p q0n q0c q1p q1n q1c q2p q2n q2c q3p q3n q3c q4p q4n q4c q5p q5n q5c q6p q6n q6c q7p q7n q7c q8p q8n q8c q9p q9n q9c q10p q10n q10c q11p q11n q11c)(mr:Nat)(act)(cp:Option Addr)(cn cc:Nat)(code:List Nd)(E:Xf)(w:World)(hm:Yf w mr (X9 20))(hc:Z2 w 6 Nd.cells cp code)(Wa:code.length=cn)(ZQ:∀n∈code,n.In)(hag:∀(n:Nd) (A:Sl Int) (z:ZA),n∈code→A.In (plus w z) 1 (Z8 .i64) (Yg .i64)→A.l.length≤1048576→(A.l.length:Int)=Xi n.op→1≤n.op∧n.op≤20→(∀x∈A.l,1≤x∧x≤128)→Kp Zr (plus w z) 40 #[.agg #[.slice q0p q0n q0c,.slice q1p q1n q1c,.slice q2p q2n q2c,.slice q3p q3n q3c,.slice q4p q4n q4c,.slice q5p q5n q5c,.slice q6p q6n q6c,.slice q7p q7n q7c,.slice q8p q8n q8c,.slice q9p q9n q9c,.slice q10p q10n q10c,.slice q11p q11n q11c,.map (some mr)],.int .i64 act,n.val,A.v] (.bool (YZ E n.fit n A.l)))(hb:cn≤65536) :
  Calls Zr 16 #[.agg #[.slice q0p q0n q0c,.slice q1p q1n q1c,.slice q2p q2n q2c,.slice q3p q3n q3c,.slice q4p q4n q4c,.slice q5p q5n q5c,.slice q6p q6n q6c,.slice q7p q7n q7c,.slice q8p q8n q8c,.slice q9p q9n q9c,.slice q10p q10n q10c,.slice q11p q11n q11c,.map (some mr)],.int .i64 act,.slice cp cn cc] w fun e w'=>e=.returned (.tuple #[.int .i64 (Wz (Wo E [] code)).1,.bool (Wz (Wo E [] code)).2])∧∃x,w'=plus w x:=by
 obtain⟨W,hW,ZY,hz,ca,fa⟩:=Vx w #[.slice q0p q0n q0c,.slice q1p q1n q1c,.slice q2p q2n q2c,.slice q3p q3n q3c,.slice q4p q4n q4c,.slice q5p q5n q5c,.slice q6p q6n q6c,.slice q7p q7n q7c,.slice q8p q8n q8c,.slice q9p q9n q9c,.slice q10p q10n q10c,.slice q11p q11n q11c,.map (some mr)] 82;have a0:=ca 0 _ rfl ⟨#[],W.drawn⟩;have a1:=ca 1 _ rfl ⟨#[],W.drawn⟩;have a2:=ca 2 _ rfl ⟨#[],W.drawn⟩;have a3:=ca 3 _ rfl ⟨#[],W.drawn⟩;have a4:=ca 4 _ rfl ⟨#[],W.drawn⟩;have a5:=ca 5 _ rfl ⟨#[],W.drawn⟩;have a6:=ca 6 _ rfl ⟨#[],W.drawn⟩;have a7:=ca 7 _ rfl ⟨#[],W.drawn⟩;have a8:=ca 8 _ rfl ⟨#[],W.drawn⟩;have a9:=ca 9 _ rfl ⟨#[],W.drawn⟩;have a10:=ca 10 _ rfl ⟨#[],W.drawn⟩;have a11:=ca 11 _ rfl ⟨#[],W.drawn⟩;have a12:=ca 12 _ rfl ⟨#[],W.drawn⟩;rw[ZK]at a0 a1 a2 a3 a4 a5 a6 a7 a8 a9 a10 a11 a12;have hmW:Hid (Yf W mr (X9 20)):=Zg (by obtain⟨z,hz⟩:=ZS ZY;rw[hz];exact hm.plus z);have hmlt:mr<W.heap.size:=hmW.out.lt;have hcc:Hid (∀(wr:World) (k:Nat) (x:Nd),Below W.heap.size W wr→code[k]?=some x→∃a,cp=some a∧ZG wr (a.add (k*6)) x.cells):=Zg fun wr k x hB hx=>by
  obtain⟨a,hp,hc⟩:=hc k x hx;exact⟨a,hp,V5 (hB:=ZY.trans (hB.mono ZY.size)) hc⟩
 have YG:=Zg ZY;have hcn':=Zg Wa;have hin':=Zg ZQ;have hag':=Zg hag;obtain⟨R1,Yj⟩:=Zv ((Wz (Wo E [] code)).1);obtain⟨R2,Z0⟩:=Zv ((Wz (Wo E [] code)).2);rw[Yj,Z0];have Yi:Hid (Wz (Wo E [] code)=(R1,R2)):=Zg (by rw[←Yj,←Z0]);have hE0:Hid (LW W (.slice none 0 0) [] W):=Zg ⟨Zc _ _,World.ownsRow_nil _ _ _ _,fun x h=>by cases h⟩;have Xc:w.heap.size<W.heap.size:=by omega
 have hb8:¬(65536:Int)<(cn:Int):=by omega
 have eb8:decide ((65536:Int)<(cn:Int))=false:=decide_eq_false hb8;clear hc Wa ca fa ZY hz Yj Z0 hm ZQ hag;go_enter func16,ntmps16;go_upto_region 1 with (fail)
 rw[←hW];clear hW;go_wp2;go_loopw [8,10,11,12,13,19] (fun lv _ _ _ _ iv wr=>∃(k:Nat) (l:List Int),k≤cn∧l.length≤k∧iv=.int .i64 (k:Int)∧Hid (LW W lv l wr)∧Hid (Wz (Wo E l (code.drop k))=(R1,R2))) (fun _ _ _ _ _ iv _=>cn-(intOf iv).toNat)
 case atStart=>exact⟨0,[],Zq _,Zp _,rfl,hE0,Yi⟩
 case round =>
  obtain⟨k,l,hk,hlk,rfl,hEI,hm⟩:=hrel;clear hE0 Yi;by_cases Zz:k<cn
  ·obtain⟨⟨op,nw,na,nb,⟨vh,vl⟩⟩,hq⟩:∃q,code[k]?=some q:=⟨code[k]'(by rw[hcn'.out];exact Zz),Zi _⟩
   obtain⟨a,rfl,hc⟩:=hcc.out wr k _ hEI.out.below hq;have d0:=hc.c0 _ rfl;have d1:=hc.cs 0 _ rfl;have d2:=hc.cs 1 _ rfl;have d3:=hc.cs 2 _ rfl;have d4:=hc.cs 3 _ rfl;have d5:=hc.cs 4 _ rfl;obtain⟨h1,h2⟩:=Zj.1 hq;have Sy:code.drop k=⟨op,nw,na,nb,⟨vh,vl⟩⟩ :: code.drop (k+1):=by rw[List.drop_eq_getElem_cons h1,h2]
   have YJ:=hm.out;rw[Sy,Wo]at YJ;replace YJ:=Zg YJ;have k0:¬((k:Int)<0):=by omega
   have k1:(k:Int)<(cn:Int):=by omega
   have X4:Hid ((⟨op,nw,na,nb,⟨vh,vl⟩⟩:Nd)∈code):=Zg (Zl hq);obtain⟨sp,sc,hv,W4,hsn,hss⟩:=Sc hEI.out.own;subst hv;obtain⟨nl,hnl⟩:=Zv l.length;rw[hnl]at hEI hlk W4 hsn ⊢;obtain⟨TK,hTK⟩:=Zv (Xi op);obtain⟨fA,hfA⟩:=Zv (lA op);obtain⟨fB,hfB⟩:=Zv (lB op);obtain⟨fV,hfV⟩:=Zv (lV op);obtain⟨IS,hIS⟩:=Zv (VP op);have hTKb:0≤TK∧TK≤2:=hTK▸Fq op;have VC:=hEI.out.alloc (.cells #[.int .u8 op,.int .i64 nw,.int .i64 na,.int .i64 nb,.int .u64 vh,.int .u64 vl] 79);have hlk1:=J5 _ mr (VC.map hmlt hmW.out) op;unfold Tn at hlk1;rw[hTK,hfA,hfB,hfV,hIS]at hlk1;have hE2:=VC.alloc (.cells #[.int .i64 TK,.bool fA,.bool fB,.bool fV] 111);have m12:=VC.cell Xc a12;have ZB:(wr.alloc (.cells #[.int .u8 op,.int .i64 nw,.int .i64 na,.int .i64 nb,.int .u64 vh,.int .u64 vl] 79)).heap.size=wr.heap.size+1:=by simp
   have n0:=Z4 wr #[.int .u8 op,.int .i64 nw,.int .i64 na,.int .i64 nb,.int .u64 vh,.int .u64 vl] 79 _ 0 rfl;have f0:=Z4 (wr.alloc (.cells #[.int .u8 op,.int .i64 nw,.int .i64 na,.int .i64 nb,.int .u64 vh,.int .u64 vl] 79)) #[.int .i64 TK,.bool fA,.bool fB,.bool fV] 111 _ 0 rfl;rw[ZB]at f0;have n0':(wr.alloc (.cells #[.int .u8 op,.int .i64 nw,.int .i64 na,.int .i64 nb,.int .u64 vh,.int .u64 vl] 79)).cell? ⟨wr.heap.size,0,none⟩=some (.int .u8 op):=n0.trans rfl;have f0':((wr.alloc (.cells #[.int .u8 op,.int .i64 nw,.int .i64 na,.int .i64 nb,.int .u64 vh,.int .u64 vl] 79)).alloc (.cells #[.int .i64 TK,.bool fA,.bool fB,.bool fV] 111)).cell? ⟨wr.heap.size+1,0,none⟩=some (.int .i64 TK):=f0.trans rfl;clear n0 f0 hc hq hm h1 h2 Sy;replace hE2:=Zg hE2;replace VC:=Zg VC;have hsc':=Zg W4;have hss':=Zg hss;obtain⟨V9,hV9⟩:=Zv ((wr.alloc (.cells #[.int .u8 op,.int .i64 nw,.int .i64 na,.int .i64 nb,.int .u64 vh,.int .u64 vl] 79)).alloc (.cells #[.int .i64 TK,.bool fA,.bool fB,.bool fV] 111));have ZT:Hid (LW W (.slice sp nl sc) l V9):=Zg (by rw[←hV9];exact hE2.out);have hs9:V9.heap.size=wr.heap.size+1+1:=by rw[←hV9];simp
   have X5:∀j v,#[.int .u8 op,.int .i64 nw,.int .i64 na,.int .i64 nb,.int .u64 vh,.int .u64 vl][j]?=v→V9.cell? ⟨wr.heap.size,j,none⟩=v:=fun j v h=>by rw[←hV9];exact (XZ _ _ _ _ (by simp)).trans ((Z4 _ _ _ _ j rfl).trans h)
   have SD:∀j v,#[.int .i64 TK,.bool fA,.bool fB,.bool fV][j]?=v→V9.cell? ⟨wr.heap.size+1,j,none⟩=v:=fun j v h=>by rw[←hV9];exact (Z4 _ _ _ _ j (by simp)).trans h
   have e0:=Yb (by omega) (X5 0 _ rfl);have e1:=Yb (by omega) (X5 1 _ rfl);have e2:=Yb (by omega) (X5 2 _ rfl);have e3:=Yb (by omega) (X5 3 _ rfl);have e4:=Yb (by omega) (X5 4 _ rfl);have e5:=Yb (by omega) (X5 5 _ rfl);have g0:=Yb (by omega) (SD 0 _ rfl);have g1:=Yb (by omega) (SD 1 _ rfl);have g2:=Yb (by omega) (SD 2 _ rfl);have g3:=Yb (by omega) (SD 3 _ rfl);have b0:=Yb (by have:=ZT.out.below.size;omega) (ZT.out.cell Xc a0);have b1:=Yb (by have:=ZT.out.below.size;omega) (ZT.out.cell Xc a1);have b2:=Yb (by have:=ZT.out.below.size;omega) (ZT.out.cell Xc a2);have b3:=Yb (by have:=ZT.out.below.size;omega) (ZT.out.cell Xc a3);have b4:=Yb (by have:=ZT.out.below.size;omega) (ZT.out.cell Xc a4);have b5:=Yb (by have:=ZT.out.below.size;omega) (ZT.out.cell Xc a5);have b6:=Yb (by have:=ZT.out.below.size;omega) (ZT.out.cell Xc a6);have b7:=Yb (by have:=ZT.out.below.size;omega) (ZT.out.cell Xc a7);have b8:=Yb (by have:=ZT.out.below.size;omega) (ZT.out.cell Xc a8);have b9:=Yb (by have:=ZT.out.below.size;omega) (ZT.out.cell Xc a9);have b10:=Yb (by have:=ZT.out.below.size;omega) (ZT.out.cell Xc a10);have b11:=Yb (by have:=ZT.out.below.size;omega) (ZT.out.cell Xc a11);have b12:=Yb (by have:=ZT.out.below.size;omega) (ZT.out.cell Xc a12);have Xg:=Zg (KP TK fA fB fV op nw na nb vh vl _ V9 (R4 nw V9)).pure;obtain⟨F,hF⟩:=Zv ((decide (1≤nw)&&decide (nw≤128))&&((fA||na==0)&&((fB||nb==0)&&(fV||(vh==0&&vl==0)))));rw[hF]at Xg;have hfi:Hid (U9 ⟨op,nw,na,nb,⟨vh,vl⟩⟩=F):=Zg (by rw[←hF,←hfA,←hfB,←hfV];rfl);have Y3:=Zg (fun (y:ZA)=>YG.out.trans ((ZT.out.plus y).below.mono YG.out.size));go_upto_region 9 with (fail)
   try rw[hV9]
   clear hV9 X5 SD d0 d1 d2 d3 d4 d5 n0' f0' m12 VC hE2 hlk1 ZB;cases IS with
   | false =>
    obtain⟨rfl,rfl⟩:=Su (YJ.out) (SN _ _ _ _ (by simp only[hIS,Bool.false_and]));refine VS (by kernel_rfl) (by kernel_rfl) ?_;repeat (go_big_quiet_step (fail))
    refine wpQuiet_nil ?_;rintro _ ⟨y1,rfl⟩;go_wp2;refine bodyPost_ret (v:=.tuple #[.int .i64 0,.bool false]) (by simp[results,Tryz.results16,go_sem]) rfl ⟨rfl,ZS (Y3.out _)⟩
   | true =>
    by_cases hneg:(nl:Int)-TK<0
    ·have en:decide ((nl:Int)-TK<0)=true:=decide_eq_true hneg
     obtain⟨rfl,rfl⟩:=Su (YJ.out) (SN _ _ _ _ (by simp only[hIS,hTK,hnl,decide_eq_false (show ¬(0:Int)≤(nl:Int)-TK by omega),Bool.false_and,Bool.and_false]));refine VS (by kernel_rfl) (by kernel_rfl) ?_;repeat (go_big_quiet_step (fail))
     refine wpQuiet_nil ?_;rintro _ ⟨y1,rfl⟩;go_wp2;refine bodyPost_ret (v:=.tuple #[.int .i64 0,.bool false]) (by simp[results,Tryz.results16,go_sem]) rfl ⟨rfl,ZS (Y3.out _)⟩
    ·obtain⟨r,hr⟩:∃r:Nat,(nl:Int)-TK=(r:Int):=⟨((nl:Int)-TK).toNat,by omega⟩
     rw[hr];have en:decide ((r:Int)<0)=false:=decide_eq_false (by omega);have fn:¬(r:Int)<0:=by omega
     have hr2:Hid ((nl:Int)-TK=(r:Int)):=Zg hr;cases F with
     | false =>
      obtain⟨rfl,rfl⟩:=Su (YJ.out) (SN _ _ _ _ (by simp only[hfi.out,Bool.false_and,Bool.and_false]));refine VS (by kernel_rfl) (by kernel_rfl) ?_;repeat (go_big_quiet_step (first|(with_reducible exact Xg.out _)))
      refine wpQuiet_nil ?_;rintro _ ⟨y1,rfl⟩;go_wp2;refine bodyPost_ret (v:=.tuple #[.int .i64 0,.bool false]) (by simp[results,Tryz.results16,go_sem]) rfl ⟨rfl,ZS (Y3.out _)⟩
     | true =>
      have r1:(r:Int)≤(nl:Int):=by omega
      have r2:(r:Int)≤(sc:Int):=by have:=hsc'.out;omega
      have r3:(nl:Int)≤(sc:Int):=by have:=hsc'.out;omega
      have r4:(0:Int)≤(r:Int):=by omega
      rcases sp with _|sa
      ·obtain⟨rfl,rfl⟩:=hsn rfl
       obtain rfl:r=0:=by omega
       obtain rfl:l=[]:=List.length_eq_zero_iff.1 hnl;obtain⟨z9,hz9⟩:=ZS (YG.out.trans (ZT.out.below.mono YG.out.size));have Ul:Hid (Vh Zr V9 40 #[.agg #[.slice q0p q0n q0c,.slice q1p q1n q1c,.slice q2p q2n q2c,.slice q3p q3n q3c,.slice q4p q4n q4c,.slice q5p q5n q5c,.slice q6p q6n q6c,.slice q7p q7n q7c,.slice q8p q8n q8c,.slice q9p q9n q9c,.slice q10p q10n q10c,.slice q11p q11n q11c,.map (some mr)],.int .i64 act,.agg #[.int .u8 op,.int .i64 nw,.int .i64 na,.int .i64 nb,.int .u64 vh,.int .u64 vl],.slice none 0 0] (.bool (YZ E (Nd.fit ⟨op,nw,na,nb,⟨vh,vl⟩⟩) ⟨op,nw,na,nb,⟨vh,vl⟩⟩ []))):=Zg (by
        have hA:=hag'.out ⟨op,nw,na,nb,⟨vh,vl⟩⟩ ⟨none,0,[]⟩ z9 X4.out (R9 _) (by simp) (by simp only[hTK,List.length_nil];omega) (by have:=hIS;unfold VP at this;simpa using this) (fun x hx=>by cases hx);rw[←hz9]at hA;exact hA.pure)
       obtain⟨G,hG⟩:=Zv (YZ E (Nd.fit ⟨op,nw,na,nb,⟨vh,vl⟩⟩) ⟨op,nw,na,nb,⟨vh,vl⟩⟩ []);rw[hG]at Ul;clear hz9;cases G with
       | false =>
        obtain⟨rfl,rfl⟩:=Su (YJ.out) (SN _ _ _ _ (by
         simp only[List.drop_nil,hG,Bool.and_false]))
        refine VS (by kernel_rfl) (by kernel_rfl) ?_;repeat (go_big_quiet_step (first|(with_reducible exact Xg.out _)|(with_reducible exact Ul.out _)))
        refine wpQuiet_nil ?_;rintro _ ⟨y1,rfl⟩;go_wp2;refine bodyPost_ret (v:=.tuple #[.int .i64 0,.bool false]) (by simp[results,Tryz.results16,go_sem]) rfl ⟨rfl,ZS (Y3.out _)⟩
       | true =>
        have X6:=YJ.out;rw[OW E _ [] ⟨op,nw,na,nb,⟨vh,vl⟩⟩ 0 (by rw[hTK];exact hr2.out) (by rw[hIS,hfi.out,List.drop_nil,hG];rfl)]at X6;replace X6:=Zg X6;refine VS (by kernel_rfl) (by kernel_rfl) ?_;repeat (go_big_quiet_step (first|(with_reducible exact Xg.out _)|(with_reducible exact Ul.out _)))
        refine wpQuiet_nil ?_;rintro _ ⟨y1,rfl⟩;have VD:=Zg (ZT.out.plus y1);have n1:=e1 y1;generalize Go.Proofs.YtheaknidbcbneaaGreat.plus V9 y1=V10 at VD n1 ⊢;clear e0 e1 e2 e3 e4 e5 g0 g1 g2 g3 b0 b1 b2 b3 b4 b5 b6 b7 b8 b9 b10 b11 b12 Xg Ul Y3;have YK:Hid (∀o,(V10.alloc o).drew.ownsRow W.heap.size 3 1 (.slice none 0 0) 0 ((([]:List Int).map Xt).flatten)):=Zg (fun o=>World.ownsRow_nil _ _ _ _);have Yq:Hid (W.heap.size≤V10.heap.size):=Zg VD.out.below.size;have hww:Hid (∀x∈[nw],1≤x∧x≤128):=Zg (fun x h=>by
         obtain rfl:=List.mem_singleton.1 h;exact (RO _).1 hfi.out |>.1)
        go_upto_region 11 with (fail)
        go_region_law (go_loud (refine OB none 0 0 (l:=[]) rfl (YK.out (.cells #[.int .i64 nw] 3)) (by have:=Yq.out;simp;omega) (by simp) nw V10.heap.size ((Z4 V10 _ _ _ 0 rfl).trans rfl) rfl (.tmp 60) (.tmp 63) rfl (by simp[Act.eval]) (by simp[Act.eval]) ?_;intro g9 c9 w9 h2 h3;have h2':=Zg h2;have h3':=Zg h3;clear h2 h3));all_goals
         have W8:Hid (LW W (.slice (some ⟨g9,0,none⟩) (0+1) c9) [nw] w9):=Zg ⟨(Wy ((VD.out.alloc (.cells #[.int .i64 nw] 3)).below)).grown h3'.out (by have:=Yq.out;simp;omega) (fun j e=>by cases e),h2'.out,hww.out⟩;clear h2' h3' YK;go_wp2;go_roundw
         case rel=>exact⟨k+1,[nw],Zz,by simp,congrArg (Zt .i64) (by omega),W8,X6⟩
         case measure=>exact Wg k cn Zz
      ·have hpart:=Hj (by have:=ZT.out.own;unfold XJ at this;rwa [hnl]at this) hnl (show r≤nl by omega) ZT.out.wid
       obtain⟨z9,hz9⟩:=ZS (YG.out.trans (ZT.out.below.mono YG.out.size));have hlen9:(l.drop r).length=nl-r:=by rw[List.length_drop,hnl]
       have Ul:Hid (Vh Zr V9 40 #[.agg #[.slice q0p q0n q0c,.slice q1p q1n q1c,.slice q2p q2n q2c,.slice q3p q3n q3c,.slice q4p q4n q4c,.slice q5p q5n q5c,.slice q6p q6n q6c,.slice q7p q7n q7c,.slice q8p q8n q8c,.slice q9p q9n q9c,.slice q10p q10n q10c,.slice q11p q11n q11c,.map (some mr)],.int .i64 act,.agg #[.int .u8 op,.int .i64 nw,.int .i64 na,.int .i64 nb,.int .u64 vh,.int .u64 vl],.slice (if sc=r then some sa else some (sa.add r)) (nl-r) (sc-r)] (.bool (YZ E (Nd.fit ⟨op,nw,na,nb,⟨vh,vl⟩⟩) ⟨op,nw,na,nb,⟨vh,vl⟩⟩ (l.drop r)))):=Zg (by
        have hA:=hag'.out ⟨op,nw,na,nb,⟨vh,vl⟩⟩ ⟨if sc=r then some sa else some (sa.add r),sc-r,l.drop r⟩ z9 X4.out (by rw[←hz9];exact hpart) (by simp only[hlen9];omega) (by simp only[hlen9,hTK];omega) (by have:=hIS;unfold VP at this;simpa using this) (fun x hx=>ZT.out.wid x (List.mem_of_mem_drop hx));rw[←hz9]at hA;have hA2:=hA.pure;simp only[Sl.v,Nd.val,hlen9]at hA2;exact hA2)
       obtain⟨G,hG⟩:=Zv (YZ E (Nd.fit ⟨op,nw,na,nb,⟨vh,vl⟩⟩) ⟨op,nw,na,nb,⟨vh,vl⟩⟩ (l.drop r));rw[hG]at Ul;clear hz9;cases G with
       | false =>
        obtain⟨rfl,rfl⟩:=Su (YJ.out) (SN _ _ _ _ (by
         simp only[hTK,hnl,hr2.out,Int.toNat_natCast,Int.toNat_zero,hG,Bool.and_false]))
        refine VS (by kernel_rfl) (by kernel_rfl) ?_;repeat (go_big_quiet_step (first|(with_reducible exact Xg.out _)|(with_reducible exact Ul.out _)))
        refine wpQuiet_nil ?_;rintro _ ⟨y1,rfl⟩;generalize (if sc=r then some sa else some (sa.add r))=P9;go_wp2;refine bodyPost_ret (v:=.tuple #[.int .i64 0,.bool false]) (by simp[results,Tryz.results16,go_sem]) rfl ⟨rfl,ZS (Y3.out _)⟩
       | true =>
        have X6:=YJ.out;rw[OW E _ l ⟨op,nw,na,nb,⟨vh,vl⟩⟩ r (by rw[hnl,hTK];exact hr2.out) (by rw[hIS,hfi.out,hG];rfl)]at X6;replace X6:=Zg X6;refine VS (by kernel_rfl) (by kernel_rfl) ?_;repeat (go_big_quiet_step (first|(with_reducible exact Xg.out _)|(with_reducible exact Ul.out _)))
        refine wpQuiet_nil ?_;rintro _ ⟨y1,rfl⟩;have VD:=Zg (ZT.out.plus y1);have n1:=e1 y1;generalize Go.Proofs.YtheaknidbcbneaaGreat.plus V9 y1=V10 at VD n1 ⊢;clear e0 e1 e2 e3 e4 e5 g0 g1 g2 g3 b0 b1 b2 b3 b4 b5 b6 b7 b8 b9 b10 b11 b12 Xg Ul Y3;have YK:Hid (∀o,(V10.alloc o).drew.ownsRow W.heap.size 3 1 (.slice (some sa) r sc) r (((l.take r).map Xt).flatten)):=Zg (fun o=>by
         have h9:=(VD.out.alloc o).own;unfold XJ at h9;rw[hnl]at h9;have:=(P8 h9 (r:=r) (by omega)).drew;rwa [List.map_take,O8])
        have Yq:Hid (W.heap.size≤V10.heap.size):=Zg VD.out.below.size;have hlr:(l.take r).length=r:=by rw[List.length_take,hnl];omega
        have hlr':=Zg hlr;have hr5:Hid (r≤65536):=Zg (by omega);have hww:Hid (∀x∈l.take r++[nw],1≤x∧x≤128):=Zg (fun x hx=>by
         rcases List.mem_append.1 hx with h|h
         ·exact ZT.out.wid x (List.mem_of_mem_take h)
         ·obtain rfl:=List.mem_singleton.1 h
          exact (RO _).1 hfi.out |>.1)
        have Sx:Hid (k+1≤cn∧(l.take r++[nw]).length≤k+1):=Zg (by refine⟨Zz,?_⟩;simp only[List.length_append,List.length_take,List.length_cons,List.length_nil];omega);clear hlr;generalize (if sc=r then some sa else some (sa.add r))=P9;go_upto_region 11 with (fail)
        go_region_law (go_loud (refine OB (some sa) r sc hlr'.out (YK.out (.cells #[.int .i64 nw] 3)) (by have:=Yq.out;simp;omega) (by have:=hr5.out;have:=hlr'.out;omega) nw V10.heap.size ((Z4 V10 _ _ _ 0 rfl).trans rfl) rfl (.tmp 60) (.tmp 63) rfl (by simp[Act.eval]) (by simp[Act.eval]) ?_;intro g9 c9 w9 h2 h3;have h2':=Zg h2;have h3':=Zg h3;clear h2 h3));all_goals
         have W8:Hid (LW W (.slice (some ⟨g9,0,none⟩) (r+1) c9) (l.take r++[nw]) w9):=Zg ⟨(Wy ((VD.out.alloc (.cells #[.int .i64 nw] 3)).below)).grown h3'.out (by have:=Yq.out;simp;omega) (fun j e=>((YK.out (.cells #[.int .i64 nw] 3)).lt j e).1),h2'.out,hww.out⟩;clear h2' h3' YK;go_wp2;go_roundw
         case rel=>exact⟨k+1,l.take r++[nw],Sx.out.1,Sx.out.2,congrArg (Zt .i64) (by omega),W8,X6⟩
         case measure=>exact Wg k cn Zz
  ·obtain rfl:k=cn:=by omega
   have X6:=hm.out;rw[Zh (by rw[hcn'.out];exact Zp _),Wo]at X6;obtain⟨sp,sc,hv,W4,hsn,hss⟩:=Sc hEI.out.own;subst hv;have Y3:=Zg (YG.out.trans (hEI.out.below.mono YG.out.size));by_cases h1:l.length=1
   ·obtain⟨x,rfl⟩:∃x,l=[x]:=List.length_eq_one_iff.1 h1
    obtain⟨rfl,rfl⟩:=Prod.mk.inj X6;obtain⟨g,rfl,-,-,hc⟩:=VY (k:=0) (x:=x) hEI.out.own rfl;clear hm hss hsn hEI h1;simp only[List.length_cons,List.length_nil]at *;go_wp2;refine bodyPost_ret (v:=.tuple #[.int .i64 x,.bool true]) (by simp[results,Tryz.results16,go_sem]) rfl ⟨rfl,ZS Y3.out⟩
   ·obtain⟨rfl,rfl⟩:=Pf h1 X6
    obtain⟨nl,hnl⟩:=Zv l.length;rw[hnl]at h1 hlk ⊢;have e1:((nl:Int)==1)=false:=by simp;omega
    have e2:((nl:Int) !=1)=true:=by simp;omega
    have e3:¬((nl:Int)=1):=by omega
    clear hm hss hsn hEI X6 W4 hnl;go_wp2;refine bodyPost_ret (v:=.tuple #[.int .i64 0,.bool false]) (by simp[results,Tryz.results16,go_sem]) rfl ⟨rfl,ZS Y3.out⟩
end Go.Proofs.YtheaknidbcbneaaGreat
