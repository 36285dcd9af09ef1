/-
  WHAT IS PROVED HERE: a part of the proof (made narrower and merged by program; the parts: RR).
-/
import Derived.Deep.MidRow
import Derived.OrdersHeld
import Derived.Test.YtknmeggfokpbjaaGreatM1
import Derived.Test.YtknmeggfokpbjaaGreatM7
set_option maxRecDepth 100000
set_option maxHeartbeats 8000000
set_option linter.all false
namespace Go.Proofs.YtknmeggfokpbjaaGreat
open Z
open Go.RowKit Go.Proofs.Tryz
open Below renaming refl→Zb
open Bool renaming and_eq_true→Zc
open Ending renaming returned→Zd
open Lib renaming hid→Zf
open List renaming getElem?_eq_some_iff→Zi
open Nat renaming le_refl→Zt,lt_of_lt_of_le→Zu,zero_add→Zv,zero_le→Zw
open Go.Proofs.Tryz renaming prog→Zx
open World renaming cell?_setCell_other→ZA
open Go.RowKit
def XG(f:Nat→Bool):List Value:=(List.range 128).map fun i=>.bool (f i)
abbrev RW(f:Nat→Bool):Value:=.agg (XG f).toArray
theorem OP(f:Nat→Bool):(XG f).length=128:=by simp[XG]
theorem F5(f:Nat→Bool)(i:Nat)(h:i<128):(XG f)[i]?=some (.bool (f i)):=by simp[XG,h]
structure Xn (V:World) (b:Nat) (f:Nat→Bool):Prop where
 c:∀i,i<128→V.cell? ⟨b,i,none⟩=some (.bool (f i))
 fz:∀o,V.frozen? ⟨b,o,none⟩=false
theorem Xn.range{V:World}{b:Nat}{f:Nat→Bool}(h:Xn V b f):V.rangeAt b 0 (XG f):=by
 intro j v hv;have hj:j<128:=by have:=(Zi.1 hv).1;rwa [OP]at this
 rw[F5 f j hj]at hv;rw[←Option.some.inj hv,Zv];exact h.c j hj
theorem Xn.there{V:World}{b:Nat}{f:Nat→Bool}(h:Xn V b f):V.there b 0 128:=fun j hj=>by
 rw[Zv];exact⟨by rw[h.c j hj];rfl,h.fz j⟩
theorem Xn.congr{V:World}{b:Nat}{f g:Nat→Bool}(h:Xn V b f)(e:∀i,i<128→f i=g i):Xn V b g:=⟨fun i hi=>by rw[←e i hi];exact h.c i hi,h.fz⟩
theorem yS(f:Nat→Bool):(Zx.info? 233).map (·.size)=some (XG f).length:=by rw[OP];kernel_rfl
theorem J2(f:Nat→Bool):(Zx.info? 233).map (·.size)=some (XG f).toArray.size:=by rw[List.size_toArray,OP];kernel_rfl
theorem J0(f:Nat→Bool):(XG f).toArray.all (·.oneCell')=true:=all_oneCell_toArray (fun v hv=>by
 unfold XG at hv;obtain⟨i,_,rfl⟩:=List.mem_map.1 hv;rfl)
theorem Xn.there'{V:World}{b:Nat}{f:Nat→Bool}(h:Xn V b f)(g:Nat→Bool):V.there b 0 (XG g).toArray.size:=by rw[List.size_toArray,OP];exact h.there
theorem Xn.load{V:World}{b:Nat}{f:Nat→Bool}(h:Xn V b f):(Instr.loadAt 233 (.pointer (some ⟨b,0,none⟩))).run Zx V=.ok (RW f) V :=
 run_loadAt_mid V b 0 233 (XG f) _ h.range Tryz.underlying233 rfl (by rw[OP];kernel_rfl)
theorem Xn.loadVar{V:World}{b:Nat}{f:Nat→Bool}(h:Xn V b f):(loadVar 233 ⟨b,0,none⟩).run Zx V=.ok (RW f) V :=
 run_loadVar_mid V b 0 233 (XG f) _ h.range Tryz.underlying233 rfl (by rw[OP];kernel_rfl)
theorem Xn.written{V:World}{b:Nat}{g:Nat→Bool}(h:Xn V b g)(f:Nat→Bool):Xn (V.setCells b 0 (XG f)) b f:=by
 refine⟨fun i hi=>?_,fun o=>?_⟩
 ·have:=World.rangeAt_setCells_same V b 0 (XG f) (by rw[OP];exact h.there) i (.bool (f i)) (F5 f i hi)
  rwa [Zv]at this
 ·rw[World.frozen?_setCells];exact h.fz o
theorem Xn.below{V V':World}{b B:Nat}{f:Nat→Bool}(h:Xn V b f)(hV:Below B V V')(hb:b<B):Xn V' b f :=
 ⟨fun i hi=>(hV.cell (p:=⟨b,i,none⟩) hb).trans (h.c i hi),fun o=>(hV.frozen (p:=⟨b,o,none⟩) hb).trans (h.fz o)⟩
theorem Xn.plus{V:World}{b:Nat}{f:Nat→Bool}(h:Xn V b f)(hb:b<V.heap.size)(x:ZH):Xn (plus V x) b f:=h.below (Xl V x) hb
theorem Xn.other{V:World}{b:Nat}{f:Nat→Bool}(h:Xn V b f)(a:Addr)(ha:a.block≠b)(v:Value):Xn (V.setCell a v) b f :=
 ⟨fun i hi=>(ZA _ _ _ _ (fun e=>ha (by rw[e]))).trans (h.c i hi),fun o=>by rw[World.frozen?_setCell];exact h.fz o⟩
theorem Xn.set{V:World}{b:Nat}{f:Nat→Bool}(h:Xn V b f)(k:Nat)(hk:k<128)(x):Xn (V.setCell ⟨b,k,none⟩ (.bool x)) b (fun i=>if i=k then x else f i):=by
 refine⟨fun i hi=>?_,fun o=>by rw[World.frozen?_setCell];exact h.fz o⟩;by_cases e:i=k
 ·subst e
  rw[if_pos rfl];exact World.cell?_setCell_same _ _ _ (h.c i hi)
 ·rw[if_neg e,ZA _ _ _ _ (by intro h;injection h with _ h2;omega)]
  exact h.c i hi
theorem Xn.new(w:World)(f:Nat→Bool)(T:TypeId):Xn (w.alloc (.cells (XG f).toArray T)) w.heap.size f :=
 ⟨fun i hi=>(YI w _ T _ i rfl).trans (by simpa using F5 f i hi),fun o=>Ra w _ T _ o rfl⟩
theorem Xn.old{V:World}{b:Nat}{f:Nat→Bool}(h:Xn V b f)(hb:b<V.heap.size)(o:Obj):Xn (V.alloc o) b f:=h.below ((Zb _ _).alloc (Zt _) o) hb
theorem Pa{B:Nat}:∀(vs:List Value) (o:Nat) (a w:World) (b:Nat),Below B a w→B≤b→Below B a (w.setCells b o vs)
 | [],_,_,_,_,h,_=>h
 | v :: r,o,a,w,b,h,hb=>by
  rw[World.setCells];exact Pa r (o+1) a _ b (h.setCell hb v) hb
theorem nG(f:Nat→Bool)(w:World):(Instr.box 233 (RW f)).run Zx w=.ok (.pointer (some ⟨w.heap.size,0,none⟩)) (w.alloc (.cells (XG f).toArray 233)):=by
 kernel_rfl
theorem dZ{P:Program}{fn:Func}{p:Tmp}{ty:TypeId}(h:fn.results=#[.cell p ty])(tmps:Array Value)(w:World)(a:Addr)(ha:tmps.getD p undef=.pointer (some a))(v:Value)(hv:(loadVar ty a).run P w=.ok v w) :
  (results fn tmps).run P w=.ok v w:=by
 have ha':tmps[p]?.getD undef=.pointer (some a):=by simpa using ha
 simp only[results,h];simp[ha',asAddr,hv]
theorem Ch(w:World):(zeroValue 233).run Zx w=.ok (RW fun _=>false) w:=asC
def Xm(n i:Nat):Bool:=n.testBit i
theorem ix(n k:Nat)(hk:k<64):(((n % 2 ^ 64 / 2 ^ k:Nat):Int) % 2==1)=Xm n k:=by
 unfold Xm;rw[Nat.testBit_eq_decide_div_mod_eq];have h:n % 2 ^ 64 / 2 ^ k % 2=n / 2 ^ k % 2:=by
  have e1:=Nat.testBit_mod_two_pow n 64 k;rw[Nat.testBit_eq_decide_div_mod_eq,Nat.testBit_eq_decide_div_mod_eq,decide_eq_true hk,Bool.true_and,decide_eq_decide]at e1;omega
 rw[←h,Bool.eq_iff_iff,beq_iff_eq,decide_eq_true_eq];omega
theorem kU(n k:Nat):(((n / 2 ^ 64 / 2 ^ k:Nat):Int) % 2==1)=Xm n (64+k):=by
 unfold Xm;rw[Nat.testBit_eq_decide_div_mod_eq,Nat.pow_add,←Nat.div_div_eq_div_mul,Bool.eq_iff_iff,beq_iff_eq,decide_eq_true_eq];omega
theorem Bv(a k:Nat):((a / 2 ^ k:Nat):Int) / 2=((a / 2 ^ (k+1):Nat):Int):=by rw[Nat.pow_succ,←Nat.div_div_eq_div_mul];rfl
def Pb(n k i:Nat):Bool:=(decide (i<k)||(decide (64≤i)&&decide (i<64+k)))&&Xm n i
theorem nr(n i:Nat)(h:i<128):Pb n 64 i=Xm n i:=by
 unfold Pb;by_cases h1:i<64
 ·simp[h1]
 ·simp[h1,h,show 64≤i by omega]
theorem nw(n i:Nat):Pb n 0 i=false:=by
 unfold Pb;by_cases h1:64≤i
 ·simp;omega
 ·simp[h1]
theorem nu(n k i:Nat)(hk:k<64):(if i=64+k then Xm n (64+k) else if i=k then Xm n k else Pb n k i)=Pb n (k+1) i:=by
 unfold Pb;by_cases h1:i=64+k
 ·subst h1;rw[if_pos rfl];simp
 ·rw[if_neg h1]
  by_cases h2:i=k
  ·subst h2;rw[if_pos rfl];simp
  ·rw[if_neg h2]
   congr 1
   rw[Bool.eq_iff_iff];simp only[Bool.or_eq_true,Zc,decide_eq_true_eq];omega
structure PV (w:World) (n k:Nat) (V:World):Prop where
 below:Below w.heap.size w V
 size:w.heap.size+1+1+1≤V.heap.size
 n0:V.cell? ⟨w.heap.size,0,none⟩=some (.int .u64 ((n / 2 ^ 64 / 2 ^ k:Nat):Int))
 n1:V.cell? ⟨w.heap.size,1,none⟩=some (.int .u64 ((n % 2 ^ 64 / 2 ^ k:Nat):Int))
 fn:∀o,V.frozen? ⟨w.heap.size,o,none⟩=false
 res:Xn V (w.heap.size+1) fun _=>false
 row:Xn V (w.heap.size+1+1) (Pb n k)
theorem PV.start(w:World)(n:Nat)(T:TypeId):PV w n 0 (((w.alloc (.cells #[.int .u64 (hi n),.int .u64 (lo n)] T)).alloc (.cells (XG fun _=>false).toArray 233)).alloc (.cells (XG fun _=>false).toArray 233)):=by
 have h1:(w.alloc (.cells #[.int .u64 (hi n),.int .u64 (lo n)] T)).heap.size=w.heap.size+1:=asD;have h2:((w.alloc (.cells #[.int .u64 (hi n),.int .u64 (lo n)] T)).alloc (.cells (XG fun _=>false).toArray 233)).heap.size=w.heap.size+1+1:=asD;refine⟨(((Zb _ _).alloc (Zt _) _).alloc asB _).alloc asB _,asD,?_,?_,?_,?_,?_⟩
 ·rw[Nat.pow_zero,Nat.div_one];exact (V6 _ _ _ 0 asB).trans ((V6 _ _ _ 0 asB).trans (YI w _ T _ 0 rfl))
 ·rw[Nat.pow_zero,Nat.div_one];exact (V6 _ _ _ 1 asB).trans ((V6 _ _ _ 1 asB).trans (YI w _ T _ 1 rfl))
 ·exact fun o=>(QR _ _ _ o asB).trans ((QR _ _ _ o asB).trans (Ra w _ T _ o rfl))
 ·have:=(Xn.new (w.alloc (.cells #[.int .u64 (hi n),.int .u64 (lo n)] T)) (fun _=>false) 233).old asD (.cells (XG fun _=>false).toArray 233)
  rwa [h1]at this
 ·have:=Xn.new ((w.alloc (.cells #[.int .u64 (hi n),.int .u64 (lo n)] T)).alloc (.cells (XG fun _=>false).toArray 233)) (fun _=>false) 233
  rw[h2]at this;exact this.congr fun i _=>(nw n i).symm
theorem PV.step{w V:World}{n k:Nat}(h:PV w n k V)(hk:k<64)(N M:Int)(hN:N=((n / 2 ^ 64 / 2 ^ (k+1):Nat):Int))(hM:M=((n % 2 ^ 64 / 2 ^ (k+1):Nat):Int)) :
  PV w n (k+1) ((((V.setCell ⟨w.heap.size+1+1,k,none⟩ (.bool (Xm n k))).setCell ⟨w.heap.size+1+1,64+k,none⟩ (.bool (Xm n (64+k)))).setCell ⟨w.heap.size,1,none⟩ (.int .u64 M)).setCell ⟨w.heap.size,0,none⟩ (.int .u64 N)):=by
 subst hN hM;refine⟨(((h.below.setCell (Nat.le_add_right _ 2) _).setCell (Nat.le_add_right _ 2) _).setCell (Zt _) _).setCell (Zt _) _,by have:=h.size;simp[World.setCell];omega,?_,?_,?_,?_,?_⟩
 ·refine World.cell?_setCell_same _ _ _ (u:=.int .u64 ((n / 2 ^ 64 / 2 ^ k:Nat):Int)) ?_
  rw[ZA _ _ _ _ asD,ZA _ _ _ _ asD,ZA _ _ _ _ asD];exact h.n0
 ·rw[ZA _ _ _ _ asD]
  refine World.cell?_setCell_same _ _ _ (u:=.int .u64 ((n % 2 ^ 64 / 2 ^ k:Nat):Int)) ?_;rw[ZA _ _ _ _ asD,ZA _ _ _ _ asD];exact h.n1
 ·intro o;simp only[World.frozen?_setCell];exact h.fn o
 ·exact (((h.res.other _ asD _).other _ asD _).other _ asD _).other _ asD _
 ·refine (((((h.row.set k asB _).set (64+k) asB _).other _ atq _).other _ atq _)).congr fun i _=>?_
  exact nu n k i hk
theorem FW(n:Nat)(hn:n<Wb):WR Zx 208 #[nv n] (RW (Xm n)):=by
 intro w;have hz:=Ch;have ZO:=Zf hn;clear hn;go_enter func208,ntmps208;go_wp2;go_loopw [4] (fun kk V=>∃k:Nat,k≤64∧kk=.int .i64 k∧PV w n k V) (fun kk _=>64-(intOf kk).toNat)
 case atStart=>exact⟨0,Zw _,rfl,PV.start w n _⟩
 case round =>
  obtain⟨k,hk,rfl,hT⟩:=hrel;by_cases ZC:k<64
  ·have n0:=hT.n0
   have n1:=hT.n1;have fn:=hT.fn;have fr:=hT.row.fz;have ck:=hT.row.c k asB;have ck2:=hT.row.c (64+k) asB;have hb1:=ix n k ZC;have hb2:=kU n k;have hS:=Zf (hT.step ZC (((n / 2 ^ 64 / 2 ^ k:Nat):Int) / 2) (((n % 2 ^ 64 / 2 ^ k:Nat):Int) / 2) (Bv _ k) (Bv _ k));have u1:((n / 2 ^ 64 / 2 ^ k:Nat):Int)≤18446744073709551615:=by
    have h1:=ZO.out;rw[Q9]at h1;have:n / 2 ^ 64 / 2 ^ k≤n / 2 ^ 64:=Nat.div_le_self _ _;omega
   have u2:((n % 2 ^ 64 / 2 ^ k:Nat):Int)≤18446744073709551615:=by
    have:n % 2 ^ 64 / 2 ^ k≤n % 2 ^ 64:=Nat.div_le_self _ _;omega
   generalize n / 2 ^ 64 / 2 ^ k=H at *;generalize n % 2 ^ 64 / 2 ^ k=L at *;generalize Xm n k=x1 at *;generalize Xm n (64+k)=x2 at *;clear hT;go_wp2;go_roundw
   case rel=>exact⟨k+1,asB,by go_num,hS.out⟩
   case measure=>simp[intOf];omega
  ·obtain rfl:k=64:=by omega
   have Yj:=hT.row.congr (nr n);have hrg:=Zf Yj.range;have hth:=Zf (hT.res.there' (Xm n));have hv:=(hT.res.written (Xm n)).loadVar;have WB:=Zf hT;clear hT Yj;go_wp2_with (first|refine wpList_load_mid rfl 233 _ rfl (w.heap.size+1+1) 0 rfl (XG (Xm n)) _ hrg.out Tryz.underlying233 rfl (yS _) ?_|refine wpList_store_mid rfl 233 _ _ rfl (w.heap.size+1) 0 (XG (Xm n)).toArray rfl rfl hth.out (J2 _) (J0 _) ?_);exact bodyPost_ret (v:=RW (Xm n)) (dZ Tryz.results208 _ _ ⟨w.heap.size+1,0,none⟩ rfl _ hv) rfl ⟨rfl,Yy (Pa _ _ _ _ _ WB.out.below (Nat.le_add_right _ 1))⟩
def WE(f:Nat→Bool)(b:Nat):Nat→Nat
 | 0=>0
 | k+1=>2*WE f b k+(f (b+63-k)).toNat
theorem Nn(f:Nat→Bool)(b:Nat):∀k,WE f b k<2 ^ k
 | 0=>by simp[WE]
 | k+1=>by
  have:=Nn f b k;have h2:(f (b+63-k)).toNat≤1:=by cases f (b+63-k) <;> simp
  rw[WE,Nat.pow_succ];omega
theorem Hz(f:Nat→Bool)(b:Nat):∀k i,k≤64→(WE f b k).testBit i=(decide (i<k)&&f (b+(64-k)+i))
 | 0,i,_=>by simp[WE]
 | k+1,0,hk=>by
  rw[WE,Nat.testBit_zero];cases h:f (b+63-k) <;> rw[show b+(64-(k+1))+0=b+63-k by omega,h] <;> simp
 | k+1,i+1,hk=>by
  rw[WE,Nat.testBit_succ];have:(2*WE f b k+(f (b+63-k)).toNat) / 2=WE f b k:=by
   have h2:(f (b+63-k)).toNat≤1:=by cases f (b+63-k) <;> simp
   omega
  rw[this,Hz f b k i asB,show b+(64-(k+1))+(i+1)=b+(64-k)+i by omega];simp
def Qx(f:Nat→Bool):Nat:=WE f 64 64*2 ^ 64+WE f 0 64
theorem gq(f:Nat→Bool):hi (Qx f)=(WE f 64 64:Nat):=by
 have h2:=Nn f 0 64;unfold hi Qx;omega
theorem gu(f:Nat→Bool):lo (Qx f)=(WE f 0 64:Nat):=by
 have h2:=Nn f 0 64;unfold lo Qx;omega
theorem gj(f:Nat→Bool)(i:Nat):(Qx f).testBit i=(decide (i<128)&&f i):=by
 have h2:=Nn f 0 64;unfold Qx;rw[Nat.mul_comm,Nat.testBit_two_pow_mul_add _ h2];split
 ·rename_i h
  rw[Hz f 0 64 i asB,show 0+(64-64)+i=i by omega];simp[h,show i<128 by omega]
 ·rename_i h
  rw[Hz f 64 64 (i-64) asB,show 64+(64-64)+(i-64)=i by omega];congr 1
  rw[decide_eq_decide];omega
theorem gm(f:Nat→Bool)(n:Nat)(hn:n<Wb)(h:∀i,i<128→f i=n.testBit i):Qx f=n:=by
 apply Nat.eq_of_testBit_eq;intro i;rw[gj];by_cases hi:i<128
 ·simp[hi,h i hi]
 ·rw[Q9]at hn
  have:n.testBit i=false:=Nat.testBit_lt_two_pow (Zu hn (Nat.pow_le_pow_right asE asB));simp[hi,this]
structure N2 (w:World) (f:Nat→Bool) (h l:Int) (V:World):Prop where
 below:Below w.heap.size w V
 size:w.heap.size+1+1+1≤V.heap.size
 n0:V.cell? ⟨w.heap.size+1+1,0,none⟩=some (.int .u64 h)
 n1:V.cell? ⟨w.heap.size+1+1,1,none⟩=some (.int .u64 l)
 r0:V.cell? ⟨w.heap.size+1,0,none⟩=some (.int .u64 0)
 r1:V.cell? ⟨w.heap.size+1,1,none⟩=some (.int .u64 0)
 fn:∀o,V.frozen? ⟨w.heap.size+1+1,o,none⟩=false
 fr:∀o,V.frozen? ⟨w.heap.size+1,o,none⟩=false
 row:Xn V w.heap.size f
theorem N2.set0{w V:World}{f:Nat→Bool}{h l:Int}(H:N2 w f h l V)(v:Int):N2 w f v l (V.setCell ⟨w.heap.size+1+1,0,none⟩ (.int .u64 v)) :=
 ⟨H.below.setCell (Nat.le_add_right _ 2) _,by have:=H.size;simp[World.setCell];omega,World.cell?_setCell_same _ _ _ H.n0,(ZA _ _ _ _ asD).trans H.n1,(ZA _ _ _ _ asD).trans H.r0,(ZA _ _ _ _ asD).trans H.r1,
  fun o=>by rw[World.frozen?_setCell];exact H.fn o,fun o=>by rw[World.frozen?_setCell];exact H.fr o,H.row.other _ atq _⟩
theorem N2.set1{w V:World}{f:Nat→Bool}{h l:Int}(H:N2 w f h l V)(v:Int):N2 w f h v (V.setCell ⟨w.heap.size+1+1,1,none⟩ (.int .u64 v)) :=
 ⟨H.below.setCell (Nat.le_add_right _ 2) _,by have:=H.size;simp[World.setCell];omega,(ZA _ _ _ _ asD).trans H.n0,World.cell?_setCell_same _ _ _ H.n1,(ZA _ _ _ _ asD).trans H.r0,(ZA _ _ _ _ asD).trans H.r1,
  fun o=>by rw[World.frozen?_setCell];exact H.fn o,fun o=>by rw[World.frozen?_setCell];exact H.fr o,H.row.other _ atq _⟩
theorem N2.cast{w V:World}{f:Nat→Bool}{h l h' l':Int}(H:N2 w f h l V)(e:h=h')(e':l=l'):N2 w f h' l' V:=by subst e e';exact H
theorem N2.start(w:World)(f:Nat→Bool)(T:TypeId):N2 w f 0 0 (((w.alloc (.cells (XG f).toArray 233)).alloc (.cells #[.int .u64 0,.int .u64 0] T)).alloc (.cells #[.int .u64 0,.int .u64 0] T)):=by
 have h1:(w.alloc (.cells (XG f).toArray 233)).heap.size=w.heap.size+1:=asD;have h2:((w.alloc (.cells (XG f).toArray 233)).alloc (.cells #[.int .u64 0,.int .u64 0] T)).heap.size=w.heap.size+1+1:=asD;exact⟨(((Zb _ _).alloc (Zt _) _).alloc asB _).alloc asB _,asD,YI _ _ T _ 0 h2.symm,YI _ _ T _ 1 h2.symm,
  (V6 _ _ _ 0 asB).trans (YI _ _ T _ 0 h1.symm),(V6 _ _ _ 1 asB).trans (YI _ _ T _ 1 h1.symm),fun o=>Ra _ _ T _ o h2.symm,fun o=>(QR _ _ _ o asB).trans (Ra _ _ T _ o h1.symm),
  ((Xn.new w f 233).old asD _).old asB _⟩
theorem dN(f:Nat→Bool):WR Zx 209 #[RW f] (nv (Qx f)):=by
 intro w;have hb:=nG f;go_enter func209,ntmps209;go_wp2;go_loopw [4] (fun kk V=>∃j:Nat,j≤64∧kk=.int .i64 (63-(j:Int))∧N2 w f ((WE f 64 j:Nat):Int) ((WE f 0 j:Nat):Int) V) (fun kk _=>(1+intOf kk).toNat)
 case atStart=>exact⟨0,Zw _,rfl,N2.start w f _⟩
 case round =>
  obtain⟨j,hj,rfl,hT⟩:=hrel;by_cases ZC:j<64
  ·obtain⟨i,hi⟩:∃i:Nat,i+j=63:=⟨63-j,asB⟩
   have e63:(63:Int)-(j:Int)=(i:Int):=asB;rw[e63];have n0:=hT.n0;have n1:=hT.n1;have fn:=hT.fn;have c1:=hT.row.c i asB;have c2:=hT.row.c (64+i) asB;have u0:((WE f 64 j:Nat):Int)≤9223372036854775807:=by
    have:=Nn f 64 j;exact vd
   have u1:((WE f 0 j:Nat):Int)≤9223372036854775807:=by
    have:=Nn f 0 j;exact vd
   have s0:Hid (WE f 64 (j+1)=2*WE f 64 j+(f (64+i)).toNat):=by
    show _=_
    rw[WE,show 64+63-j=64+i by omega]
   have s1:Hid (WE f 0 (j+1)=2*WE f 0 j+(f i).toNat):=by
    show _=_
    rw[WE,show 0+63-j=i by omega]
   have hi':=Zf hi;have hib:i≤63:=asB;have e63':=Zf e63;have WB:=Zf hT;clear hT hi e63;generalize WE f 64 j=H at *;generalize WE f 0 j=L at *;cases UO:f i <;> cases Uw:f (64+i) <;> rw[UO]at c1 s1 <;> rw[Uw]at c2 s0 <;> clear UO Uw
   ·go_wp2
    go_roundw
    case rel =>
     refine⟨j+1,asB,atO,?_⟩;rw[s0.out,s1.out];exact ((WB.out.set1 _).set0 _).cast asM asM
    case measure=>simp[intOf];omega
   ·go_wp2
    go_roundw
    case rel =>
     refine⟨j+1,asB,atO,?_⟩;rw[s0.out,s1.out];exact (((WB.out.set1 _).set0 _).set0 _).cast asM asM
    case measure=>simp[intOf];omega
   ·go_wp2
    go_roundw
    case rel =>
     refine⟨j+1,asB,atO,?_⟩;rw[s0.out,s1.out];exact (((WB.out.set1 _).set0 _).set1 _).cast asM asM
    case measure=>simp[intOf];omega
   ·go_wp2
    go_roundw
    case rel =>
     refine⟨j+1,asB,atO,?_⟩;rw[s0.out,s1.out];exact ((((WB.out.set1 _).set0 _).set1 _).set0 _).cast asM asM
    case measure=>simp[intOf];omega
  ·obtain rfl:j=64:=by omega
   have n0:=hT.n0;have n1:=hT.n1;have r0:=hT.r0;have r1:=hT.r1;have fr:=hT.fr;have E:Hid (Value.agg #[.int .u64 ((WE f 64 64:Nat):Int),.int .u64 ((WE f 0 64:Nat):Int)]=nv (Qx f)):=by
    show _=_
    unfold nv;rw[gq,gu]
   have WB:=Zf hT;clear hT ZC hj;generalize WE f 64 64=H at *;generalize WE f 0 64=L at *;go_wp2;exact bodyPost_ret (v:=.agg #[.int .u64 (H:Int),.int .u64 (L:Int)]) (by simp[results,Tryz.results209,go_sem,r0,r1]) rfl ⟨congrArg Zd E.out,Yy ((WB.out.below.setCell (Nat.le_add_right _ 1) _).setCell (Nat.le_add_right _ 1) _)⟩
structure R1 (w:World) (rb b:Nat) (f:Nat→Bool) (V:World):Prop where
 below:Below w.heap.size w V
 le:w.heap.size≤rb
 lt:rb<b
 blt:b<V.heap.size
 r0:V.cell? ⟨rb,0,none⟩=some (.int .u64 0)
 r1:V.cell? ⟨rb,1,none⟩=some (.int .u64 0)
 fr:∀o,V.frozen? ⟨rb,o,none⟩=false
 row:Xn V b f
theorem R1.set{w V:World}{rb b:Nat}{f:Nat→Bool}(h:R1 w rb b f V)(k:Nat)(hk:k<128)(x:Bool):R1 w rb b (fun i=>if i=k then x else f i) (V.setCell ⟨b,k,none⟩ (.bool x)):=by
 have h1:=h.le;have h2:=h.lt;exact⟨h.below.setCell (by show _≤b;omega) _,h.le,h.lt,by simpa [World.setCell]using h.blt,(ZA _ _ _ _ atq).trans h.r0,(ZA _ _ _ _ atq).trans h.r1,fun o=>by rw[World.frozen?_setCell];exact h.fr o,h.row.set k hk x⟩
theorem R1.p0{w V:World}{rb b:Nat}{f:Nat→Bool}(h:R1 w rb b f V)(y:ZH):(plus V y).cell? ⟨rb,0,none⟩=some (.int .u64 0):=(TI V y _ _ (Nat.lt_trans h.lt h.blt)).trans h.r0
theorem R1.p1{w V:World}{rb b:Nat}{f:Nat→Bool}(h:R1 w rb b f V)(y:ZH):(plus V y).cell? ⟨rb,1,none⟩=some (.int .u64 0):=(TI V y _ _ (Nat.lt_trans h.lt h.blt)).trans h.r1
theorem R1.pf{w V:World}{rb b:Nat}{f:Nat→Bool}(h:R1 w rb b f V)(y:ZH)(o:Nat):(plus V y).frozen? ⟨rb,o,none⟩=false:=(Od V y _ _ (Nat.lt_trans h.lt h.blt)).trans (h.fr o)
theorem R1.fin{w V:World}{rb b:Nat}{f:Nat→Bool}(h:R1 w rb b f V)(y:ZH)(u v:Value):∃x,((plus V y).setCell ⟨rb,0,none⟩ u).setCell ⟨rb,1,none⟩ v=plus w x:=OK h.below h.le u v
theorem R1.congr{w V:World}{rb b:Nat}{f g:Nat→Bool}(h:R1 w rb b f V)(e:∀i,i<128→f i=g i):R1 w rb b g V:=⟨h.below,h.le,h.lt,h.blt,h.r0,h.r1,h.fr,h.row.congr e⟩
theorem R1.make{w W:World}{rb:Nat}{x:ZH}(hB:Below w.heap.size w W)(Uy:w.heap.size≤rb)(ZC:rb<W.heap.size)(r0:∀y,(plus W y).cell? ⟨rb,0,none⟩=some (.int .u64 0))(r1:∀y,(plus W y).cell? ⟨rb,1,none⟩=some (.int .u64 0))(fr:∀y o,(plus W y).frozen? ⟨rb,o,none⟩=false)(f:Nat→Bool)(T:TypeId) :
  R1 w rb (plus W x).heap.size f ((plus W x).alloc (.cells (XG f).toArray T)):=by
 have hs:=XZ W x;have h0:=hB.size;exact⟨(hB.trans ((Xl W x).mono h0)).alloc asB _,Uy,asB,asD,(V6 _ _ _ 0 asB).trans (r0 x),(V6 _ _ _ 1 asB).trans (r1 x),fun o=>(QR _ _ _ o asB).trans (fr x o),Xn.new _ f T⟩
def upto(g f:Nat→Bool)(k i:Nat):Bool:=if i<k then g i else f i
theorem aaR(g f:Nat→Bool)(i:Nat):upto g f 0 i=f i:=if_neg asB
theorem aaP(g f:Nat→Bool)(k:Nat):upto g f k k=f k:=if_neg asB
theorem aaQ(g f:Nat→Bool)(k i:Nat):(if i=k then g k else upto g f k i)=upto g f (k+1) i:=by
 unfold upto;by_cases h:i=k
 ·subst h;rw[if_pos rfl,if_pos asB]
 ·rw[if_neg h]
  by_cases h1:i<k
  ·rw[if_pos h1,if_pos asB]
  ·rw[if_neg h1,if_neg asB]
theorem aaO(g f:Nat→Bool)(i:Nat)(h:i<128):upto g f 128 i=g i:=if_pos h
def S8(n:Nat)(k:Int)(i:Nat):Bool:=Xm n i&&decide ((i:Int)<k)
theorem mC(n:Nat)(k:Int):Qx (S8 n k)=n % 2 ^ hw k:=by
 refine gm _ _ (ya n k) fun i hi=>?_;rw[Nat.testBit_mod_two_pow];unfold S8 Xm;rw[Bool.and_comm];congr 1
 unfold hw Vo;rw[decide_eq_decide];omega
theorem R1.write{w V:World}{rb b:Nat}{f:Nat→Bool}(h:R1 w rb b f V)(g:Nat→Bool):R1 w rb b g (V.setCells b 0 (XG g)):=by
 have h1:=h.le;have h2:=h.lt;refine⟨Pa _ _ _ _ _ h.below asB,h.le,h.lt,Zu h.blt (Pa _ _ _ _ _ (Zb 0 V) (Zw _)).size,?_,?_,fun o=>by rw[World.frozen?_setCells];exact h.fr o,h.row.written g⟩
 ·rw[World.cell?_setCells_out _ _ _ _ _ (fun e _=>absurd e asM)];exact h.r0
 ·rw[World.cell?_setCells_out _ _ _ _ _ (fun e _=>absurd e asM)];exact h.r1
theorem dH(n:Nat)(k)(hn:n<Wb):WR Zx 185 #[nv n,.int .i64 k] (nv (n % 2 ^ hw k)):=by
 intro w;have hz:=Ch;have S:=Zf ((dN (S8 n k)).eqv (congrArg nv (mC n k)));have Bt:=Zf (FW n hn);clear hn;go_enter func185,ntmps185;go_wp2_with fail;obtain⟨W,hW,hB,hs,ca,cr,fa,fr⟩:=QM w _ _ 40 40;rw[←hW];have r0:=cr 0 (some (.int .u64 0)) rfl;have r1:=cr 1 (some (.int .u64 0)) rfl;clear ca cr fa hW;refine (Bt.out W).mono ?_;rintro e w' ⟨rfl,x,rfl⟩;have hmk:=R1.make (x:=x) hB (rb:=w.heap.size+1) asB asB r0 r1 fr (fun _=>false) 233;have hth:=Zf (hmk.row.there' (Xm n));have hmk':=Zf (hmk.write (Xm n));clear hmk r0 r1 fr hB hs;go_wp2_with (first|refine wpList_store_mid rfl 233 _ _ rfl (plus W x).heap.size 0 (XG (Xm n)).toArray rfl rfl hth.out (J2 _) (J0 _) ?_|fail);generalize hb:(plus W x).heap.size=b at hmk';go_loopw [6] (fun kk V=>∃j:Nat,j≤128∧kk=.int .i64 j∧R1 w (w.heap.size+1) b (upto (S8 n k) (Xm n) j) V) (fun kk _=>128-(intOf kk).toNat)
 case atStart=>exact⟨0,Zw _,rfl,hmk'.out.congr fun i _=>(aaR (S8 n k) (Xm n) i).symm⟩
 case round =>
  obtain⟨j,hj,rfl,hT⟩:=hrel;by_cases ZC:j<128
  ·have cj:=hT.row.c j ZC
   rw[aaP]at cj;have fz:=hT.row.fz;have hS:Hid (∀x,x=S8 n k j→R1 w (w.heap.size+1) b (upto (S8 n k) (Xm n) (j+1)) (wr.setCell ⟨b,j,none⟩ (.bool x))):=fun x hx=>by
    subst hx;exact (hT.set j ZC (S8 n k j)).congr fun i _=>aaQ (S8 n k) (Xm n) j i
   have hd:Hid (S8 n k j=(Xm n j&&decide ((j:Int)<k))):=rfl;clear hT;cases hbit:Xm n j <;> rw[hbit]at cj
   ·go_wp2
    go_roundw
    case rel=>exact⟨j+1,asB,by go_num,hS.out _ (by rw[hd.out,hbit];rfl)⟩
    case measure=>simp[intOf];omega
   ·go_wp2
    go_roundw
    case rel=>exact⟨j+1,asB,by go_num,hS.out _ (by rw[hd.out,hbit];rfl)⟩
    case measure=>simp[intOf];omega
  ·obtain rfl:j=128:=by omega
   have Yj:=hT.row.congr (aaO (S8 n k) _);have hrg:=Zf Yj.range;have q0:=hT.p0;have q1:=hT.p1;have qf:=hT.pf;have WB:=Zf hT;clear hT Yj;go_wp2_with (first|refine wpList_load_mid rfl 233 _ rfl b 0 rfl (XG (S8 n k)) _ hrg.out Tryz.underlying233 rfl (yS _) ?_|fail);refine (S.out wr).mono ?_;rintro e w' ⟨rfl,y,rfl⟩;go_wp2;exact bodyPost_ret (v:=.agg #[.int .u64 (hi (n % 2 ^ hw k)),.int .u64 (lo (n % 2 ^ hw k))]) (by simp[results,Tryz.results185,go_sem,q0,q1]) rfl ⟨rfl,WB.out.fin y _ _⟩
theorem not_lt(n:Nat)(k:Int):n % 2 ^ hw k ^^^ (2 ^ hw k-1)<Wb:=by
 have h1:=ya n k;have h2:=zR k;rw[Q9]at *;exact Nat.xor_lt_two_pow h1 h2
theorem FY(n:Nat)(k)(hn:n<Wb):WR Zx 122 #[nv n,.int .i64 k] (.bool (decide (n % 2 ^ hw k=n))):=by
 intro w;have S:=Zf (dH n k hn);have eqN:=C7;clear hn;go_enter func122,ntmps122;exact pp
structure R2 (w:World) (rb bx b:Nat) (f g:Nat→Bool) (V:World):Prop where
 one:R1 w rb b g V
 lx:rb<bx
 xb:bx<b
 x:Xn V bx f
theorem R2.set{w V:World}{rb bx b:Nat}{f g:Nat→Bool}(h:R2 w rb bx b f g V)(k:Nat)(hk:k<128)(x:Bool):R2 w rb bx b f (fun i=>if i=k then x else g i) (V.setCell ⟨b,k,none⟩ (.bool x)):=by
 have:=h.xb;exact⟨h.one.set k hk x,h.lx,h.xb,h.x.other _ asM _⟩
theorem R2.congr{w V:World}{rb bx b:Nat}{f g g':Nat→Bool}(h:R2 w rb bx b f g V)(e:∀i,i<128→g i=g' i):R2 w rb bx b f g' V:=⟨h.one.congr e,h.lx,h.xb,h.x⟩
theorem R2.make{w V:World}{rb bx:Nat}{f:Nat→Bool}(h:R1 w rb bx f V)(T:TypeId):R2 w rb bx V.heap.size f (fun _=>false) (V.alloc (.cells (XG fun _=>false).toArray T)):=by
 have h1:=h.lt;have h2:=h.blt;have h3:=h.below.size;exact⟨⟨h.below.alloc asB _,h.le,asB,asD,(V6 _ _ _ 0 asB).trans h.r0,(V6 _ _ _ 1 asB).trans h.r1,fun o=>(QR _ _ _ o asB).trans (h.fr o),Xn.new V _ T⟩,h1,h2,h.row.old h2 _⟩
theorem abc{P:Program}{md:Region.Mode}{ops:Array Oper}{Q:Exit→Act→World→Prop}(I:Array Bool→Act→World→Prop)(hd:∀l a w,I l a w→Region.ready md ops l=[]→Q .normal a w)(hs:∀l a w i,I l a w→i∈Region.ready md ops l→wpOp P ops Q i (I (l.setIfInBounds i true)) a w) :
  ∀(fuel:Nat) (l:Array Bool) (a:Act) (w:World),l.toList.count false≤fuel→I l a w→wpAny P md ops Q fuel l a w:=by
 have key:∀(l:Array Bool) (j:Nat),j∈Region.ready md ops l→∃h:j<l.toList.length,l.toList[j]=false:=fun l j hj=>by
  have h1:=(mem_ready.1 hj).1;by_cases h:j<l.size
  ·exact⟨asN,by simpa [Array.getD,h]using h1⟩
  ·simp[Array.getD,h]at h1
 intro fuel;induction fuel with
 | zero =>
  intro l a w hc hI;have h0:Region.ready md ops l=[]:=by
   refine List.eq_nil_iff_forall_not_mem.2 fun j hj=>?_;obtain⟨h,e⟩:=key l j hj;have h2:false∈l.toList:=e▸List.getElem_mem h;have:=List.count_pos_iff.2 h2;omega
  exact⟨h0,hd l a w hI h0⟩
 | succ n ih =>
  intro l a w hc hI;refine⟨hd l a w hI,fun i hi=>?_⟩;obtain⟨h,e⟩:=key l i hi;have h2:(l.setIfInBounds i true).toList.count false≤n:=by
   have h3:=List.count_pos_iff.2 (e▸List.getElem_mem h:false∈l.toList);rw[Array.toList_setIfInBounds,List.count_set h,e,if_pos (beq_self_eq_true false),if_neg asE];omega
  exact wpOp_mono (fun a' w' h'=>ih _ a' w' h2 h') (hs l a w i hI hi)
structure QG (B:Nat) (V:World) (t:Value) (on wr:Bool) (f:Nat→Bool):Prop where
 row:on=true→∃p,t=.pointer (some ⟨p,0,none⟩)∧B≤p∧p<V.heap.size∧∃g,Xn V p g∧(wr=true→g=f)
 need:wr=true→on=true
structure Wx (w W:World) (va vb:Value) (f g:Nat→Bool) (b0 b1 b2 b3 b4 b5 b6 b7:Bool) (t5 t6 t8 t9 t10 t11:Value) (V:World):Prop where
 below:Below W.heap.size W V
 e0:b0=true→t8=va
 e1:b1=true→t9=RW f
 e2:b2=true→t10=vb
 e3:b3=true→t11=RW g
 x:QG W.heap.size V t5 b4 b6 f
 y:QG W.heap.size V t6 b5 b7 g
 apart:b4=true→b5=true→∀p q,t5=.pointer (some ⟨p,0,none⟩)→t6=.pointer (some ⟨q,0,none⟩)→p≠q
theorem QG.go{B:Nat}{V V':World}{t:Value}{on wr:Bool}{f:Nat→Bool}(h:QG B V t on wr f)(hV:∀B,B=V.heap.size→Below B V V'):QG B V' t on wr f:=by
 refine⟨fun e=>?_,h.need⟩;obtain⟨p,e1,e2,e3,g,e4,e5⟩:=h.row e;exact⟨p,e1,e2,Zu e3 (hV _ rfl).size,g,e4.below (hV _ rfl) e3,e5⟩
def HP(b0 b1 b2 b3 b4 b5:Bool)(i:Nat):Bool:=match i with
 | 0=>true
 | 1=>b0
 | 2=>true
 | 3=>b2
 | 4=>!b4
 | 5=>!b5
 | 6=>b1&&b4
 | 7=>b3&&b5
 | _=>false
theorem mb(b0 b1 b2 b3 b4 b5:Bool)(i:Nat)(h:HP b0 b1 b2 b3 b4 b5 i=true) :
  i=0∨(i=1∧b0=true)∨i=2∨(i=3∧b2=true)∨(i=4∧b4=false)∨(i=5∧b5=false)∨(i=6∧b1=true∧b4=true)∨(i=7∧b3=true∧b5=true):=by
 unfold HP at h;split at h <;> simp_all
theorem Wx.start{w W:World}{va vb:Value}{f g:Nat→Bool}{t5 t6 t8 t9 t10 t11:Value}(x:ZH):Wx w W va vb f g false false false false false false false false t5 t6 t8 t9 t10 t11 (plus W x) :=
 ⟨Xl W x,asD,asD,asD,asD,⟨asD,asD⟩,⟨asD,asD⟩,asD⟩
section
variable {w W V:World} {va vb:Value} {f g:Nat→Bool} {b0 b1 b2 b3 b4 b5 b6 b7:Bool} {t5 t6 t8 t9 t10 t11:Value}
theorem Wx.call1(h:Wx w W va vb f g b0 b1 b2 b3 b4 b5 b6 b7 t5 t6 t8 t9 t10 t11 V)(x:ZH):Wx w W va vb f g b0 true b2 b3 b4 b5 b6 b7 t5 t6 t8 (RW f) t10 t11 (plus V x) :=
 ⟨h.below.trans ((Xl V x).mono h.below.size),h.e0,fun _=>rfl,h.e2,h.e3,h.x.go fun _ e=>e▸Xl V x,h.y.go fun _ e=>e▸Xl V x,h.apart⟩
theorem Wx.call3(h:Wx w W va vb f g b0 b1 b2 b3 b4 b5 b6 b7 t5 t6 t8 t9 t10 t11 V)(x:ZH):Wx w W va vb f g b0 b1 b2 true b4 b5 b6 b7 t5 t6 t8 t9 t10 (RW g) (plus V x) :=
 ⟨h.below.trans ((Xl V x).mono h.below.size),h.e0,h.e1,h.e2,fun _=>rfl,h.x.go fun _ e=>e▸Xl V x,h.y.go fun _ e=>e▸Xl V x,h.apart⟩
theorem Wx.load0(h:Wx w W va vb f g b0 b1 b2 b3 b4 b5 b6 b7 t5 t6 t8 t9 t10 t11 V):Wx w W va vb f g true b1 b2 b3 b4 b5 b6 b7 t5 t6 va t9 t10 t11 V :=
 ⟨h.below,fun _=>rfl,h.e1,h.e2,h.e3,h.x,h.y,h.apart⟩
theorem Wx.load2(h:Wx w W va vb f g b0 b1 b2 b3 b4 b5 b6 b7 t5 t6 t8 t9 t10 t11 V):Wx w W va vb f g b0 b1 true b3 b4 b5 b6 b7 t5 t6 t8 t9 vb t11 V :=
 ⟨h.below,h.e0,h.e1,fun _=>rfl,h.e3,h.x,h.y,h.apart⟩
theorem QG.new(V:World)(B:Nat)(hB:B≤V.heap.size)(T:TypeId)(f:Nat→Bool):QG B (V.alloc (.cells (XG fun _=>false).toArray T)) (.pointer (some ⟨V.heap.size,0,none⟩)) true false f :=
 ⟨fun _=>⟨V.heap.size,rfl,hB,asD,_,Xn.new V _ T,asD⟩,asD⟩
theorem Wx.alloc4(h:Wx w W va vb f g b0 b1 b2 b3 false b5 b6 b7 t5 t6 t8 t9 t10 t11 V)(T:TypeId):Wx w W va vb f g b0 b1 b2 b3 true b5 false b7 (.pointer (some ⟨V.heap.size,0,none⟩)) t6 t8 t9 t10 t11 (V.alloc (.cells (XG fun _=>false).toArray T)):=by
 have hV:∀B,B=V.heap.size→Below B V (V.alloc (.cells (XG fun _=>false).toArray T)):=fun B e=>(Zb B V).alloc asB _;refine⟨h.below.trans ((hV _ rfl).mono h.below.size),h.e0,h.e1,h.e2,h.e3,QG.new V _ h.below.size T f,h.y.go hV,fun _ e p q e1 e2=>?_⟩;obtain⟨q',e3,_,e4,_⟩:=h.y.row e;exact ve
theorem Wx.alloc5(h:Wx w W va vb f g b0 b1 b2 b3 b4 false b6 b7 t5 t6 t8 t9 t10 t11 V)(T:TypeId):Wx w W va vb f g b0 b1 b2 b3 b4 true b6 false t5 (.pointer (some ⟨V.heap.size,0,none⟩)) t8 t9 t10 t11 (V.alloc (.cells (XG fun _=>false).toArray T)):=by
 have hV:∀B,B=V.heap.size→Below B V (V.alloc (.cells (XG fun _=>false).toArray T)):=fun B e=>(Zb B V).alloc asB _;refine⟨h.below.trans ((hV _ rfl).mono h.below.size),h.e0,h.e1,h.e2,h.e3,h.x.go hV,QG.new V _ h.below.size T g,fun e _ p q e1 e2=>?_⟩;obtain⟨q',e3,_,e4,_⟩:=h.x.row e;exact ve
theorem Wx.off6(h:Wx w W va vb f g b0 b1 b2 b3 false b5 b6 b7 t5 t6 t8 t9 t10 t11 V):b6=false:=by
 cases b6
 ·rfl
 ·exact absurd (h.x.need rfl) asD
theorem Wx.off7(h:Wx w W va vb f g b0 b1 b2 b3 b4 false b6 b7 t5 t6 t8 t9 t10 t11 V):b7=false:=by
 cases b7
 ·rfl
 ·exact absurd (h.y.need rfl) asD
theorem Xn.away{V:World}{b p:Nat}{f:Nat→Bool}(h:Xn V b f)(hp:p≠b)(l:List Value):Xn (V.setCells p 0 l) b f :=
 ⟨fun i hi=>(World.cell?_setCells_out _ _ _ _ _ (fun e _=>absurd e (by simpa using fun e=>hp e.symm))).trans (h.c i hi),fun o=>by rw[World.frozen?_setCells];exact h.fz o⟩
theorem Wx.store6{p:Nat}(h:Wx w W va vb f g b0 b1 b2 b3 true b5 b6 b7 (.pointer (some ⟨p,0,none⟩)) t6 t8 t9 t10 t11 V):Wx w W va vb f g b0 b1 b2 b3 true b5 true b7 (.pointer (some ⟨p,0,none⟩)) t6 t8 t9 t10 t11 (V.setCells p 0 (XG f)):=by
 obtain⟨p',e1,e2,e3,k,e4,e5⟩:=h.x.row rfl;simp only[Value.pointer.injEq,Option.some.injEq,Addr.mk.injEq,and_true]at e1;subst e1;have YB:=(Pa (B:=0) (XG f) 0 V V p (Zb 0 V) (Zw _)).size;refine⟨Pa _ _ _ _ _ h.below e2,h.e0,h.e1,h.e2,h.e3,⟨fun _=>⟨p,rfl,e2,asB,f,e4.written f,fun _=>rfl⟩,fun _=>rfl⟩,⟨fun e=>?_,h.y.need⟩,h.apart⟩;obtain⟨q,c1,c2,c3,k',c4,c5⟩:=h.y.row e;exact⟨q,c1,c2,asB,k',c4.away (h.apart rfl e _ _ rfl c1) _,c5⟩
theorem Wx.store7{q:Nat}(h:Wx w W va vb f g b0 b1 b2 b3 b4 true b6 b7 t5 (.pointer (some ⟨q,0,none⟩)) t8 t9 t10 t11 V):Wx w W va vb f g b0 b1 b2 b3 b4 true b6 true t5 (.pointer (some ⟨q,0,none⟩)) t8 t9 t10 t11 (V.setCells q 0 (XG g)):=by
 obtain⟨p',e1,e2,e3,k,e4,e5⟩:=h.y.row rfl;simp only[Value.pointer.injEq,Option.some.injEq,Addr.mk.injEq,and_true]at e1;subst e1;have YB:=(Pa (B:=0) (XG g) 0 V V q (Zb 0 V) (Zw _)).size;refine⟨Pa _ _ _ _ _ h.below e2,h.e0,h.e1,h.e2,h.e3,⟨fun e=>?_,h.x.need⟩,⟨fun _=>⟨q,rfl,e2,asB,g,e4.written g,fun _=>rfl⟩,fun _=>rfl⟩,h.apart⟩;obtain⟨p,c1,c2,c3,k',c4,c5⟩:=h.x.row e;exact⟨p,c1,c2,asB,k',c4.away (fun hh=>h.apart e rfl _ _ c1 rfl hh.symm) _,c5⟩
end
structure R3 (w:World) (rb p q:Nat) (f g:Nat→Bool) (V:World):Prop where
 one:R1 w rb p f V
 apart:p≠q
 y:Xn V q g
theorem R3.set{w V:World}{rb p q:Nat}{f g:Nat→Bool}(h:R3 w rb p q f g V)(k:Nat)(hk:k<128)(x:Bool):R3 w rb p q (fun i=>if i=k then x else f i) g (V.setCell ⟨p,k,none⟩ (.bool x)) :=
 ⟨h.one.set k hk x,h.apart,h.y.other _ h.apart _⟩
theorem R3.yl{w V:World}{rb p q:Nat}{f g:Nat→Bool}(h:R3 w rb p q f g V):q<V.heap.size:=World.block_lt_of_cell? V ⟨q,0,none⟩ (h.y.c 0 asB)
theorem R3.grow{w V:World}{rb p q:Nat}{f g:Nat→Bool}(h:R3 w rb p q f g V)(x:ZH):R3 w rb p q f g (plus V x) :=
 ⟨⟨h.one.below.trans ((Xl V x).mono h.one.below.size),h.one.le,h.one.lt,Zu h.one.blt (XZ V x),h.one.p0 x,h.one.p1 x,h.one.pf x,h.one.row.plus h.one.blt x⟩,h.apart,h.y.plus h.yl x⟩
theorem R3.congr{w V:World}{rb p q:Nat}{f f' g:Nat→Bool}(h:R3 w rb p q f g V)(e:∀i,i<128→f i=f' i):R3 w rb p q f' g V:=⟨h.one.congr e,h.apart,h.y⟩
theorem R3.make{w W V:World}{p q:Nat}{f g:Nat→Bool}{rb:Nat}(hB:Below w.heap.size w W)(hrb:w.heap.size≤rb)(hs:rb<W.heap.size)(r0:∀y,(plus W y).cell? ⟨rb,0,none⟩=some (.int .u64 0))(r1:∀y,(plus W y).cell? ⟨rb,1,none⟩=some (.int .u64 0))(fr:∀y o,(plus W y).frozen? ⟨rb,o,none⟩=false)(hV:Below W.heap.size W V)(p1:W.heap.size≤p)(p2:p<V.heap.size)(p3:Xn V p f)(q3:Xn V q g)(hpq:p≠q):R3 w rb p q f g V:=by
 have e0:=r0 ⟨#[],W.drawn⟩;have e1:=r1 ⟨#[],W.drawn⟩;have e2:=fr ⟨#[],W.drawn⟩;rw[Yk]at e0 e1 e2;exact⟨⟨hB.trans (hV.mono hB.size),hrb,asB,p2,(hV.cell (p:=⟨rb,0,none⟩) hs).trans e0,(hV.cell (p:=⟨rb,1,none⟩) hs).trans e1,fun o=>(hV.frozen (p:=⟨rb,o,none⟩) hs).trans (e2 o),p3⟩,hpq,q3⟩
theorem Kw(n i:Nat)(hn:n<Wb)(hi:128≤i):n.testBit i=false:=by
 rw[Q9]at hn;exact Nat.testBit_lt_two_pow (Zu hn (Nat.pow_le_pow_right asE hi))
theorem ms(m n:Nat)(hm:m<Wb)(hn:n<Wb)(h:∀i,0≤i→i<128→Xm m i=Xm n i):Tc m n=0:=by
 have:m=n:=Nat.eq_of_testBit_eq fun i=>by
  by_cases hi:i<128
  ·exact h i (Zw _) hi
  ·rw[Kw m i hm asB,Kw n i hn asB]
 unfold Tc;rw[if_pos this]
theorem CQ(m n k:Nat)(hm:m<Wb)(hn:n<Wb)(h:∀i,k+1≤i→i<128→Xm m i=Xm n i)(h1:Xm m k=false)(h2:Xm n k=true):m<n:=by
 have e:m / 2 ^ (k+1)=n / 2 ^ (k+1):=Nat.eq_of_testBit_eq fun i=>by
  rw[Nat.testBit_div_two_pow,Nat.testBit_div_two_pow];by_cases h8:i+(k+1)<128
  ·exact h _ asB h8
  ·rw[Kw m _ hm asB,Kw n _ hn asB]
 rw[Nat.pow_succ,←Nat.div_div_eq_div_mul,←Nat.div_div_eq_div_mul]at e;unfold Xm at h1 h2;rw[Nat.testBit_eq_decide_div_mod_eq,decide_eq_false_iff_not]at h1;rw[Nat.testBit_eq_decide_div_mod_eq,decide_eq_true_eq]at h2;rcases Nat.lt_or_ge m n with h3|h3
 ·exact h3
 ·have:=Nat.div_le_div_right (c:=2 ^ k) h3
  omega
theorem mu(m n k:Nat)(hm:m<Wb)(hn:n<Wb)(h:∀i,k+1≤i→i<128→Xm m i=Xm n i)(h1:Xm m k=true)(h2:Xm n k=false):Tc m n=1:=by
 have:=CQ n m k hn hm (fun i a b=>(h i a b).symm) h2 h1;unfold Tc;rw[if_neg asB,if_neg asB]
theorem mi(m n k:Nat)(hm:m<Wb)(hn:n<Wb)(h:∀i,k+1≤i→i<128→Xm m i=Xm n i)(h1:Xm m k=false)(h2:Xm n k=true):Tc m n=-1:=by
 have:=CQ m n k hm hn h h1 h2;unfold Tc;rw[if_neg asB,if_pos this]
theorem dG(m n:Nat)(hm:m<Wb)(hn:n<Wb):WR Zx 221 #[nv m,nv n] (.int .i64 (Tc m n)):=by
 intro w;have hz:=Ch;have Bm:=Zf (FW m hm);have Bn:=Zf (FW n hn);have E0:=Zf (ms m n hm hn);have E1:=Zf (fun k=>mu m n k hm hn);have E2:=Zf (fun k=>mi m n k hm hn);clear hm hn;go_enter func221,ntmps221;go_wp2_with fail;obtain⟨W,hW,hB,hs,ca,cb,fa,fb⟩:=QM w _ _ 40 40;rw[←hW];have a0:=ca 0 (some (.int .u64 (hi m))) rfl ⟨#[],W.drawn⟩;have a1:=ca 1 (some (.int .u64 (lo m))) rfl ⟨#[],W.drawn⟩;have b0:=cb 0 (some (.int .u64 (hi n))) rfl ⟨#[],W.drawn⟩;have b1:=cb 1 (some (.int .u64 (lo n))) rfl ⟨#[],W.drawn⟩;rw[Yk]at a0 a1 b0 b1;clear hW ca cb fa fb;have hcell:Hid (∀V,Below W.heap.size W V→V.cell? ⟨w.heap.size,0,none⟩=some (.int .u64 (hi m))∧V.cell? ⟨w.heap.size,1,none⟩=some (.int .u64 (lo m))∧V.cell? ⟨w.heap.size+1,0,none⟩=some (.int .u64 (hi n))∧V.cell? ⟨w.heap.size+1,1,none⟩=some (.int .u64 (lo n))):=fun V hV =>
  ⟨(hV.cell (p:=⟨w.heap.size,0,none⟩) (by show w.heap.size<_;omega)).trans a0,(hV.cell (p:=⟨w.heap.size,1,none⟩) (by show w.heap.size<_;omega)).trans a1,(hV.cell (p:=⟨w.heap.size+1,0,none⟩) (by show w.heap.size+1<_;omega)).trans b0,(hV.cell (p:=⟨w.heap.size+1,1,none⟩) (by show w.heap.size+1<_;omega)).trans b1⟩
 clear a0 a1 b0 b1;refine wp_region_any asC ?_;rw[HW];refine abc (fun l a V=>∃b0 b1 b2 b3 b4 b5 b6 b7 t5 t6 t8 t9 t10 t11,l=#[b0,b1,b2,b3,b4,b5,b6,b7]∧a=⟨#[nv m,nv n,.pointer (some ⟨w.heap.size,0,none⟩),.pointer (some ⟨w.heap.size+1,0,none⟩),.int .i64 0,t5,t6,undef,t8,t9,t10,t11,undef,undef,undef,undef,undef,undef,undef,undef,undef,undef,undef,undef,undef,undef,undef,undef,undef,undef,undef,undef,undef,undef],[]⟩∧Wx w W (nv m) (nv n) (Xm m) (Xm n) b0 b1 b2 b3 b4 b5 b6 b7 t5 t6 t8 t9 t10 t11 V) ?hd ?hs _ _ _ _ asE ⟨false,false,false,false,false,false,false,false,undef,undef,undef,undef,undef,undef,rfl,rfl,Wx.start _⟩
 case hs =>
  rintro l a V i ⟨b0,b1,b2,b3,b4,b5,b6,b7,t5,t6,t8,t9,t10,t11,rfl,rfl,hT⟩ hi;have hc:HP b0 b1 b2 b3 b4 b5 i=true:=by
   refine List.all_eq_true.1 ?_ i hi;clear hi hT;revert b0 b1 b2 b3 b4 b5 b6 b7;decide +kernel
  clear hi;obtain⟨c0,c1,c2,c3⟩:=hcell.out V hT.below;have hT:=Zf hT;rcases mb _ _ _ _ _ _ _ hc with rfl|⟨rfl,rfl⟩|rfl|⟨rfl,rfl⟩|⟨rfl,rfl⟩|⟨rfl,rfl⟩|⟨rfl,rfl,rfl⟩|⟨rfl,rfl,rfl⟩
  ·refine wpOp_step rfl fun K hK=>?_
   rw[if_pos asH];go_simp;exact hK _ _ ⟨true,b1,b2,b3,b4,b5,b6,b7,t5,t6,_,t9,t10,t11,rfl,rfl,hT.out.load0⟩
  ·obtain rfl:=hT.out.e0 rfl
   refine wpOp_step rfl fun K hK=>?_;rw[if_pos asH];go_simp;refine (Bm.out V).mono ?_;rintro e w' ⟨rfl,x,rfl⟩;try go_simp
   exact hK _ _ ⟨true,true,b2,b3,b4,b5,b6,b7,t5,t6,_,_,t10,t11,rfl,rfl,hT.out.call1 x⟩
  ·refine wpOp_step rfl fun K hK=>?_
   rw[if_pos asH];go_simp;exact hK _ _ ⟨b0,b1,true,b3,b4,b5,b6,b7,t5,t6,t8,t9,_,t11,rfl,rfl,hT.out.load2⟩
  ·obtain rfl:=hT.out.e2 rfl
   refine wpOp_step rfl fun K hK=>?_;rw[if_pos asH];go_simp;refine (Bn.out V).mono ?_;rintro e w' ⟨rfl,x,rfl⟩;try go_simp
   exact hK _ _ ⟨b0,b1,true,true,b4,b5,b6,b7,t5,t6,t8,t9,_,_,rfl,rfl,hT.out.call3 x⟩
  ·obtain rfl:=hT.out.off6
   refine wpOp_step rfl fun K hK=>?_;rw[if_pos asH];go_simp;exact hK _ _ ⟨b0,b1,b2,b3,true,b5,false,b7,_,t6,t8,t9,t10,t11,rfl,rfl,hT.out.alloc4 _⟩
  ·obtain rfl:=hT.out.off7
   refine wpOp_step rfl fun K hK=>?_;rw[if_pos asH];go_simp;exact hK _ _ ⟨b0,b1,b2,b3,b4,true,b6,false,t5,_,t8,t9,t10,t11,rfl,rfl,hT.out.alloc5 _⟩
  ·obtain rfl:=hT.out.e1 rfl
   obtain⟨p,rfl,_,_,k,hk,_⟩:=hT.out.x.row rfl;refine wpOp_step rfl fun K hK=>?_;rw[if_pos asH];refine Go.wp_store_mid _ _ _ rfl p 0 (XG (Xm m)).toArray rfl rfl (hk.there' _) (J2 _) (J0 _) ?_;exact hK _ _ ⟨b0,true,b2,b3,true,b5,true,b7,_,t6,t8,_,t10,t11,rfl,rfl,hT.out.store6⟩
  ·obtain rfl:=hT.out.e3 rfl
   obtain⟨p,rfl,_,_,k,hk,_⟩:=hT.out.y.row rfl;refine wpOp_step rfl fun K hK=>?_;rw[if_pos asH];refine Go.wp_store_mid _ _ _ rfl p 0 (XG (Xm n)).toArray rfl rfl (hk.there' _) (J2 _) (J0 _) ?_;exact hK _ _ ⟨b0,b1,b2,true,b4,true,b6,true,t5,_,t8,t9,t10,_,rfl,rfl,hT.out.store7⟩
 case hd =>
  rintro l a V ⟨b0,b1,b2,b3,b4,b5,b6,b7,t5,t6,t8,t9,t10,t11,rfl,rfl,hT⟩ hi;have hc:(b0&&b1&&b2&&b3&&b4&&b5&&b6&&b7)=true:=by
   clear hT;revert b0 b1 b2 b3 b4 b5 b6 b7;decide +kernel
  clear hi;simp only[Zc]at hc;obtain⟨⟨⟨⟨⟨⟨⟨rfl,rfl⟩,rfl⟩,rfl⟩,rfl⟩,rfl⟩,rfl⟩,rfl⟩:=hc;obtain rfl:=hT.e0 rfl;obtain rfl:=hT.e1 rfl;obtain rfl:=hT.e2 rfl;obtain rfl:=hT.e3 rfl;obtain⟨p,rfl,p1,p2,f',p3,p4⟩:=hT.x.row rfl;obtain⟨q,rfl,q1,q2,g',q3,q4⟩:=hT.y.row rfl;obtain rfl:=p4 rfl;obtain rfl:=q4 rfl;have hbl:=Zf (hB.trans (hT.below.mono hB.size));have hx:=Zf p3;have hy:=Zf q3;clear p1 p2 p3 p4 q1 q2 q3 q4 hT hcell Bm Bn hB hs;go_wp2;go_loopw [7] (fun kk U=>∃j:Nat,j≤128∧kk=.int .i64 ((j:Int)-1)∧U=V∧Hid (∀i,j≤i→i<128→Xm m i=Xm n i)) (fun kk _=>(intOf kk+1).toNat)
  case atStart=>exact⟨128,Zt _,rfl,rfl,Zf fun i h1 h2=>absurd h2 asB⟩
  case round =>
   obtain⟨j,hj,rfl,rfl,hT⟩:=hrel;rcases j with _|k
   ·have e0:=E0.out hT.out
    exact ET
   ·have e:((k+1:Nat):Int)-1=(k:Int):=by omega
    rw[e];have cj:=hx.out.c k asB;have dj:=hy.out.c k asB;cases hbit:Xm m k <;> rw[hbit]at cj <;> cases hbit2:Xm n k <;> rw[hbit2]at dj
    ·go_wp2
     go_roundw
     case rel=>exact⟨k,asB,by go_num,trivial,Zf fun i h1 h2=>by
      rcases Nat.lt_or_ge k i with h|h
      ·exact hT.out i h h2
      ·obtain rfl:i=k:=by omega
       rw[hbit,hbit2]⟩
     case measure=>simp[intOf]
    ·have e0:=E2.out k hT.out hbit hbit2
     exact ET
    ·have e0:=E1.out k hT.out hbit hbit2
     exact ET
    ·go_wp2
     go_roundw
     case rel=>exact⟨k,asB,by go_num,trivial,Zf fun i h1 h2=>by
      rcases Nat.lt_or_ge k i with h|h
      ·exact hT.out i h h2
      ·obtain rfl:i=k:=by omega
       rw[hbit,hbit2]⟩
     case measure=>simp[intOf]
end Go.Proofs.YtknmeggfokpbjaaGreat
