/-
  WHAT IS PROVED HERE: a part of the proof (made narrower and merged by program; the parts: RR).
-/
import Derived.Deep.MidRow
import Derived.OrdersHeld
import Derived.Test.YtheaknidbcbneaaGreatM1
import Derived.Test.YtheaknidbcbneaaGreatM5
set_option maxRecDepth 100000
set_option maxHeartbeats 8000000
set_option linter.all false
namespace Go.Proofs.YtheaknidbcbneaaGreat
open Go.RowKit Go.Proofs.Tryz
open Below renaming refl→Zc
open Bool renaming and_eq_true→Zd,true_and→Ze
open Ending renaming returned→Zf
open Lib renaming hid→Zg
open List renaming getElem?_eq_some_iff→Zj
open Nat renaming le_refl→Zp,zero_le→Zq
open Go.Proofs.Tryz renaming prog→Zr
open World renaming cell?_setCell_other→Zu
open Go.RowKit
def YC(f:Nat→Bool):List Value:=(List.range 128).map fun i=>.bool (f i)
abbrev VZ(f:Nat→Bool):Value:=.agg (YC f).toArray
theorem Si(f:Nat→Bool):(YC f).length=128:=by simp[YC]
theorem Ql(f:Nat→Bool)(i:Nat)(h:i<128):(YC f)[i]?=some (.bool (f i)):=by simp[YC,h]
structure Yp (V:World) (b:Nat) (f:Nat→Bool):Prop where
 c:∀i,i<128→V.cell? ⟨b,i,none⟩=some (.bool (f i))
 fz:∀o,V.frozen? ⟨b,o,none⟩=false
theorem Yp.range{V:World}{b:Nat}{f:Nat→Bool}(h:Yp V b f):V.rangeAt b 0 (YC f):=by
 intro j v hv;have hj:j<128:=by have:=(Zj.1 hv).1;rwa [Si]at this
 rw[Ql f j hj]at hv;rw[←Option.some.inj hv,Nat.zero_add];exact h.c j hj
theorem Yp.there{V:World}{b:Nat}{f:Nat→Bool}(h:Yp V b f):V.there b 0 128:=fun j hj=>by
 rw[Nat.zero_add];exact⟨by rw[h.c j hj];rfl,h.fz j⟩
theorem Yp.congr{V:World}{b:Nat}{f g:Nat→Bool}(h:Yp V b f)(e:∀i,i<128→f i=g i):Yp V b g:=⟨fun i hi=>by rw[←e i hi];exact h.c i hi,h.fz⟩
theorem Qn(f:Nat→Bool):(Zr.info? 168).map (·.size)=some (YC f).length:=by rw[Si];kernel_rfl
theorem Rn(f:Nat→Bool):(Zr.info? 168).map (·.size)=some (YC f).toArray.size:=by rw[List.size_toArray,Si];kernel_rfl
theorem Rm(f:Nat→Bool):(YC f).toArray.all (·.oneCell')=true:=all_oneCell_toArray (fun v hv=>by
 unfold YC at hv;obtain⟨i,_,rfl⟩:=List.mem_map.1 hv;rfl)
theorem Yp.there'{V:World}{b:Nat}{f:Nat→Bool}(h:Yp V b f)(g:Nat→Bool):V.there b 0 (YC g).toArray.size:=by rw[List.size_toArray,Si];exact h.there
theorem Yp.loadVar{V:World}{b:Nat}{f:Nat→Bool}(h:Yp V b f):(loadVar 168 ⟨b,0,none⟩).run Zr V=.ok (VZ f) V :=
 run_loadVar_mid V b 0 168 (YC f) _ h.range Tryz.underlying168 rfl (by rw[Si];kernel_rfl)
theorem Yp.written{V:World}{b:Nat}{g:Nat→Bool}(h:Yp V b g)(f:Nat→Bool):Yp (V.setCells b 0 (YC f)) b f:=by
 refine⟨fun i hi=>?_,fun o=>?_⟩
 ·have:=World.rangeAt_setCells_same V b 0 (YC f) (by rw[Si];exact h.there) i (.bool (f i)) (Ql f i hi)
  rwa [Nat.zero_add]at this
 ·rw[World.frozen?_setCells];exact h.fz o
theorem Yp.below{V V':World}{b B:Nat}{f:Nat→Bool}(h:Yp V b f)(hV:Below B V V')(hb:b<B):Yp V' b f :=
 ⟨fun i hi=>(hV.cell (p:=⟨b,i,none⟩) hb).trans (h.c i hi),fun o=>(hV.frozen (p:=⟨b,o,none⟩) hb).trans (h.fz o)⟩
theorem Yp.plus{V:World}{b:Nat}{f:Nat→Bool}(h:Yp V b f)(hb:b<V.heap.size)(x:ZA):Yp (plus V x) b f:=h.below (Z9 V x) hb
theorem Yp.other{V:World}{b:Nat}{f:Nat→Bool}(h:Yp V b f)(a:Addr)(ha:a.block≠b)(v:Value):Yp (V.setCell a v) b f :=
 ⟨fun i hi=>(Zu _ _ _ _ (fun e=>ha (by rw[e]))).trans (h.c i hi),fun o=>by rw[World.frozen?_setCell];exact h.fz o⟩
theorem Yp.set{V:World}{b:Nat}{f:Nat→Bool}(h:Yp V b f)(k:Nat)(hk:k<128)(x):Yp (V.setCell ⟨b,k,none⟩ (.bool x)) b (fun i=>if i=k then x else f i):=by
 refine⟨fun i hi=>?_,fun o=>by rw[World.frozen?_setCell];exact h.fz o⟩;by_cases e:i=k
 ·subst e
  rw[if_pos rfl];exact World.cell?_setCell_same _ _ _ (h.c i hi)
 ·rw[if_neg e,Zu _ _ _ _ (by intro h;injection h with _ h2;omega)]
  exact h.c i hi
theorem Yp.new(w:World)(f:Nat→Bool)(T:TypeId):Yp (w.alloc (.cells (YC f).toArray T)) w.heap.size f :=
 ⟨fun i hi=>(Z4 w _ T _ i rfl).trans (by simpa using Ql f i hi),fun o=>Vm w _ T _ o rfl⟩
theorem Yp.old{V:World}{b:Nat}{f:Nat→Bool}(h:Yp V b f)(hb:b<V.heap.size)(o:Obj):Yp (V.alloc o) b f:=h.below ((Zc _ _).alloc (Zp _) o) hb
theorem UB{B:Nat}:∀(vs:List Value) (o:Nat) (a w:World) (b:Nat),Below B a w→B≤b→Below B a (w.setCells b o vs)
 | [],_,_,_,_,h,_=>h
 | v :: r,o,a,w,b,h,hb=>by
  rw[World.setCells];exact UB r (o+1) a _ b (h.setCell hb v) hb
theorem Mb(f:Nat→Bool)(w:World):(Instr.box 168 (VZ f)).run Zr w=.ok (.pointer (some ⟨w.heap.size,0,none⟩)) (w.alloc (.cells (YC f).toArray 168)):=by
 kernel_rfl
theorem HD{P:Program}{fn:Func}{p:Tmp}{ty:TypeId}(h:fn.results=#[.cell p ty])(tmps:Array Value)(w:World)(a:Addr)(ha:tmps.getD p undef=.pointer (some a))(v:Value)(hv:(loadVar ty a).run P w=.ok v w) :
  (results fn tmps).run P w=.ok v w:=by
 have ha':tmps[p]?.getD undef=.pointer (some a):=by simpa using ha
 simp only[results,h];simp[ha',asAddr,hv]
theorem QD(w:World):(zeroValue 168).run Zr w=.ok (VZ fun _=>false) w:=by kernel_rfl
def Ys(n i:Nat):Bool:=n.testBit i
theorem KF(n k:Nat)(hk:k<64):(((n % 2 ^ 64 / 2 ^ k:Nat):Int) % 2==1)=Ys n k:=by
 unfold Ys;rw[Nat.testBit_eq_decide_div_mod_eq];have h:n % 2 ^ 64 / 2 ^ k % 2=n / 2 ^ k % 2:=by
  have e1:=Nat.testBit_mod_two_pow n 64 k;rw[Nat.testBit_eq_decide_div_mod_eq,Nat.testBit_eq_decide_div_mod_eq,decide_eq_true hk,Ze,decide_eq_decide]at e1;omega
 rw[←h,Bool.eq_iff_iff,beq_iff_eq,decide_eq_true_eq];omega
theorem Lp(n k:Nat):(((n / 2 ^ 64 / 2 ^ k:Nat):Int) % 2==1)=Ys n (64+k):=by
 unfold Ys;rw[Nat.testBit_eq_decide_div_mod_eq,Nat.pow_add,←Nat.div_div_eq_div_mul,Bool.eq_iff_iff,beq_iff_eq,decide_eq_true_eq];omega
theorem Pu(a k:Nat):((a / 2 ^ k:Nat):Int) / 2=((a / 2 ^ (k+1):Nat):Int):=by rw[Nat.pow_succ,←Nat.div_div_eq_div_mul];rfl
def UC(n k i:Nat):Bool:=(decide (i<k)||(decide (64≤i)&&decide (i<64+k)))&&Ys n i
theorem N3(n i:Nat)(h:i<128):UC n 64 i=Ys n i:=by
 unfold UC;by_cases h1:i<64
 ·simp[h1]
 ·simp[h1,h,show 64≤i by omega]
theorem N5(n i:Nat):UC n 0 i=false:=by
 unfold UC;by_cases h1:64≤i
 ·simp;omega
 ·simp[h1]
theorem N4(n k i:Nat)(hk:k<64):(if i=64+k then Ys n (64+k) else if i=k then Ys n k else UC n k i)=UC n (k+1) i:=by
 unfold UC;by_cases h1:i=64+k
 ·subst h1;rw[if_pos rfl];simp
 ·rw[if_neg h1]
  by_cases h2:i=k
  ·subst h2;rw[if_pos rfl];simp
  ·rw[if_neg h2]
   congr 1
   rw[Bool.eq_iff_iff];simp only[Bool.or_eq_true,Zd,decide_eq_true_eq];omega
structure UY (w:World) (n k:Nat) (V:World):Prop where
 below:Below w.heap.size w V
 size:w.heap.size+1+1+1≤V.heap.size
 n0:V.cell? ⟨w.heap.size,0,none⟩=some (.int .u64 ((n / 2 ^ 64 / 2 ^ k:Nat):Int))
 n1:V.cell? ⟨w.heap.size,1,none⟩=some (.int .u64 ((n % 2 ^ 64 / 2 ^ k:Nat):Int))
 fn:∀o,V.frozen? ⟨w.heap.size,o,none⟩=false
 res:Yp V (w.heap.size+1) fun _=>false
 row:Yp V (w.heap.size+1+1) (UC n k)
theorem UY.start(w:World)(n:Nat)(T:TypeId):UY w n 0 (((w.alloc (.cells #[.int .u64 (hi n),.int .u64 (lo n)] T)).alloc (.cells (YC fun _=>false).toArray 168)).alloc (.cells (YC fun _=>false).toArray 168)):=by
 have h1:(w.alloc (.cells #[.int .u64 (hi n),.int .u64 (lo n)] T)).heap.size=w.heap.size+1:=by simp
 have h2:((w.alloc (.cells #[.int .u64 (hi n),.int .u64 (lo n)] T)).alloc (.cells (YC fun _=>false).toArray 168)).heap.size=w.heap.size+1+1:=by simp
 refine⟨(((Zc _ _).alloc (Zp _) _).alloc (by omega) _).alloc (by omega) _,by simp,?_,?_,?_,?_,?_⟩
 ·rw[Nat.pow_zero,Nat.div_one];exact (XZ _ _ _ 0 (by omega)).trans ((XZ _ _ _ 0 (by omega)).trans (Z4 w _ T _ 0 rfl))
 ·rw[Nat.pow_zero,Nat.div_one];exact (XZ _ _ _ 1 (by omega)).trans ((XZ _ _ _ 1 (by omega)).trans (Z4 w _ T _ 1 rfl))
 ·exact fun o=>(Uj _ _ _ o (by omega)).trans ((Uj _ _ _ o (by omega)).trans (Vm w _ T _ o rfl))
 ·have:=(Yp.new (w.alloc (.cells #[.int .u64 (hi n),.int .u64 (lo n)] T)) (fun _=>false) 168).old (by simp) (.cells (YC fun _=>false).toArray 168)
  rwa [h1]at this
 ·have:=Yp.new ((w.alloc (.cells #[.int .u64 (hi n),.int .u64 (lo n)] T)).alloc (.cells (YC fun _=>false).toArray 168)) (fun _=>false) 168
  rw[h2]at this;exact this.congr fun i _=>(N5 n i).symm
theorem UY.step{w V:World}{n k:Nat}(h:UY w n k V)(hk:k<64)(N M:Int)(hN:N=((n / 2 ^ 64 / 2 ^ (k+1):Nat):Int))(hM:M=((n % 2 ^ 64 / 2 ^ (k+1):Nat):Int)) :
  UY w n (k+1) ((((V.setCell ⟨w.heap.size+1+1,k,none⟩ (.bool (Ys n k))).setCell ⟨w.heap.size+1+1,64+k,none⟩ (.bool (Ys n (64+k)))).setCell ⟨w.heap.size,1,none⟩ (.int .u64 M)).setCell ⟨w.heap.size,0,none⟩ (.int .u64 N)):=by
 subst hN hM;refine⟨(((h.below.setCell (Nat.le_add_right _ 2) _).setCell (Nat.le_add_right _ 2) _).setCell (Zp _) _).setCell (Zp _) _,by have:=h.size;simp[World.setCell];omega,?_,?_,?_,?_,?_⟩
 ·refine World.cell?_setCell_same _ _ _ (u:=.int .u64 ((n / 2 ^ 64 / 2 ^ k:Nat):Int)) ?_
  rw[Zu _ _ _ _ (by simp),Zu _ _ _ _ (by simp),Zu _ _ _ _ (by simp)];exact h.n0
 ·rw[Zu _ _ _ _ (by simp)]
  refine World.cell?_setCell_same _ _ _ (u:=.int .u64 ((n % 2 ^ 64 / 2 ^ k:Nat):Int)) ?_;rw[Zu _ _ _ _ (by simp),Zu _ _ _ _ (by simp)];exact h.n1
 ·intro o;simp only[World.frozen?_setCell];exact h.fn o
 ·exact (((h.res.other _ (by simp) _).other _ (by simp) _).other _ (by simp) _).other _ (by simp) _
 ·refine (((((h.row.set k (by omega) _).set (64+k) (by omega) _).other _ (by simp <;> omega) _).other _ (by simp <;> omega) _)).congr fun i _=>?_
  exact N4 n k i hk
theorem Qf(n:Nat)(hn:n<YT):Xp Zr 104 #[nv n] (VZ (Ys n)):=by
 intro w;have hz:=QD;have ZJ:=Zg hn;clear hn;go_enter func104,ntmps104;go_wp2;go_loopw [4] (fun kk V=>∃k:Nat,k≤64∧kk=.int .i64 k∧UY w n k V) (fun kk _=>64-(intOf kk).toNat)
 case atStart=>exact⟨0,Zq _,rfl,UY.start w n _⟩
 case round =>
  obtain⟨k,hk,rfl,hT⟩:=hrel;by_cases Zz:k<64
  ·have n0:=hT.n0
   have n1:=hT.n1;have fn:=hT.fn;have fr:=hT.row.fz;have ck:=hT.row.c k (by omega);have ck2:=hT.row.c (64+k) (by omega);have hb1:=KF n k Zz;have hb2:=Lp n k;have hS:=Zg (hT.step Zz (((n / 2 ^ 64 / 2 ^ k:Nat):Int) / 2) (((n % 2 ^ 64 / 2 ^ k:Nat):Int) / 2) (Pu _ k) (Pu _ k));have u1:((n / 2 ^ 64 / 2 ^ k:Nat):Int)≤18446744073709551615:=by
    have h1:=ZJ.out;rw[U5]at h1;have:n / 2 ^ 64 / 2 ^ k≤n / 2 ^ 64:=Nat.div_le_self _ _;omega
   have u2:((n % 2 ^ 64 / 2 ^ k:Nat):Int)≤18446744073709551615:=by
    have:n % 2 ^ 64 / 2 ^ k≤n % 2 ^ 64:=Nat.div_le_self _ _;omega
   generalize n / 2 ^ 64 / 2 ^ k=H at *;generalize n % 2 ^ 64 / 2 ^ k=L at *;generalize Ys n k=x1 at *;generalize Ys n (64+k)=x2 at *;clear hT;go_wp2;go_roundw
   case rel=>exact⟨k+1,by omega,by go_num,hS.out⟩
   case measure=>simp[intOf];omega
  ·obtain rfl:k=64:=by omega
   have Z1:=hT.row.congr (N3 n);have hrg:=Zg Z1.range;have hth:=Zg (hT.res.there' (Ys n));have hv:=(hT.res.written (Ys n)).loadVar;have Xs:=Zg hT;clear hT Z1;go_wp2_with (first|refine wpList_load_mid rfl 168 _ rfl (w.heap.size+1+1) 0 rfl (YC (Ys n)) _ hrg.out Tryz.underlying168 rfl (Qn _) ?_|refine wpList_store_mid rfl 168 _ _ rfl (w.heap.size+1) 0 (YC (Ys n)).toArray rfl rfl hth.out (Rn _) (Rm _) ?_);exact bodyPost_ret (v:=VZ (Ys n)) (HD Tryz.results104 _ _ ⟨w.heap.size+1,0,none⟩ rfl _ hv) rfl ⟨rfl,ZS (UB _ _ _ _ _ Xs.out.below (Nat.le_add_right _ 1))⟩
def Y8(f:Nat→Bool)(b:Nat):Nat→Nat
 | 0=>0
 | k+1=>2*Y8 f b k+(f (b+63-k)).toNat
theorem TN(f:Nat→Bool)(b:Nat):∀k,Y8 f b k<2 ^ k
 | 0=>by simp[Y8]
 | k+1=>by
  have:=TN f b k;have h2:(f (b+63-k)).toNat≤1:=by cases f (b+63-k) <;> simp
  rw[Y8,Nat.pow_succ];omega
theorem Rz(f:Nat→Bool)(b:Nat):∀k i,k≤64→(Y8 f b k).testBit i=(decide (i<k)&&f (b+(64-k)+i))
 | 0,i,_=>by simp[Y8]
 | k+1,0,hk=>by
  rw[Y8,Nat.testBit_zero];cases h:f (b+63-k) <;> rw[show b+(64-(k+1))+0=b+63-k by omega,h] <;> simp
 | k+1,i+1,hk=>by
  rw[Y8,Nat.testBit_succ];have:(2*Y8 f b k+(f (b+63-k)).toNat) / 2=Y8 f b k:=by
   have h2:(f (b+63-k)).toNat≤1:=by cases f (b+63-k) <;> simp
   omega
  rw[this,Rz f b k i (by omega),show b+(64-(k+1))+(i+1)=b+(64-k)+i by omega];simp
def VX(f:Nat→Bool):Nat:=Y8 f 64 64*2 ^ 64+Y8 f 0 64
theorem Ix(f:Nat→Bool):hi (VX f)=(Y8 f 64 64:Nat):=by
 have h2:=TN f 0 64;unfold hi VX;omega
theorem Iy(f:Nat→Bool):lo (VX f)=(Y8 f 0 64:Nat):=by
 have h2:=TN f 0 64;unfold lo VX;omega
theorem Iw(f:Nat→Bool)(i:Nat):(VX f).testBit i=(decide (i<128)&&f i):=by
 have h2:=TN f 0 64;unfold VX;rw[Nat.mul_comm,Nat.testBit_two_pow_mul_add _ h2];split
 ·rename_i h
  rw[Rz f 0 64 i (by omega),show 0+(64-64)+i=i by omega];simp[h,show i<128 by omega]
 ·rename_i h
  rw[Rz f 64 64 (i-64) (by omega),show 64+(64-64)+(i-64)=i by omega];congr 1
  rw[decide_eq_decide];omega
theorem P2(f:Nat→Bool)(n:Nat)(hn:n<YT)(h:∀i,i<128→f i=n.testBit i):VX f=n:=by
 apply Nat.eq_of_testBit_eq;intro i;rw[Iw];by_cases hi:i<128
 ·simp[hi,h i hi]
 ·rw[U5]at hn
  have:n.testBit i=false:=Nat.testBit_lt_two_pow (Nat.lt_of_lt_of_le hn (Nat.pow_le_pow_right (by decide) (by omega)));simp[hi,this]
structure N2 (w:World) (f:Nat→Bool) (h l:Int) (V:World):Prop where
 below:Below w.heap.size w V
 size:w.heap.size+1+1+1≤V.heap.size
 n0:V.cell? ⟨w.heap.size+1+1,0,none⟩=some (.int .u64 h)
 n1:V.cell? ⟨w.heap.size+1+1,1,none⟩=some (.int .u64 l)
 r0:V.cell? ⟨w.heap.size+1,0,none⟩=some (.int .u64 0)
 r1:V.cell? ⟨w.heap.size+1,1,none⟩=some (.int .u64 0)
 fn:∀o,V.frozen? ⟨w.heap.size+1+1,o,none⟩=false
 fr:∀o,V.frozen? ⟨w.heap.size+1,o,none⟩=false
 row:Yp V w.heap.size f
theorem N2.set0{w V:World}{f:Nat→Bool}{h l:Int}(H:N2 w f h l V)(v:Int):N2 w f v l (V.setCell ⟨w.heap.size+1+1,0,none⟩ (.int .u64 v)) :=
 ⟨H.below.setCell (Nat.le_add_right _ 2) _,by have:=H.size;simp[World.setCell];omega,World.cell?_setCell_same _ _ _ H.n0,(Zu _ _ _ _ (by simp)).trans H.n1,(Zu _ _ _ _ (by simp)).trans H.r0,(Zu _ _ _ _ (by simp)).trans H.r1,
  fun o=>by rw[World.frozen?_setCell];exact H.fn o,fun o=>by rw[World.frozen?_setCell];exact H.fr o,H.row.other _ (by simp <;> omega) _⟩
theorem N2.set1{w V:World}{f:Nat→Bool}{h l:Int}(H:N2 w f h l V)(v:Int):N2 w f h v (V.setCell ⟨w.heap.size+1+1,1,none⟩ (.int .u64 v)) :=
 ⟨H.below.setCell (Nat.le_add_right _ 2) _,by have:=H.size;simp[World.setCell];omega,(Zu _ _ _ _ (by simp)).trans H.n0,World.cell?_setCell_same _ _ _ H.n1,(Zu _ _ _ _ (by simp)).trans H.r0,(Zu _ _ _ _ (by simp)).trans H.r1,
  fun o=>by rw[World.frozen?_setCell];exact H.fn o,fun o=>by rw[World.frozen?_setCell];exact H.fr o,H.row.other _ (by simp <;> omega) _⟩
theorem N2.cast{w V:World}{f:Nat→Bool}{h l h' l':Int}(H:N2 w f h l V)(e:h=h')(e':l=l'):N2 w f h' l' V:=by subst e e';exact H
theorem N2.start(w:World)(f:Nat→Bool)(T:TypeId):N2 w f 0 0 (((w.alloc (.cells (YC f).toArray 168)).alloc (.cells #[.int .u64 0,.int .u64 0] T)).alloc (.cells #[.int .u64 0,.int .u64 0] T)):=by
 have h1:(w.alloc (.cells (YC f).toArray 168)).heap.size=w.heap.size+1:=by simp
 have h2:((w.alloc (.cells (YC f).toArray 168)).alloc (.cells #[.int .u64 0,.int .u64 0] T)).heap.size=w.heap.size+1+1:=by simp
 exact⟨(((Zc _ _).alloc (Zp _) _).alloc (by omega) _).alloc (by omega) _,by simp,Z4 _ _ T _ 0 h2.symm,Z4 _ _ T _ 1 h2.symm,
  (XZ _ _ _ 0 (by omega)).trans (Z4 _ _ T _ 0 h1.symm),(XZ _ _ _ 1 (by omega)).trans (Z4 _ _ T _ 1 h1.symm),fun o=>Vm _ _ T _ o h2.symm,fun o=>(Uj _ _ _ o (by omega)).trans (Vm _ _ T _ o h1.symm),
  ((Yp.new w f 168).old (by simp) _).old (by omega) _⟩
theorem Ou(f:Nat→Bool):Xp Zr 105 #[VZ f] (nv (VX f)):=by
 intro w;have hb:=Mb f;go_enter func105,ntmps105;go_wp2;go_loopw [4] (fun kk V=>∃j:Nat,j≤64∧kk=.int .i64 (63-(j:Int))∧N2 w f ((Y8 f 64 j:Nat):Int) ((Y8 f 0 j:Nat):Int) V) (fun kk _=>(1+intOf kk).toNat)
 case atStart=>exact⟨0,Zq _,rfl,N2.start w f _⟩
 case round =>
  obtain⟨j,hj,rfl,hT⟩:=hrel;by_cases Zz:j<64
  ·obtain⟨i,hi⟩:∃i:Nat,i+j=63:=⟨63-j,by omega⟩
   have e63:(63:Int)-(j:Int)=(i:Int):=by omega
   rw[e63];have n0:=hT.n0;have n1:=hT.n1;have fn:=hT.fn;have c1:=hT.row.c i (by omega);have c2:=hT.row.c (64+i) (by omega);have u0:((Y8 f 64 j:Nat):Int)≤9223372036854775807:=by
    have:=TN f 64 j;have h2:2 ^ j≤2 ^ 63:=Nat.pow_le_pow_right (by decide) (by omega);omega
   have u1:((Y8 f 0 j:Nat):Int)≤9223372036854775807:=by
    have:=TN f 0 j;have h2:2 ^ j≤2 ^ 63:=Nat.pow_le_pow_right (by decide) (by omega);omega
   have s0:Hid (Y8 f 64 (j+1)=2*Y8 f 64 j+(f (64+i)).toNat):=by
    show _=_
    rw[Y8,show 64+63-j=64+i by omega]
   have s1:Hid (Y8 f 0 (j+1)=2*Y8 f 0 j+(f i).toNat):=by
    show _=_
    rw[Y8,show 0+63-j=i by omega]
   have hi':=Zg hi;have hib:i≤63:=by omega
   have e63':=Zg e63;have Xs:=Zg hT;clear hT hi e63;generalize Y8 f 64 j=H at *;generalize Y8 f 0 j=L at *;cases hf1:f i <;> cases hf2:f (64+i) <;> rw[hf1]at c1 s1 <;> rw[hf2]at c2 s0 <;> clear hf1 hf2
   ·go_wp2
    go_roundw
    case rel =>
     refine⟨j+1,by omega,by congr 1;have:=hi'.out;omega,?_⟩;rw[s0.out,s1.out];exact ((Xs.out.set1 _).set0 _).cast (by simp;omega) (by simp;omega)
    case measure=>simp[intOf];omega
   ·go_wp2
    go_roundw
    case rel =>
     refine⟨j+1,by omega,by congr 1;have:=hi'.out;omega,?_⟩;rw[s0.out,s1.out];exact (((Xs.out.set1 _).set0 _).set0 _).cast (by simp;omega) (by simp;omega)
    case measure=>simp[intOf];omega
   ·go_wp2
    go_roundw
    case rel =>
     refine⟨j+1,by omega,by congr 1;have:=hi'.out;omega,?_⟩;rw[s0.out,s1.out];exact (((Xs.out.set1 _).set0 _).set1 _).cast (by simp;omega) (by simp;omega)
    case measure=>simp[intOf];omega
   ·go_wp2
    go_roundw
    case rel =>
     refine⟨j+1,by omega,by congr 1;have:=hi'.out;omega,?_⟩;rw[s0.out,s1.out];exact ((((Xs.out.set1 _).set0 _).set1 _).set0 _).cast (by simp;omega) (by simp;omega)
    case measure=>simp[intOf];omega
  ·obtain rfl:j=64:=by omega
   have n0:=hT.n0;have n1:=hT.n1;have r0:=hT.r0;have r1:=hT.r1;have fr:=hT.fr;have E:Hid (Value.agg #[.int .u64 ((Y8 f 64 64:Nat):Int),.int .u64 ((Y8 f 0 64:Nat):Int)]=nv (VX f)):=by
    show _=_
    unfold nv;rw[Ix,Iy]
   have Xs:=Zg hT;clear hT Zz hj;generalize Y8 f 64 64=H at *;generalize Y8 f 0 64=L at *;go_wp2;exact bodyPost_ret (v:=.agg #[.int .u64 (H:Int),.int .u64 (L:Int)]) (by simp[results,Tryz.results105,go_sem,r0,r1]) rfl ⟨congrArg Zf E.out,ZS ((Xs.out.below.setCell (Nat.le_add_right _ 1) _).setCell (Nat.le_add_right _ 1) _)⟩
structure R1 (w:World) (rb b:Nat) (f:Nat→Bool) (V:World):Prop where
 below:Below w.heap.size w V
 le:w.heap.size≤rb
 lt:rb<b
 blt:b<V.heap.size
 r0:V.cell? ⟨rb,0,none⟩=some (.int .u64 0)
 r1:V.cell? ⟨rb,1,none⟩=some (.int .u64 0)
 fr:∀o,V.frozen? ⟨rb,o,none⟩=false
 row:Yp V b f
theorem R1.set{w V:World}{rb b:Nat}{f:Nat→Bool}(h:R1 w rb b f V)(k:Nat)(hk:k<128)(x:Bool):R1 w rb b (fun i=>if i=k then x else f i) (V.setCell ⟨b,k,none⟩ (.bool x)):=by
 have h1:=h.le;have h2:=h.lt;exact⟨h.below.setCell (by show _≤b;omega) _,h.le,h.lt,by simpa [World.setCell]using h.blt,(Zu _ _ _ _ (by simp <;> omega)).trans h.r0,(Zu _ _ _ _ (by simp <;> omega)).trans h.r1,fun o=>by rw[World.frozen?_setCell];exact h.fr o,h.row.set k hk x⟩
theorem R1.p0{w V:World}{rb b:Nat}{f:Nat→Bool}(h:R1 w rb b f V)(y:ZA):(plus V y).cell? ⟨rb,0,none⟩=some (.int .u64 0):=(YO V y _ _ (Nat.lt_trans h.lt h.blt)).trans h.r0
theorem R1.p1{w V:World}{rb b:Nat}{f:Nat→Bool}(h:R1 w rb b f V)(y:ZA):(plus V y).cell? ⟨rb,1,none⟩=some (.int .u64 0):=(YO V y _ _ (Nat.lt_trans h.lt h.blt)).trans h.r1
theorem R1.pf{w V:World}{rb b:Nat}{f:Nat→Bool}(h:R1 w rb b f V)(y:ZA)(o:Nat):(plus V y).frozen? ⟨rb,o,none⟩=false:=(TX V y _ _ (Nat.lt_trans h.lt h.blt)).trans (h.fr o)
theorem R1.fin{w V:World}{rb b:Nat}{f:Nat→Bool}(h:R1 w rb b f V)(y:ZA)(u v:Value):∃x,((plus V y).setCell ⟨rb,0,none⟩ u).setCell ⟨rb,1,none⟩ v=plus w x:=Us h.below h.le u v
theorem R1.congr{w V:World}{rb b:Nat}{f g:Nat→Bool}(h:R1 w rb b f V)(e:∀i,i<128→f i=g i):R1 w rb b g V:=⟨h.below,h.le,h.lt,h.blt,h.r0,h.r1,h.fr,h.row.congr e⟩
theorem R1.make{w W:World}{rb:Nat}{x:ZA}(hB:Below w.heap.size w W)(WM:w.heap.size≤rb)(Zz:rb<W.heap.size)(r0:∀y,(plus W y).cell? ⟨rb,0,none⟩=some (.int .u64 0))(r1:∀y,(plus W y).cell? ⟨rb,1,none⟩=some (.int .u64 0))(fr:∀y o,(plus W y).frozen? ⟨rb,o,none⟩=false)(f:Nat→Bool)(T:TypeId) :
  R1 w rb (plus W x).heap.size f ((plus W x).alloc (.cells (YC f).toArray T)):=by
 have hs:=Tu W x;have h0:=hB.size;exact⟨(hB.trans ((Z9 W x).mono h0)).alloc (by omega) _,WM,by omega,by simp,(XZ _ _ _ 0 (by omega)).trans (r0 x),(XZ _ _ _ 1 (by omega)).trans (r1 x),fun o=>(Uj _ _ _ o (by omega)).trans (fr x o),Yp.new _ f T⟩
def upto(g f:Nat→Bool)(k i:Nat):Bool:=if i<k then g i else f i
theorem Nj(g f:Nat→Bool)(i:Nat):upto g f 0 i=f i:=if_neg (by omega)
theorem Nh(g f:Nat→Bool)(k:Nat):upto g f k k=f k:=if_neg (by omega)
theorem Ni(g f:Nat→Bool)(k i:Nat):(if i=k then g k else upto g f k i)=upto g f (k+1) i:=by
 unfold upto;by_cases h:i=k
 ·subst h;rw[if_pos rfl,if_pos (by omega)]
 ·rw[if_neg h]
  by_cases h1:i<k
  ·rw[if_pos h1,if_pos (by omega)]
  ·rw[if_neg h1,if_neg (by omega)]
theorem Ng(g f:Nat→Bool)(i:Nat)(h:i<128):upto g f 128 i=g i:=if_pos h
def VA(n:Nat)(k:Int)(i:Nat):Bool:=Ys n i&&decide ((i:Int)<k)
theorem MA(n:Nat)(k:Int):VX (VA n k)=n % 2 ^ hw k:=by
 refine P2 _ _ (Ih n k) fun i hi=>?_;rw[Nat.testBit_mod_two_pow];unfold VA Ys;rw[Bool.and_comm];congr 1
 unfold hw XA;rw[decide_eq_decide];omega
theorem R1.write{w V:World}{rb b:Nat}{f:Nat→Bool}(h:R1 w rb b f V)(g:Nat→Bool):R1 w rb b g (V.setCells b 0 (YC g)):=by
 have h1:=h.le;have h2:=h.lt;refine⟨UB _ _ _ _ _ h.below (by omega),h.le,h.lt,Nat.lt_of_lt_of_le h.blt (UB _ _ _ _ _ (Zc 0 V) (Zq _)).size,?_,?_,fun o=>by rw[World.frozen?_setCells];exact h.fr o,h.row.written g⟩
 ·rw[World.cell?_setCells_out _ _ _ _ _ (fun e _=>absurd e (by simp;omega))];exact h.r0
 ·rw[World.cell?_setCells_out _ _ _ _ _ (fun e _=>absurd e (by simp;omega))];exact h.r1
theorem Hx(n:Nat)(k)(hn:n<YT):Xp Zr 60 #[nv n,.int .i64 k] (nv (n % 2 ^ hw k)):=by
 intro w;have hz:=QD;have S:=Zg ((Ou (VA n k)).eqv (congrArg nv (MA n k)));have Bt:=Zg (Qf n hn);clear hn;go_enter func60,ntmps60;go_wp2_with fail;obtain⟨W,hW,hB,hs,ca,cr,fa,fr⟩:=Vy w _ _ 60 60;rw[←hW];have r0:=cr 0 (some (.int .u64 0)) rfl;have r1:=cr 1 (some (.int .u64 0)) rfl;clear ca cr fa hW;refine (Bt.out W).mono ?_;rintro e w' ⟨rfl,x,rfl⟩;have hmk:=R1.make (x:=x) hB (rb:=w.heap.size+1) (by omega) (by omega) r0 r1 fr (fun _=>false) 168;have hth:=Zg (hmk.row.there' (Ys n));have hmk':=Zg (hmk.write (Ys n));clear hmk r0 r1 fr hB hs;go_wp2_with (first|refine wpList_store_mid rfl 168 _ _ rfl (plus W x).heap.size 0 (YC (Ys n)).toArray rfl rfl hth.out (Rn _) (Rm _) ?_|fail);generalize hb:(plus W x).heap.size=b at hmk';go_loopw [6] (fun kk V=>∃j:Nat,j≤128∧kk=.int .i64 j∧R1 w (w.heap.size+1) b (upto (VA n k) (Ys n) j) V) (fun kk _=>128-(intOf kk).toNat)
 case atStart=>exact⟨0,Zq _,rfl,hmk'.out.congr fun i _=>(Nj (VA n k) (Ys n) i).symm⟩
 case round =>
  obtain⟨j,hj,rfl,hT⟩:=hrel;by_cases Zz:j<128
  ·have cj:=hT.row.c j Zz
   rw[Nh]at cj;have fz:=hT.row.fz;have hS:Hid (∀x,x=VA n k j→R1 w (w.heap.size+1) b (upto (VA n k) (Ys n) (j+1)) (wr.setCell ⟨b,j,none⟩ (.bool x))):=fun x hx=>by
    subst hx;exact (hT.set j Zz (VA n k j)).congr fun i _=>Ni (VA n k) (Ys n) j i
   have hd:Hid (VA n k j=(Ys n j&&decide ((j:Int)<k))):=rfl;clear hT;cases hbit:Ys n j <;> rw[hbit]at cj
   ·go_wp2
    go_roundw
    case rel=>exact⟨j+1,by omega,by go_num,hS.out _ (by rw[hd.out,hbit];rfl)⟩
    case measure=>simp[intOf];omega
   ·go_wp2
    go_roundw
    case rel=>exact⟨j+1,by omega,by go_num,hS.out _ (by rw[hd.out,hbit];rfl)⟩
    case measure=>simp[intOf];omega
  ·obtain rfl:j=128:=by omega
   have Z1:=hT.row.congr (Ng (VA n k) _);have hrg:=Zg Z1.range;have q0:=hT.p0;have q1:=hT.p1;have qf:=hT.pf;have Xs:=Zg hT;clear hT Z1;go_wp2_with (first|refine wpList_load_mid rfl 168 _ rfl b 0 rfl (YC (VA n k)) _ hrg.out Tryz.underlying168 rfl (Qn _) ?_|fail);refine (S.out wr).mono ?_;rintro e w' ⟨rfl,y,rfl⟩;go_wp2;exact bodyPost_ret (v:=.agg #[.int .u64 (hi (n % 2 ^ hw k)),.int .u64 (lo (n % 2 ^ hw k))]) (by simp[results,Tryz.results60,go_sem,q0,q1]) rfl ⟨rfl,Xs.out.fin y _ _⟩
theorem Hy(n:Nat)(k)(hn:n<YT):Xp Zr 34 #[nv n,.int .i64 k] (.bool (decide (n % 2 ^ hw k=n))):=by
 intro w;have S:=Zg (Hx n k hn);have eqN:=Ph;clear hn;go_enter func34,ntmps34;go_wp2;obtain⟨W,hW,hB,hs,ca,fa⟩:=Vx w _ 60;rw[←hW];have ca0:=ca 0 (some (.int .u64 (hi n))) rfl;have ca1:=ca 1 (some (.int .u64 (lo n))) rfl;clear hW fa ca;refine VS (by kernel_rfl) (by kernel_rfl) ?_;repeat (go_big_quiet_step (exact S.out.at _ _))
 refine wpQuiet_nil ?_;rintro _ ⟨y,rfl⟩;go_wp2;go_ret;exact⟨rfl,ZS (hB.trans ((Z9 W y).mono hB.size))⟩
structure R2 (w:World) (rb bx b:Nat) (f g:Nat→Bool) (V:World):Prop where
 one:R1 w rb b g V
 lx:rb<bx
 xb:bx<b
 x:Yp V bx f
theorem R2.set{w V:World}{rb bx b:Nat}{f g:Nat→Bool}(h:R2 w rb bx b f g V)(k:Nat)(hk:k<128)(x:Bool):R2 w rb bx b f (fun i=>if i=k then x else g i) (V.setCell ⟨b,k,none⟩ (.bool x)):=by
 have:=h.xb;exact⟨h.one.set k hk x,h.lx,h.xb,h.x.other _ (by simp;omega) _⟩
theorem R2.congr{w V:World}{rb bx b:Nat}{f g g':Nat→Bool}(h:R2 w rb bx b f g V)(e:∀i,i<128→g i=g' i):R2 w rb bx b f g' V:=⟨h.one.congr e,h.lx,h.xb,h.x⟩
theorem R2.make{w V:World}{rb bx:Nat}{f:Nat→Bool}(h:R1 w rb bx f V)(T:TypeId):R2 w rb bx V.heap.size f (fun _=>false) (V.alloc (.cells (YC fun _=>false).toArray T)):=by
 have h1:=h.lt;have h2:=h.blt;have h3:=h.below.size;exact⟨⟨h.below.alloc (by omega) _,h.le,by omega,by simp,(XZ _ _ _ 0 (by omega)).trans h.r0,(XZ _ _ _ 1 (by omega)).trans h.r1,fun o=>(Uj _ _ _ o (by omega)).trans (h.fr o),Yp.new V _ T⟩,h1,h2,h.row.old h2 _⟩
theorem FY{P:Program}{md:Region.Mode}{ops:Array Oper}{Q:Exit→Act→World→Prop}(I:Array Bool→Act→World→Prop)(hd:∀l a w,I l a w→Region.ready md ops l=[]→Q .normal a w)(hs:∀l a w i,I l a w→i∈Region.ready md ops l→wpOp P ops Q i (I (l.setIfInBounds i true)) a w) :
  ∀(fuel:Nat) (l:Array Bool) (a:Act) (w:World),l.toList.count false≤fuel→I l a w→wpAny P md ops Q fuel l a w:=by
 have key:∀(l:Array Bool) (j:Nat),j∈Region.ready md ops l→∃h:j<l.toList.length,l.toList[j]=false:=fun l j hj=>by
  have h1:=(mem_ready.1 hj).1;by_cases h:j<l.size
  ·exact⟨by simpa using h,by simpa [Array.getD,h]using h1⟩
  ·simp[Array.getD,h]at h1
 intro fuel;induction fuel with
 | zero =>
  intro l a w hc hI;have h0:Region.ready md ops l=[]:=by
   refine List.eq_nil_iff_forall_not_mem.2 fun j hj=>?_;obtain⟨h,e⟩:=key l j hj;have h2:false∈l.toList:=e▸List.getElem_mem h;have:=List.count_pos_iff.2 h2;omega
  exact⟨h0,hd l a w hI h0⟩
 | succ n ih =>
  intro l a w hc hI;refine⟨hd l a w hI,fun i hi=>?_⟩;obtain⟨h,e⟩:=key l i hi;have h2:(l.setIfInBounds i true).toList.count false≤n:=by
   have h3:=List.count_pos_iff.2 (e▸List.getElem_mem h:false∈l.toList);rw[Array.toList_setIfInBounds,List.count_set h,e,if_pos (beq_self_eq_true false),if_neg (by decide)];omega
  exact wpOp_mono (fun a' w' h'=>ih _ a' w' h2 h') (hs l a w i hI hi)
structure Ug (B:Nat) (V:World) (t:Value) (on wr:Bool) (f:Nat→Bool):Prop where
 row:on=true→∃p,t=.pointer (some ⟨p,0,none⟩)∧B≤p∧p<V.heap.size∧∃g,Yp V p g∧(wr=true→g=f)
 need:wr=true→on=true
structure YX (w W:World) (va vb:Value) (f g:Nat→Bool) (b0 b1 b2 b3 b4 b5 b6 b7:Bool) (t5 t6 t8 t9 t10 t11:Value) (V:World):Prop where
 below:Below W.heap.size W V
 e0:b0=true→t8=va
 e1:b1=true→t9=VZ f
 e2:b2=true→t10=vb
 e3:b3=true→t11=VZ g
 x:Ug W.heap.size V t5 b4 b6 f
 y:Ug W.heap.size V t6 b5 b7 g
 apart:b4=true→b5=true→∀p q,t5=.pointer (some ⟨p,0,none⟩)→t6=.pointer (some ⟨q,0,none⟩)→p≠q
theorem Ug.go{B:Nat}{V V':World}{t:Value}{on wr:Bool}{f:Nat→Bool}(h:Ug B V t on wr f)(hV:∀B,B=V.heap.size→Below B V V'):Ug B V' t on wr f:=by
 refine⟨fun e=>?_,h.need⟩;obtain⟨p,e1,e2,e3,g,e4,e5⟩:=h.row e;exact⟨p,e1,e2,Nat.lt_of_lt_of_le e3 (hV _ rfl).size,g,e4.below (hV _ rfl) e3,e5⟩
def RK(b0 b1 b2 b3 b4 b5:Bool)(i:Nat):Bool:=match i with
 | 0=>true
 | 1=>b0
 | 2=>true
 | 3=>b2
 | 4=>!b4
 | 5=>!b5
 | 6=>b1&&b4
 | 7=>b3&&b5
 | _=>false
theorem Mt(b0 b1 b2 b3 b4 b5:Bool)(i:Nat)(h:RK b0 b1 b2 b3 b4 b5 i=true) :
  i=0∨(i=1∧b0=true)∨i=2∨(i=3∧b2=true)∨(i=4∧b4=false)∨(i=5∧b5=false)∨(i=6∧b1=true∧b4=true)∨(i=7∧b3=true∧b5=true):=by
 unfold RK at h;split at h <;> simp_all
theorem YX.start{w W:World}{va vb:Value}{f g:Nat→Bool}{t5 t6 t8 t9 t10 t11:Value}(x:ZA):YX w W va vb f g false false false false false false false false t5 t6 t8 t9 t10 t11 (plus W x) :=
 ⟨Z9 W x,by simp,by simp,by simp,by simp,⟨by simp,by simp⟩,⟨by simp,by simp⟩,by simp⟩
section
variable {w W V:World} {va vb:Value} {f g:Nat→Bool} {b0 b1 b2 b3 b4 b5 b6 b7:Bool} {t5 t6 t8 t9 t10 t11:Value}
theorem YX.call1(h:YX w W va vb f g b0 b1 b2 b3 b4 b5 b6 b7 t5 t6 t8 t9 t10 t11 V)(x:ZA):YX w W va vb f g b0 true b2 b3 b4 b5 b6 b7 t5 t6 t8 (VZ f) t10 t11 (plus V x) :=
 ⟨h.below.trans ((Z9 V x).mono h.below.size),h.e0,fun _=>rfl,h.e2,h.e3,h.x.go fun _ e=>e▸Z9 V x,h.y.go fun _ e=>e▸Z9 V x,h.apart⟩
theorem YX.call3(h:YX w W va vb f g b0 b1 b2 b3 b4 b5 b6 b7 t5 t6 t8 t9 t10 t11 V)(x:ZA):YX w W va vb f g b0 b1 b2 true b4 b5 b6 b7 t5 t6 t8 t9 t10 (VZ g) (plus V x) :=
 ⟨h.below.trans ((Z9 V x).mono h.below.size),h.e0,h.e1,h.e2,fun _=>rfl,h.x.go fun _ e=>e▸Z9 V x,h.y.go fun _ e=>e▸Z9 V x,h.apart⟩
theorem YX.load0(h:YX w W va vb f g b0 b1 b2 b3 b4 b5 b6 b7 t5 t6 t8 t9 t10 t11 V):YX w W va vb f g true b1 b2 b3 b4 b5 b6 b7 t5 t6 va t9 t10 t11 V :=
 ⟨h.below,fun _=>rfl,h.e1,h.e2,h.e3,h.x,h.y,h.apart⟩
theorem YX.load2(h:YX w W va vb f g b0 b1 b2 b3 b4 b5 b6 b7 t5 t6 t8 t9 t10 t11 V):YX w W va vb f g b0 b1 true b3 b4 b5 b6 b7 t5 t6 t8 t9 vb t11 V :=
 ⟨h.below,h.e0,h.e1,fun _=>rfl,h.e3,h.x,h.y,h.apart⟩
theorem Ug.new(V:World)(B:Nat)(hB:B≤V.heap.size)(T:TypeId)(f:Nat→Bool):Ug B (V.alloc (.cells (YC fun _=>false).toArray T)) (.pointer (some ⟨V.heap.size,0,none⟩)) true false f :=
 ⟨fun _=>⟨V.heap.size,rfl,hB,by simp,_,Yp.new V _ T,by simp⟩,by simp⟩
theorem YX.alloc4(h:YX w W va vb f g b0 b1 b2 b3 false b5 b6 b7 t5 t6 t8 t9 t10 t11 V)(T:TypeId):YX w W va vb f g b0 b1 b2 b3 true b5 false b7 (.pointer (some ⟨V.heap.size,0,none⟩)) t6 t8 t9 t10 t11 (V.alloc (.cells (YC fun _=>false).toArray T)):=by
 have hV:∀B,B=V.heap.size→Below B V (V.alloc (.cells (YC fun _=>false).toArray T)):=fun B e=>(Zc B V).alloc (by omega) _;refine⟨h.below.trans ((hV _ rfl).mono h.below.size),h.e0,h.e1,h.e2,h.e3,Ug.new V _ h.below.size T f,h.y.go hV,fun _ e p q e1 e2=>?_⟩;obtain⟨q',e3,_,e4,_⟩:=h.y.row e;simp only[e3,Value.pointer.injEq,Option.some.injEq,Addr.mk.injEq]at e1 e2;omega
theorem YX.alloc5(h:YX w W va vb f g b0 b1 b2 b3 b4 false b6 b7 t5 t6 t8 t9 t10 t11 V)(T:TypeId):YX w W va vb f g b0 b1 b2 b3 b4 true b6 false t5 (.pointer (some ⟨V.heap.size,0,none⟩)) t8 t9 t10 t11 (V.alloc (.cells (YC fun _=>false).toArray T)):=by
 have hV:∀B,B=V.heap.size→Below B V (V.alloc (.cells (YC fun _=>false).toArray T)):=fun B e=>(Zc B V).alloc (by omega) _;refine⟨h.below.trans ((hV _ rfl).mono h.below.size),h.e0,h.e1,h.e2,h.e3,h.x.go hV,Ug.new V _ h.below.size T g,fun e _ p q e1 e2=>?_⟩;obtain⟨q',e3,_,e4,_⟩:=h.x.row e;simp only[e3,Value.pointer.injEq,Option.some.injEq,Addr.mk.injEq]at e1 e2;omega
theorem YX.off6(h:YX w W va vb f g b0 b1 b2 b3 false b5 b6 b7 t5 t6 t8 t9 t10 t11 V):b6=false:=by
 cases b6
 ·rfl
 ·exact absurd (h.x.need rfl) (by simp)
theorem YX.off7(h:YX w W va vb f g b0 b1 b2 b3 b4 false b6 b7 t5 t6 t8 t9 t10 t11 V):b7=false:=by
 cases b7
 ·rfl
 ·exact absurd (h.y.need rfl) (by simp)
theorem Yp.away{V:World}{b p:Nat}{f:Nat→Bool}(h:Yp V b f)(hp:p≠b)(l:List Value):Yp (V.setCells p 0 l) b f :=
 ⟨fun i hi=>(World.cell?_setCells_out _ _ _ _ _ (fun e _=>absurd e (by simpa using fun e=>hp e.symm))).trans (h.c i hi),fun o=>by rw[World.frozen?_setCells];exact h.fz o⟩
theorem YX.store6{p:Nat}(h:YX w W va vb f g b0 b1 b2 b3 true b5 b6 b7 (.pointer (some ⟨p,0,none⟩)) t6 t8 t9 t10 t11 V):YX w W va vb f g b0 b1 b2 b3 true b5 true b7 (.pointer (some ⟨p,0,none⟩)) t6 t8 t9 t10 t11 (V.setCells p 0 (YC f)):=by
 obtain⟨p',e1,e2,e3,k,e4,e5⟩:=h.x.row rfl;simp only[Value.pointer.injEq,Option.some.injEq,Addr.mk.injEq,and_true]at e1;subst e1;have Yq:=(UB (B:=0) (YC f) 0 V V p (Zc 0 V) (Zq _)).size;refine⟨UB _ _ _ _ _ h.below e2,h.e0,h.e1,h.e2,h.e3,⟨fun _=>⟨p,rfl,e2,by omega,f,e4.written f,fun _=>rfl⟩,fun _=>rfl⟩,⟨fun e=>?_,h.y.need⟩,h.apart⟩;obtain⟨q,c1,c2,c3,k',c4,c5⟩:=h.y.row e;exact⟨q,c1,c2,by omega,k',c4.away (h.apart rfl e _ _ rfl c1) _,c5⟩
theorem YX.store7{q:Nat}(h:YX w W va vb f g b0 b1 b2 b3 b4 true b6 b7 t5 (.pointer (some ⟨q,0,none⟩)) t8 t9 t10 t11 V):YX w W va vb f g b0 b1 b2 b3 b4 true b6 true t5 (.pointer (some ⟨q,0,none⟩)) t8 t9 t10 t11 (V.setCells q 0 (YC g)):=by
 obtain⟨p',e1,e2,e3,k,e4,e5⟩:=h.y.row rfl;simp only[Value.pointer.injEq,Option.some.injEq,Addr.mk.injEq,and_true]at e1;subst e1;have Yq:=(UB (B:=0) (YC g) 0 V V q (Zc 0 V) (Zq _)).size;refine⟨UB _ _ _ _ _ h.below e2,h.e0,h.e1,h.e2,h.e3,⟨fun e=>?_,h.x.need⟩,⟨fun _=>⟨q,rfl,e2,by omega,g,e4.written g,fun _=>rfl⟩,fun _=>rfl⟩,h.apart⟩;obtain⟨p,c1,c2,c3,k',c4,c5⟩:=h.x.row e;exact⟨p,c1,c2,by omega,k',c4.away (fun hh=>h.apart e rfl _ _ c1 rfl hh.symm) _,c5⟩
end
structure R3 (w:World) (rb p q:Nat) (f g:Nat→Bool) (V:World):Prop where
 one:R1 w rb p f V
 apart:p≠q
 y:Yp V q g
theorem R3.set{w V:World}{rb p q:Nat}{f g:Nat→Bool}(h:R3 w rb p q f g V)(k:Nat)(hk:k<128)(x:Bool):R3 w rb p q (fun i=>if i=k then x else f i) g (V.setCell ⟨p,k,none⟩ (.bool x)) :=
 ⟨h.one.set k hk x,h.apart,h.y.other _ h.apart _⟩
theorem R3.yl{w V:World}{rb p q:Nat}{f g:Nat→Bool}(h:R3 w rb p q f g V):q<V.heap.size:=World.block_lt_of_cell? V ⟨q,0,none⟩ (h.y.c 0 (by omega))
theorem R3.grow{w V:World}{rb p q:Nat}{f g:Nat→Bool}(h:R3 w rb p q f g V)(x:ZA):R3 w rb p q f g (plus V x) :=
 ⟨⟨h.one.below.trans ((Z9 V x).mono h.one.below.size),h.one.le,h.one.lt,Nat.lt_of_lt_of_le h.one.blt (Tu V x),h.one.p0 x,h.one.p1 x,h.one.pf x,h.one.row.plus h.one.blt x⟩,h.apart,h.y.plus h.yl x⟩
theorem R3.congr{w V:World}{rb p q:Nat}{f f' g:Nat→Bool}(h:R3 w rb p q f g V)(e:∀i,i<128→f i=f' i):R3 w rb p q f' g V:=⟨h.one.congr e,h.apart,h.y⟩
theorem R3.make{w W V:World}{p q:Nat}{f g:Nat→Bool}{rb:Nat}(hB:Below w.heap.size w W)(hrb:w.heap.size≤rb)(hs:rb<W.heap.size)(r0:∀y,(plus W y).cell? ⟨rb,0,none⟩=some (.int .u64 0))(r1:∀y,(plus W y).cell? ⟨rb,1,none⟩=some (.int .u64 0))(fr:∀y o,(plus W y).frozen? ⟨rb,o,none⟩=false)(hV:Below W.heap.size W V)(p1:W.heap.size≤p)(p2:p<V.heap.size)(p3:Yp V p f)(q3:Yp V q g)(hpq:p≠q):R3 w rb p q f g V:=by
 have e0:=r0 ⟨#[],W.drawn⟩;have e1:=r1 ⟨#[],W.drawn⟩;have e2:=fr ⟨#[],W.drawn⟩;rw[ZK]at e0 e1 e2;exact⟨⟨hB.trans (hV.mono hB.size),hrb,by omega,p2,(hV.cell (p:=⟨rb,0,none⟩) hs).trans e0,(hV.cell (p:=⟨rb,1,none⟩) hs).trans e1,fun o=>(hV.frozen (p:=⟨rb,o,none⟩) hs).trans (e2 o),p3⟩,hpq,q3⟩
def Vw(m n i:Nat):Bool:=and (Ys m i) (Ys n i)
theorem NL(m n:Nat)(hm:m<YT)(hn:n<YT):m &&& n<YT:=by
 rw[U5]at *;exact (have _:=hm;Nat.and_lt_two_pow _ hn)
theorem NN(m n:Nat)(hm:m<YT)(hn:n<YT):VX (Vw m n)=m &&& n:=by
 refine P2 _ _ (NL m n hm hn) fun i hi=>?_;rw[Nat.testBit_and];unfold Vw Ys;cases m.testBit i <;> cases n.testBit i <;> rfl
theorem Hw(m n:Nat)(hm:m<YT)(hn:n<YT):Xp Zr 101 #[nv m,nv n] (nv (m &&& n)):=by
 intro w;have hz:=QD;have Bm:=Zg (Qf m hm);have Bn:=Zg (Qf n hn);have S:Hid (Xp Zr 105 #[VZ (Vw m n)] (nv (m &&& n))):=(Ou _).eqv (by rw[NN m n hm hn]);clear hm hn;go_enter func101,ntmps101;go_wp2_with fail;obtain⟨W,hW,hB,hs,ca,cb,cr,fa,fb,fr⟩:=WL w _ _ _ 60 60 60;rw[←hW];have a0:=ca 0 (some (.int .u64 (hi m))) rfl ⟨#[],W.drawn⟩;have a1:=ca 1 (some (.int .u64 (lo m))) rfl ⟨#[],W.drawn⟩;have b0:=cb 0 (some (.int .u64 (hi n))) rfl ⟨#[],W.drawn⟩;have b1:=cb 1 (some (.int .u64 (lo n))) rfl ⟨#[],W.drawn⟩;rw[ZK]at a0 a1 b0 b1;have r0:=Zg (cr 0 (some (.int .u64 0)) rfl);have r1:=Zg (cr 1 (some (.int .u64 0)) rfl);have hfr:=Zg fr;clear hW ca cb cr fa fb fr;have VJ:Hid (∀V,Below W.heap.size W V→V.cell? ⟨w.heap.size,0,none⟩=some (.int .u64 (hi m))∧V.cell? ⟨w.heap.size,1,none⟩=some (.int .u64 (lo m))∧V.cell? ⟨w.heap.size+1,0,none⟩=some (.int .u64 (hi n))∧V.cell? ⟨w.heap.size+1,1,none⟩=some (.int .u64 (lo n))):=fun V hV =>
  ⟨(hV.cell (p:=⟨w.heap.size,0,none⟩) (by show w.heap.size<_;omega)).trans a0,(hV.cell (p:=⟨w.heap.size,1,none⟩) (by show w.heap.size<_;omega)).trans a1,(hV.cell (p:=⟨w.heap.size+1,0,none⟩) (by show w.heap.size+1<_;omega)).trans b0,(hV.cell (p:=⟨w.heap.size+1,1,none⟩) (by show w.heap.size+1<_;omega)).trans b1⟩
 clear a0 a1 b0 b1;refine wp_region_any (by kernel_rfl) ?_;rw[RM];refine FY (fun l a V=>∃b0 b1 b2 b3 b4 b5 b6 b7 t5 t6 t8 t9 t10 t11,l=#[b0,b1,b2,b3,b4,b5,b6,b7]∧a=⟨#[nv m,nv n,.pointer (some ⟨w.heap.size,0,none⟩),.pointer (some ⟨w.heap.size+1,0,none⟩),.pointer (some ⟨w.heap.size+1+1,0,none⟩),t5,t6,undef,t8,t9,t10,t11,undef,undef,undef,undef,undef,undef,undef,undef,undef,undef,undef,undef,undef,undef,undef,undef],[]⟩∧YX w W (nv m) (nv n) (Ys m) (Ys n) b0 b1 b2 b3 b4 b5 b6 b7 t5 t6 t8 t9 t10 t11 V) ?hd ?hs _ _ _ _ (by decide) ⟨false,false,false,false,false,false,false,false,undef,undef,undef,undef,undef,undef,rfl,rfl,YX.start _⟩
 case hs =>
  rintro l a V i ⟨b0,b1,b2,b3,b4,b5,b6,b7,t5,t6,t8,t9,t10,t11,rfl,rfl,hT⟩ hi;have hc:RK b0 b1 b2 b3 b4 b5 i=true:=by
   refine List.all_eq_true.1 ?_ i hi;clear hi hT;revert b0 b1 b2 b3 b4 b5 b6 b7;decide +kernel
  clear hi;obtain⟨c0,c1,c2,c3⟩:=VJ.out V hT.below;have hT:=Zg hT;rcases Mt _ _ _ _ _ _ _ hc with rfl|⟨rfl,rfl⟩|rfl|⟨rfl,rfl⟩|⟨rfl,rfl⟩|⟨rfl,rfl⟩|⟨rfl,rfl,rfl⟩|⟨rfl,rfl,rfl⟩
  ·refine wpOp_step rfl fun K hK=>?_
   rw[if_pos (by rfl)];go_simp;exact hK _ _ ⟨true,b1,b2,b3,b4,b5,b6,b7,t5,t6,_,t9,t10,t11,rfl,rfl,hT.out.load0⟩
  ·obtain rfl:=hT.out.e0 rfl
   refine wpOp_step rfl fun K hK=>?_;rw[if_pos (by rfl)];go_simp;refine (Bm.out V).mono ?_;rintro e w' ⟨rfl,x,rfl⟩;try go_simp
   exact hK _ _ ⟨true,true,b2,b3,b4,b5,b6,b7,t5,t6,_,_,t10,t11,rfl,rfl,hT.out.call1 x⟩
  ·refine wpOp_step rfl fun K hK=>?_
   rw[if_pos (by rfl)];go_simp;exact hK _ _ ⟨b0,b1,true,b3,b4,b5,b6,b7,t5,t6,t8,t9,_,t11,rfl,rfl,hT.out.load2⟩
  ·obtain rfl:=hT.out.e2 rfl
   refine wpOp_step rfl fun K hK=>?_;rw[if_pos (by rfl)];go_simp;refine (Bn.out V).mono ?_;rintro e w' ⟨rfl,x,rfl⟩;try go_simp
   exact hK _ _ ⟨b0,b1,true,true,b4,b5,b6,b7,t5,t6,t8,t9,_,_,rfl,rfl,hT.out.call3 x⟩
  ·obtain rfl:=hT.out.off6
   refine wpOp_step rfl fun K hK=>?_;rw[if_pos (by rfl)];go_simp;exact hK _ _ ⟨b0,b1,b2,b3,true,b5,false,b7,_,t6,t8,t9,t10,t11,rfl,rfl,hT.out.alloc4 _⟩
  ·obtain rfl:=hT.out.off7
   refine wpOp_step rfl fun K hK=>?_;rw[if_pos (by rfl)];go_simp;exact hK _ _ ⟨b0,b1,b2,b3,b4,true,b6,false,t5,_,t8,t9,t10,t11,rfl,rfl,hT.out.alloc5 _⟩
  ·obtain rfl:=hT.out.e1 rfl
   obtain⟨p,rfl,_,_,k,hk,_⟩:=hT.out.x.row rfl;refine wpOp_step rfl fun K hK=>?_;rw[if_pos (by rfl)];refine Go.wp_store_mid _ _ _ rfl p 0 (YC (Ys m)).toArray rfl rfl (hk.there' _) (Rn _) (Rm _) ?_;exact hK _ _ ⟨b0,true,b2,b3,true,b5,true,b7,_,t6,t8,_,t10,t11,rfl,rfl,hT.out.store6⟩
  ·obtain rfl:=hT.out.e3 rfl
   obtain⟨p,rfl,_,_,k,hk,_⟩:=hT.out.y.row rfl;refine wpOp_step rfl fun K hK=>?_;rw[if_pos (by rfl)];refine Go.wp_store_mid _ _ _ rfl p 0 (YC (Ys n)).toArray rfl rfl (hk.there' _) (Rn _) (Rm _) ?_;exact hK _ _ ⟨b0,b1,b2,true,b4,true,b6,true,t5,_,t8,t9,t10,_,rfl,rfl,hT.out.store7⟩
 case hd =>
  rintro l a V ⟨b0,b1,b2,b3,b4,b5,b6,b7,t5,t6,t8,t9,t10,t11,rfl,rfl,hT⟩ hi;have hc:(b0&&b1&&b2&&b3&&b4&&b5&&b6&&b7)=true:=by
   clear hT;revert b0 b1 b2 b3 b4 b5 b6 b7;decide +kernel
  clear hi;simp only[Zd]at hc;obtain⟨⟨⟨⟨⟨⟨⟨rfl,rfl⟩,rfl⟩,rfl⟩,rfl⟩,rfl⟩,rfl⟩,rfl⟩:=hc;obtain rfl:=hT.e0 rfl;obtain rfl:=hT.e1 rfl;obtain rfl:=hT.e2 rfl;obtain rfl:=hT.e3 rfl;obtain⟨p,rfl,p1,p2,f',p3,p4⟩:=hT.x.row rfl;obtain⟨q,rfl,q1,q2,g',q3,q4⟩:=hT.y.row rfl;obtain rfl:=p4 rfl;obtain rfl:=q4 rfl;have hpq:=hT.apart rfl rfl _ _ rfl rfl;have hR:=Zg (R3.make hB (by omega) (by omega) r0.out r1.out hfr.out hT.below p1 p2 p3 q3 hpq);clear p1 p2 p3 p4 q1 q2 q3 q4 hpq hT r0 r1 hfr VJ Bm Bn hB hs;go_wp2;go_loopw [7] (fun kk U=>∃j:Nat,j≤128∧kk=.int .i64 j∧R3 w (w.heap.size+1+1) p q (upto (Vw m n) (Ys m) j) (Ys n) U) (fun kk _=>128-(intOf kk).toNat)
  case atStart=>exact⟨0,Zq _,rfl,hR.out.congr fun i _=>(Nj (Vw m n) (Ys m) i).symm⟩
  case round =>
   obtain⟨j,hj,rfl,hT⟩:=hrel;by_cases Zz:j<128
   ·have cj:=hT.one.row.c j Zz
    rw[Nh]at cj;have dj:=hT.y.c j Zz;have fz:=hT.one.row.fz;have hS:Hid (∀x,x=Vw m n j→R3 w (w.heap.size+1+1) p q (upto (Vw m n) (Ys m) (j+1)) (Ys n) (wr.setCell ⟨p,j,none⟩ (.bool x))):=fun x hx=>by
     subst hx;exact ((hT).set j Zz (Vw m n j)).congr fun i _=>Ni (Vw m n) (Ys m) j i
    have hd:Hid (Vw m n j=and (Ys m j) (Ys n j)):=rfl;clear hT;cases hbit:Ys m j <;> rw[hbit]at cj <;> cases hbit2:Ys n j <;> rw[hbit2]at dj
    all_goals
     go_wp2;go_roundw
     case rel=>exact⟨j+1,by omega,by go_num,hS.out _ (by rw[hd.out,hbit,hbit2];rfl)⟩
     case measure=>simp[intOf];omega
   ·obtain rfl:j=128:=by omega
    have Z1:=hT.one.row.congr (Ng (Vw m n) _);have hrg:=Zg Z1.range;have q0:=hT.one.p0;have q1:=hT.one.p1;have qf:=hT.one.pf;have Xs:=Zg hT.one;clear hT Z1;go_wp2_with (first|refine wpList_load_mid rfl 168 _ rfl p 0 rfl (YC (Vw m n)) _ hrg.out Tryz.underlying168 rfl (Qn _) ?_|fail);refine (S.out wr).mono ?_;rintro e w' ⟨rfl,y,rfl⟩;go_wp2;exact bodyPost_ret (v:=.agg #[.int .u64 (hi (m &&& n)),.int .u64 (lo (m &&& n))]) (by simp[results,Tryz.results101,go_sem,q0,q1]) rfl ⟨rfl,Xs.out.fin y _ _⟩
end Go.Proofs.YtheaknidbcbneaaGreat
