/-
  WHAT IS PROVED HERE: a part of the proof (made narrower and merged by program; the parts: Ha PN Hc Hd Fc).
-/
import Derived.Lib.Strings
import Derived.Laws.BitsAllLaws
import Derived.Shelf.Spec.BitsCarry
import Derived.Test.YtknmeggfokpbjaaGreatM6
import Derived.Test.YtknmeggfokpbjaaGreatM1
import Derived.Test.YtknmeggfokpbjaaGreatM3
import Derived.Test.YtknmeggfokpbjaaGreatM4
set_option maxRecDepth 100000
set_option maxHeartbeats 8000000
set_option linter.all false
namespace Go.Proofs.YtknmeggfokpbjaaGreat
open Z
open Go.RowKit Go.Proofs.Tryz
open Below renaming refl→Zb
open Bool renaming and_eq_true→Zc
open Ending renaming returned→Zd
open Lib renaming hid→Zf
open List renaming drop_succ_cons→Zg,drop_zero→Zh,length_nil→Zl,mem_of_getElem?→Zo,take_succ_cons→Zs
open Nat renaming le_refl→Zt,lt_of_lt_of_le→Zu,zero_le→Zw
open Go.Proofs.Tryz renaming prog→Zx
open Value renaming bool→Zy,int→Zz
open Go.RowKit
def VE(s:ByteArray)(k:Nat):Nat:=if _h:k<s.size then (if (Tj (Wy s k)||Vy (Wy s k))=true then VE s (k+1) else k) else k
termination_by s.size-k
theorem xH{s:ByteArray}{k:Nat}(h:k<s.size)(hb:(Tj (Wy s k)||Vy (Wy s k))=true):VE s k=VE s (k+1):=by rw[VE,dif_pos h,if_pos hb]
theorem xI{s:ByteArray}{k:Nat}(h:k<s.size)(hb:(Tj (Wy s k)||Vy (Wy s k))=false):VE s k=k:=by rw[VE,dif_pos h,if_neg (by rw[hb];simp)]
theorem EE{s:ByteArray}{k:Nat}(h:¬k<s.size):VE s k=k:=by rw[VE,dif_neg h]
theorem xG(s:ByteArray):∀(d k:Nat),s.size-k=d→k≤s.size→k≤VE s k∧VE s k≤s.size
 | 0,k,h,hk=>by rw[EE asB];omega
 | d+1,k,h,hk=>by
  cases hb:(Tj (Wy s k)||Vy (Wy s k)) with
  | true=>rw[xH asB hb];have:=xG s d (k+1) asB asB;omega
  | false=>rw[xI asB hb];omega
abbrev rest(s:ByteArray)(k:Nat):ByteArray:=s.extract k s.size
theorem CS(s:ByteArray):s.data.toList.length=s.size:=by rw[Array.length_toList];rfl
theorem dY(s:ByteArray):rest s 0=s:=by apply ByteArray.ext;simp[rest]
theorem Ey(c:Nat)(w:World)(h:c<256):Calls Zx 141 #[.int .u8 (c:Int)] w fun e w'=>e=.returned (.bool (Vy c))∧w=w':=by
 obtain⟨b,hb⟩:=ZB (Vy c);have Yi:=Zf hb;rw[hb];clear hb;go_enter func141,ntmps141;exact pn
def Qt(c:Nat):Bool:=Tj c||Vy c
theorem aap(c:Nat)(w:World)(h:c<256):Calls Zx 197 #[.int .u8 (c:Int)] w fun e w'=>e=.returned (.bool (Qt c))∧w=w':=by
 obtain⟨b,hb⟩:=ZB (Qt c);have Yi:=Zf hb;rw[hb];clear hb;cases hd:Vy c with
 | true =>
  have hd':=Zf hd;have hD:=Zf (fun w=>Ey c w h);rw[hd]at hD;clear hd;go_enter func197,ntmps197;go_wp2_with (go_at_call 141;refine (hD.out _).mono ?_;rintro e w' ⟨rfl,rfl⟩);all_goals
   go_ret;refine⟨?_,rfl⟩;show Zd (.bool _)=Zd (.bool _)
   refine congrArg (fun x=>Zd (.bool x)) ?_;rw[←Yi.out];have hx:=hd'.out;unfold Qt Tj;unfold Vy at hx ⊢;rw[Bool.eq_iff_iff];simp at hx ⊢;omega
 | false =>
  have hd':=Zf hd;have hD:=Zf (fun w=>Ey c w h);rw[hd]at hD;clear hd;go_enter func197,ntmps197;go_wp2_with (go_at_call 141;refine (hD.out _).mono ?_;rintro e w' ⟨rfl,rfl⟩);all_goals
   go_ret;refine⟨?_,rfl⟩;show Zd (.bool _)=Zd (.bool _)
   refine congrArg (fun x=>Zd (.bool x)) ?_;rw[←Yi.out];have hx:=hd'.out;unfold Qt Tj;unfold Vy at hx ⊢;rw[Bool.eq_iff_iff];simp at hx ⊢;omega
theorem EJ{s:ByteArray}{k:Nat}(h:k<s.size)(hb:Qt (Wy s k)=true):VE s k=VE s (k+1):=xH h hb
theorem xS{s:ByteArray}{k:Nat}(h:k<s.size)(hb:Qt (Wy s k)=false):VE s k=k:=xI h hb
theorem aam(s:ByteArray)(hs:s.size≤140737488355328)(w:World):Calls Zx 142 #[.string s] w fun e w'=>e=.returned (.string (s.extract 0 (VE s 0)))∧w=w':=by
 obtain⟨R,hR⟩:=ZB (VE s 0);rw[hR];have ZR:=Zf hR;clear hR;go_enter func142,ntmps142;go_wp2;go_loopw [3] (fun iv wr=>∃k:Nat,k≤s.size∧iv=.int .i64 (k:Int)∧wr=w∧VE s k=R) (fun iv _=>s.size-(intOf iv).toNat)
 case atStart=>exact⟨0,Zw _,rfl,rfl,ZR.out⟩
 case round =>
  obtain⟨k,hk,rfl,rfl,hkR⟩:=hrel;have hkR':=Zf hkR;clear hkR;by_cases ZC:k<s.size
  ·have e2:Wy s k=(s[k]).toNat:=MV ZC
   have d256:=(s[k]).toNat_lt;generalize KN:(s[k]).toNat=d at e2 d256;have hG2:=Zf (fun w=>aap d w d256);cases g1:Qt d with
   | true =>
    have hgo:=Zf (EJ ZC (by rw[e2,g1]));rw[g1]at hG2;clear g1 e2;go_wp2_with (go_at_call 197;refine (hG2.out _).mono ?_;rintro e w' ⟨rfl,rfl⟩);go_roundw
    case rel=>exact⟨k+1,asB,by go_num,by trivial,by rw[←hgo.out];exact hkR'.out⟩
    case measure=>simp[intOf];omega
   | false =>
    have Vp:=Zf (xS ZC (by rw[e2,g1]));rw[g1]at hG2;clear g1 e2;go_wp2_with (go_at_call 197;refine (hG2.out _).mono ?_;rintro e w' ⟨rfl,rfl⟩);go_wp2;go_ret;exact⟨by rw[←hkR'.out,Vp.out];rfl,rfl⟩
  ·have Vp:=Zf (EE ZC)
   go_wp2;go_ret;exact⟨by rw[←hkR'.out,Vp.out];rfl,rfl⟩
theorem zN(s:ByteArray)(l:List UInt8):(s.toList==l)=decide (s.data.toList=l):=by
 rw[Bool.eq_iff_iff,beq_iff_eq,decide_eq_true_eq,Lib.toList_data]
theorem Wt{s:ByteArray}{l:List UInt8}(h1:(s.toList==l)=true)(h2:(s.toList==l)=false):False:=by rw[h1]at h2;cases h2
theorem jE{s:ByteArray}{l:List UInt8}(h:(s.toList==l)=true)(hm:((List.range 32).any fun k=>decide ((SM k).data.toList=l))=true):Tl s=true:=by
 rw[List.any_eq_true]at hm;obtain⟨k,hk,e⟩:=hm;rw[zN,decide_eq_true_eq]at h;rw[decide_eq_true_eq]at e;refine zM (List.mem_range.1 hk) ?_;apply ByteArray.ext;rw[←Array.toList_inj,e,h]
theorem jD{s:ByteArray}(h:Tl s=true):∃k,k<32∧(s.toList==(SM k).data.toList)=true:=by
 unfold Tl at h;rw[List.any_eq_true]at h;obtain⟨k,hk,e⟩:=h;rw[decide_eq_true_eq]at e;exact⟨k,List.mem_range.1 hk,by rw[e,zN,decide_eq_true rfl]⟩
theorem aan(s):WR Zx 143 #[.string s] (.bool (Tl s)):=by
 intro w;obtain⟨b,hb⟩:=ZB (Tl s);have Yi:=Zf hb;rw[hb];clear hb;go_enter func143,ntmps143;go_wp2;all_goals first
  | (exfalso;exact Wt (s:=s) asF asF)
  | (go_ret
     refine⟨?_,⟨#[],w.drawn⟩,(Yk w).symm⟩;have hk:Tl s=true:=jE (s:=s) asF (by decide +kernel);rw[←Yi.out,hk];rfl)
  | (go_ret
     refine⟨?_,⟨#[],w.drawn⟩,(Yk w).symm⟩;have hk:Tl s=false:=by
       cases he:Tl s with
       | false=>rfl
       | true =>
         exfalso;obtain⟨k,hk,e⟩:=jD he;match k,hk,e with
         | 0,_,e=>exact Wt e asF
         | 1,_,e=>exact Wt e asF
         | 2,_,e=>exact Wt e asF
         | 3,_,e=>exact Wt e asF
         | 4,_,e=>exact Wt e asF
         | 5,_,e=>exact Wt e asF
         | 6,_,e=>exact Wt e asF
         | 7,_,e=>exact Wt e asF
         | 8,_,e=>exact Wt e asF
         | 9,_,e=>exact Wt e asF
         | 10,_,e=>exact Wt e asF
         | 11,_,e=>exact Wt e asF
         | 12,_,e=>exact Wt e asF
         | 13,_,e=>exact Wt e asF
         | 14,_,e=>exact Wt e asF
         | 15,_,e=>exact Wt e asF
         | 16,_,e=>exact Wt e asF
         | 17,_,e=>exact Wt e asF
         | 18,_,e=>exact Wt e asF
         | 19,_,e=>exact Wt e asF
         | 20,_,e=>exact Wt e asF
         | 21,_,e=>exact Wt e asF
         | 22,_,e=>exact Wt e asF
         | 23,_,e=>exact Wt e asF
         | 24,_,e=>exact Wt e asF
         | 25,_,e=>exact Wt e asF
         | 26,_,e=>exact Wt e asF
         | 27,_,e=>exact Wt e asF
         | 28,_,e=>exact Wt e asF
         | 29,_,e=>exact Wt e asF
         | 30,_,e=>exact Wt e asF
         | 31,_,e=>exact Wt e asF
         | n+32,hn,_=>omega
     rw[←Yi.out,hk];rfl)
theorem aaS(s:ByteArray):(s.extract 0 (VE s 0)=s)↔QD s=true:=by
 have hb:=xG s _ 0 rfl (Zw _);have hz:(s.extract 0 (VE s 0)).size=VE s 0:=by rw[ByteArray.size_extract];omega
 have hgo:∀(d k:Nat),s.size-k=d→k≤s.size→VE s k=s.size→∀j,k≤j→j<s.size→Qt (Wy s j)=true:=by
  intro d;induction d with
  | zero=>intro k h _ _ j h1 h2;omega
  | succ d ih =>
   intro k h hk he j h1 h2;cases hw:Qt (Wy s k) with
   | false=>rw[xS asB hw]at he;omega
   | true =>
    by_cases hj:j=k
    ·rw[hj];exact hw
    ·rw[EJ asB hw]at he
     exact ih (k+1) asB asB he j asB h2
 have hback:∀(d k:Nat),s.size-k=d→k≤s.size→(∀j,k≤j→j<s.size→Qt (Wy s j)=true)→VE s k=s.size:=by
  intro d;induction d with
  | zero=>intro k h hk _;rw[EE asB];omega
  | succ d ih =>
   intro k h hk Xs;rw[EJ asB (Xs k (Zt _) asB)];exact ih (k+1) asB asB (fun j h1 h2=>Xs j asB h2)
 constructor
 ·intro h
  have he:VE s 0=s.size:=by rw[←hz,h]
  exact xM fun k hk=>hgo _ 0 rfl (Zw _) he k (Zw _) hk
 ·intro h
  unfold QD at h;rw[List.all_eq_true]at h;have he:VE s 0=s.size:=hback _ 0 rfl (Zw _) fun j _ hj=>h j (List.mem_range.2 hj);rw[he];exact dY s
theorem aao(s:ByteArray)(hs:s.size≤140737488355328):WR Zx 65 #[.string s] (.bool (YK s)):=by
 intro w;obtain⟨b,hb⟩:=ZB (YK s);have Yi:=Zf hb;rw[hb];clear hb;have hS:∃x,w=plus w x:=⟨⟨#[],w.drawn⟩,(Yk w).symm⟩;have Vn:=Zf hS;clear hS;by_cases h0:s.size=0
 ·have he:s=⟨#[]⟩:=ByteArray.ext (Array.eq_empty_of_size_eq_zero h0)
  have hv:b=false:=aur;subst he hv;clear Yi h0;exact po
 ·have q:s.toList.isEmpty=false:=by
   rw[Lib.toList_data];cases h:s.data.toList with
   | nil=>have:=CS s;rw[h,Zl]at this;omega
   | cons _ _=>rfl
  have q2:¬s.toList=[]:=by intro h;rw[h]at q;cases q
  by_cases h16:s.size≤16
  ·have ZC:0<s.size:=by omega
   have e0:Wy s 0=(s[0]).toNat:=MV ZC;have d256:=(s[0]).toNat_lt;generalize KN:(s[0]).toNat=d at e0 d256;have hG:=Zf (fun w=>Ey d w d256);have hF:=aam s hs;have hK:=aan s;have Oi:=aaS s;have hn:YK s=(!Vy d&&!Tl s&&QD s):=by unfold YK;rw[e0,decide_eq_true ⟨ZC,h16⟩];simp
   rw[←Yi.out,hn];clear hn e0 Yi;generalize s.extract 0 (VE s 0)=f at hF Oi;generalize Tl s=kb at hK ⊢;generalize QD s=wb at Oi ⊢;have WT:=Zf hF;have hK':=Zf hK;clear hF hK;cases hd:Vy d with
   | true =>
    rw[hd]at hG;clear hd Oi;go_enter func65,ntmps65;go_wp2_with (go_at_call 141;refine (hG.out _).mono ?_;rintro r w' ⟨rfl,rfl⟩);go_ret;exact⟨by cases kb <;> cases wb <;> rfl,Vn.out⟩
   | false =>
    rw[hd]at hG;clear hd;by_cases Rg:f=s
    ·obtain rfl:wb=true:=Oi.1 Rg
     have q3:(f.toList==s.toList)=true:=by rw[Ic,decide_eq_true Rg]
     clear Oi Rg;go_enter func65,ntmps65;go_wp2_with (first|(go_at_call 141;refine (hG.out _).mono ?_;rintro r w' ⟨rfl,rfl⟩)|(go_at_call 142;refine (WT.out _).mono ?_;rintro r w' ⟨rfl,rfl⟩)|(go_at_call 143;refine (hK'.out _).mono ?_;rintro r w' ⟨rfl,x,rfl⟩));go_ret;exact⟨by cases kb <;> rfl,x,rfl⟩
    ·obtain rfl:wb=false:=by
      cases wb with
      | false=>rfl
      | true=>exact absurd (Oi.2 rfl) Rg
     have q3:(f.toList==s.toList)=false:=by rw[Ic,decide_eq_false Rg]
     clear Oi Rg;go_enter func65,ntmps65;go_wp2_with (first|(go_at_call 141;refine (hG.out _).mono ?_;rintro r w' ⟨rfl,rfl⟩)|(go_at_call 142;refine (WT.out _).mono ?_;rintro r w' ⟨rfl,rfl⟩));go_ret;exact⟨by cases kb <;> rfl,Vn.out⟩
  ·have h17:(16:Int)<s.size:=by omega
   have hv:b=false:=aur;subst hv;clear Yi;exact po
def Wb:Nat:=340282366920938463463374607431768211456
def hi(n:Nat):Int:=((n / 18446744073709551616:Nat):Int)
def lo(n:Nat):Int:=((n % 18446744073709551616:Nat):Int)
abbrev nv(n:Nat):Value:=.agg #[.int .u64 (hi n),.int .u64 (lo n)]
def Vo(n m:Int):Int:=min (max n 0) m
def hw(k:Int):Nat:=(Vo k 128).toNat
theorem kT(n m:Int):Vo n m=if m<(if n<0 then 0 else n) then m else (if n<0 then 0 else n):=by
 unfold Vo;simp only[Int.min_def,Int.max_def];repeat' split;all_goals omega
theorem mL(a b:Nat):(a &&& b) / 18446744073709551616=(a / 18446744073709551616) &&& (b / 18446744073709551616):=Nat.and_div_two_pow (n:=64)
theorem iT(a b:Nat):(a &&& b) % 18446744073709551616=(a % 18446744073709551616) &&& (b % 18446744073709551616):=Nat.and_mod_two_pow (n:=64)
theorem oY(a b:Nat)(ha:a<Wb)(hb:b<Wb):Value.agg #[.int .u64 (bits .and .u64 (hi a) (hi b)),.int .u64 (bits .and .u64 (lo a) (lo b))]=nv (a &&& b):=by
 unfold Wb at *;unfold nv hi lo;rw[u64_and_nat _ _ asB asB,u64_and_nat _ _ asB asB,mL,iT]
theorem Ie:(18446744073709551616:Nat)=2 ^ 64:=asE
theorem Q9:Wb=2 ^ 128:=asE
theorem Gk(k:Int):hw k≤128:=by unfold hw Vo;omega
theorem xC(m:Nat):((2:Int) ^ m)=((2 ^ m:Nat):Int):=asD
theorem bR(n m:Nat)(hn:n<Wb):n / 2 ^ (m+64) / 2 ^ 64=0∧n / 2 ^ (m+64) % 2 ^ 64=n / 2 ^ 64 / 2 ^ m:=by
 have h:n / 2 ^ (m+64)<2 ^ 64:=by
  rw[Nat.div_lt_iff_lt_mul (Nat.two_pow_pos _),←Nat.pow_add];refine Zu hn ?_;rw[Q9];exact Nat.pow_le_pow_right asE asB
 rw[Nat.div_eq_of_lt h,Nat.mod_eq_of_lt h,Nat.div_div_eq_div_mul,←Nat.pow_add,Nat.add_comm];exact⟨rfl,rfl⟩
theorem bS(n k:Nat)(hk:k<64):n / 2 ^ k % 2 ^ 64=(n % 2 ^ 64) / 2 ^ k ||| (n / 2 ^ 64*2 ^ (64-k)) % 2 ^ 64:=by
 apply Nat.eq_of_testBit_eq;intro i;simp only[Nat.testBit_mod_two_pow,Nat.testBit_or,Nat.testBit_div_two_pow,Nat.testBit_mul_two_pow];by_cases h1:i<64
 ·by_cases h2:64-k≤i
  ·have e:i-(64-k)+64=i+k:=by omega
   have h3:¬(i+k<64):=asB;simp[h1,h2,h3,e]
  ·have h3:i+k<64:=by omega
   simp[h1,h2,h3]
 ·have h3:¬(i+k<64):=by omega
  simp[h1,h3]
theorem HV(a m:Nat):((a:Nat):Int) / 2 ^ m=((a / 2 ^ m:Nat):Int):=by rw[xC];rfl
theorem abo(a m:Nat):IntKind.u64.wrap (((a:Nat):Int)*2 ^ m)=((a*2 ^ m % 2 ^ 64:Nat):Int):=by
 rw[IntKind.wrap_u64,xC,←Int.natCast_mul];rfl
theorem bT(n:Nat)(j:Int)(h:64≤j)(hn:n<Wb):Value.agg #[.int .u64 0,.int .u64 (hi n / 2 ^ (j-64).toNat)]=nv (n / 2 ^ j.toNat):=by
 obtain⟨m,rfl⟩:∃m:Nat,j=((m+64:Nat):Int):=⟨(j-64).toNat,asB⟩;obtain⟨h1,h2⟩:=bR n m hn;have e:(((m+64:Nat):Int)-64).toNat=m:=asB;unfold nv hi lo;rw[e,Int.toNat_natCast,Ie,h1,h2,HV];rfl
theorem bU(n:Nat)(j:Int)(h0:0≤j)(h:j<64):Value.agg #[.int .u64 (hi n / 2 ^ j.toNat),.int .u64 (bits .or .u64 (lo n / 2 ^ j.toNat) (IntKind.u64.wrap (hi n*2 ^ (64-j).toNat)))]=nv (n / 2 ^ j.toNat):=by
 obtain⟨m,rfl⟩:∃m:Nat,j=(m:Int):=⟨j.toNat,asB⟩;have e:((64:Int)-(m:Int)).toNat=64-m:=asB;have hl:n % 2 ^ 64<2 ^ 64:=Nat.mod_lt _ (Nat.two_pow_pos _);have XK:n % 2 ^ 64 / 2 ^ m<2 ^ 64:=Nat.lt_of_le_of_lt (Nat.div_le_self _ _) hl;unfold nv hi lo;rw[e,Int.toNat_natCast,Ie,HV,HV,abo,u64_or_nat _ _ (by rw[Ie];exact XK) (by rw[Ie];exact Nat.mod_lt _ (Nat.two_pow_pos _)),bS n m asB,
  Nat.div_div_eq_div_mul,Nat.div_div_eq_div_mul,Nat.mul_comm (2 ^ 64)]
theorem ya(n:Nat)(k:Int):n % 2 ^ hw k<Wb:=by
 rw[Q9];exact Zu (Nat.mod_lt _ (Nat.two_pow_pos _)) (Nat.pow_le_pow_right asE (Gk k))
theorem zR(k:Int):2 ^ hw k-1<Wb:=by
 have:2 ^ hw k≤2 ^ 128:=Nat.pow_le_pow_right asE (Gk k);rw[Q9];have:=Nat.two_pow_pos (hw k);omega
theorem fO(k:Int)(j:Int)(hj:j=128-Vo k 128):(Wb-1) / 2 ^ hw j=2 ^ hw k-1:=by
 have h1:hw j=128-hw k:=by subst hj;unfold hw Vo;omega
 have h2:=Gk k;rw[h1,Q9];have e:2 ^ 128=2 ^ hw k*2 ^ (128-hw k):=by rw[←Nat.pow_add];congr 1;omega
 have hp:=Nat.two_pow_pos (128-hw k);have hq:=Nat.two_pow_pos (hw k);rw[e];apply Nat.div_eq_of_lt_le
 ·rw[Nat.sub_mul,Nat.one_mul];omega
 ·rw[Nat.sub_add_cancel hq];omega
theorem oX(n:Nat)(k:Int):n &&& (2 ^ hw k-1)=n % 2 ^ hw k:=Nat.and_two_pow_sub_one_eq_mod _ _
def Tc(a b:Nat):Int:=if a=b then 0 else if a<b then -1 else 1
theorem CP(a b:Nat)(h1:hi a=hi b)(h2:lo a=lo b):a=b:=by unfold hi lo at *;omega
theorem mj(a b:Nat)(h:hi a<hi b):a<b:=by unfold hi at *;omega
theorem mo(a b:Nat)(h1:hi a=hi b)(h:lo a<lo b):a<b:=by unfold hi lo at *;omega
theorem mm(a b:Nat)(h0:¬hi a=hi b)(h:hi b≤hi a):¬a=b∧¬a<b:=by unfold hi at *;omega
theorem mr(a b:Nat)(h1:hi a=hi b)(h0:¬lo a=lo b)(h:lo b≤lo a):¬a=b∧¬a<b:=by unfold hi lo at *;omega
theorem BA(n m):WR Zx 230 #[.int .i64 n,.int .i64 m] (.int .i64 (Vo n m)):=by
 intro w;have H:Hid (Vo n m=if m<(if n<0 then 0 else n) then m else (if n<0 then 0 else n)):=kT n m;go_enter func230,ntmps230;go_wp2;all_goals
  go_ret;refine⟨?_,_,(Yk w).symm⟩;rw[H.out];simp_all;try omega
theorem oW(x y):WR Zx 228 #[.int .u64 x,.int .u64 y] (.int .u64 (bits .and .u64 x y)):=by
 intro w;go_enter func228,ntmps228;go_wp2;go_ret;exact⟨rfl,_,(Yk w).symm⟩
theorem kJ(a b:Nat):WR Zx 227 #[nv a,nv b,.func (.func 228) #[] #[]] (.agg #[.int .u64 (bits .and .u64 (hi a) (hi b)),.int .u64 (bits .and .u64 (lo a) (lo b))]):=by
 intro w;go_enter func227,ntmps227;go_wp2;open Z renaming ahf→Ag in exact vQ
theorem gv(a b:Nat)(ha:a<Wb)(hb:b<Wb):WR Zx 225 #[nv a,nv b] (nv (a &&& b)):=by
 intro w;have H:=Zf (oY a b ha hb);clear ha hb;go_enter func225,ntmps225;go_wp2_with fail;open Z renaming ahg→Ag in exact vQ
theorem gB(n:Nat)(k)(hn:n<Wb):WR Zx 229 #[nv n,.int .i64 k] (nv (n / 2 ^ hw k)):=by
 intro w;have h0:0≤Vo k 128:=by unfold Vo;omega
 have h1:Vo k 128≤128:=by unfold Vo;omega
 go_enter func229,ntmps229;go_wp2_with fail;open Z renaming akh→AP in exact uT
theorem fK:hi (Wb-1)=18446744073709551615:=by decide +kernel
theorem fL:lo (Wb-1)=18446744073709551615:=by decide +kernel
theorem fM:Value.agg #[.int .u64 18446744073709551615,.int .u64 18446744073709551615]=nv (Wb-1):=by
 unfold nv;rw[fK,fL]
theorem bV(k:Int):WR Zx 229 #[.agg #[.int .u64 18446744073709551615,.int .u64 18446744073709551615],.int .i64 (128-Vo k 128)] (nv (2 ^ hw k-1)):=by
 rw[fM,←fO k _ rfl];exact gB (Wb-1) (128-Vo k 128) asE
theorem gz(k):WR Zx 226 #[.int .i64 k] (nv (2 ^ hw k-1)):=by
 intro w;have h0:0≤Vo k 128:=by unfold Vo;omega
 have h1:Vo k 128≤128:=by unfold Vo;omega
 go_enter func226,ntmps226;go_wp2;obtain⟨W,hW,hB,hs,cr,co,fr,fo⟩:=QM w _ _ 40 40;rw[←hW];have cr0:=cr 0 (some (.int .u64 0)) rfl;have cr1:=cr 1 (some (.int .u64 0)) rfl;have co0:=co 0 (some (.int .u64 18446744073709551615)) rfl;have co1:=co 1 (some (.int .u64 18446744073709551615)) rfl;clear hW fo cr co;refine EH 5 asC asC ?_;simp only[Zs,List.take_zero,Zg,Zh];repeat (go_big_quiet_step (first|(go_at_call 230;exact (BA _ _).at _ _)|(go_at_call 229;exact (bV _).at _ _)))
 refine wpQuiet_nil ?_;rintro _ ⟨y,rfl⟩;go_wp2;exact bodyPost_ret (v:=.agg #[.int .u64 (hi (2 ^ hw k-1)),.int .u64 (lo (2 ^ hw k-1))]) (by simp[results,Tryz.results226,go_sem,cr0,cr1]) rfl ⟨rfl,OK hB asB _ _⟩
theorem gy(n:Nat)(k)(hn:n<Wb):WR Zx 216 #[nv n,.int .i64 k] (nv (n % 2 ^ hw k)):=by
 intro w;have S:=Zf ((gv n (2 ^ hw k-1) hn (zR k)).eqv (congrArg nv (oX n k)));clear hn;go_enter func216,ntmps216;go_wp2;open Z renaming aki→AP in exact uT
theorem gA(n:Nat)(hn:n<18446744073709551616):WR Zx 223 #[.int .u64 (n:Int)] (nv n):=by
 intro w;have e:Hid (Value.agg #[.int .u64 0,.int .u64 (n:Int)]=nv n):=by
  show _=_
  unfold nv hi lo;rw[Nat.div_eq_of_lt hn,Nat.mod_eq_of_lt hn];rfl
 clear hn;go_enter func223,ntmps223;go_wp2;refine bodyPost_ret (v:=.agg #[.int .u64 0,.int .u64 (n:Int)]) (by simp[results,Tryz.results223,go_sem]) rfl ⟨congrArg Zd e.out,?_⟩;exact Yy ((Zb _ _).alloc (Zt _) _)
theorem gw(a b:Nat):WR Zx 222 #[nv a,nv b] (.int .i64 (Tc a b)):=by
 intro w;have E0:=Zf (fun h=>show Tc a b=0 from if_pos (h:a=b));have E1:=Zf (fun (h:a<b)=>show Tc a b=-1 from (if_neg asB).trans (if_pos h));have E2:=Zf (fun (h:¬a=b∧¬a<b)=>show Tc a b=1 from (if_neg h.1).trans (if_neg h.2));have C0:=Zf (CP a b);have C1:=Zf (mj a b);have C2:=Zf (mo a b);have C3:=Zf (mm a b);have C4:=Zf (mr a b);go_enter func222,ntmps222;go_wp2;all_goals
  go_ret;refine⟨?_,Yy (((Zb _ _).alloc (Zt _) _).alloc asD _)⟩;refine (congrArg (fun z:Int=>Zd (Zz .i64 z)) (?_:Tc a b=_)).symm;first
   | exact E0.out (C0.out asF asF)
   | exact E1.out (C1.out asF)
   | exact E1.out (C2.out asF asF)
   | exact E2.out (C3.out asF asF)
   | exact E2.out (C4.out asF asF asF)
theorem gC(a b:Nat):(decide (hi a=hi b)&&decide (lo a=lo b))=decide (a=b):=by
 rw[Bool.eq_iff_iff];simp only[Zc,decide_eq_true_eq];exact⟨fun h=>CP a b h.1 h.2,fun h=>by subst h;exact⟨rfl,rfl⟩⟩
theorem C7(a b:Nat)(w:World):(binOp .eql 40 (nv a) (nv b)).run Zx w=.ok (.bool (decide (a=b))) w:=by
 rw[←gC];go_simp;split <;> (try split) <;> simp_all
theorem Fv(n:Nat)(k)(hn:n<Wb):WR Zx 194 #[nv n,.int .i64 k] (.bool (decide (n % 2 ^ hw k=n))):=by
 intro w;have S:=Zf (gy n k hn);have eqN:=C7;clear hn;go_enter func194,ntmps194;exact pp
def PF(w:Int):Bool:=decide (1≤w)&&decide (w≤128)
theorem Co(a w) :
  Kp Zx w 131 #[.int .i64 a] (.bool (decide (1≤a)&&decide (a≤128))):=by
 intro y0;obtain⟨V,hV⟩:=ZB (plus w y0);rw[hV]at ⊢;clear hV;obtain⟨R,hR⟩:=ZB (decide (1≤a)&&decide (a≤128));rw[hR];by_cases q1:1≤a
 case neg =>
  open Z renaming DX→WV in exact WX
 case pos =>
  by_cases q2:a≤128
  case neg =>
   open Z renaming DX→Vg in exact Vk
  case pos =>
   open Z renaming DX→RN in exact R8
theorem ir(a0 a1 a2 s0 s1 w)(h0:Kp Zx w 131 #[.int .i64 a0] (.bool s0))(h1:Kp Zx w 194 #[.agg #[.int .u64 a1,.int .u64 a2],.int .i64 a0] (.bool s1)) :
  Kp Zx w 136 #[.agg #[.int .i64 a0,.int .u64 a1,.int .u64 a2]] (.bool ((a0==0)||(s0&&s1))):=by
 open Z renaming ad3→Sk in exact Sp
theorem lM(a0 a1 s0 s1 w)(h0:Kp Zx w 65 #[.string a0] (.bool s0))(h1:Kp Zx w 131 #[.int .i64 a1] (.bool s1)) :
  Kp Zx w 56 #[.agg #[.string a0,.int .i64 a1]] (.bool (((s0)&&(s1)))):=by
 open Z renaming ad4→Sk in exact Sp
theorem iw(a0 a1 a2 is s0 w)(h0:Kp Zx w 136 #[.agg #[.int .i64 a0,.int .u64 a1,.int .u64 a2]] (.bool s0)) :
  Kp Zx w 210 #[.agg #[.int .i64 a0,.int .u64 a1,.int .u64 a2],.bool is] (.bool (if is then s0 else ((a0==0)&&((a1==0)&&(a2==0))))):=by
 open Z renaming aiT→SK in exact SX
theorem iV(s p s0 w)(h0:Kp Zx w 65 #[.string s] (.bool s0)) :
  Kp Zx w 211 #[.string s,.int .u8 p] (.bool (if s.toList==[] then p !=1 else ((p !=0)&&s0))):=by
 open Z renaming aiU→SK in exact SX
theorem bX(a b is w) :
  Kp Zx w 212 #[.int .i64 a,.int .i64 b,.bool is] (.bool (if is then (decide (0≤b)&&(decide (b≤a)&&decide (a<128))) else ((a==0)&&(b==0)))):=by
 intro y0;obtain⟨V,hV⟩:=ZB (plus w y0);rw[hV]at ⊢;clear hV;obtain⟨R,hR⟩:=ZB (if is then (decide (0≤b)&&(decide (b≤a)&&decide (a<128))) else ((a==0)&&(b==0)));rw[hR];by_cases q1:(is)=true
 case neg =>
  have q1:(is)=false:=asJ;by_cases q2:(a==0)=true
  case neg =>
   have q2:(a==0)=false:=asL;open Z renaming O8→Vg in exact Vk
  case pos =>
   by_cases q3:(b==0)=true
   case neg =>
    have q3:(b==0)=false:=asP;open Z renaming O8→SI in exact SV
   case pos =>
    open Z renaming O8→Jj in exact IW
 case pos =>
  by_cases q4:0≤b
  case neg =>
   have hF:=Zf (show (false)=R by first|exact hR|(rw[←hR];simp[q1,q4]));exact O8
  case pos =>
   by_cases q5:b≤a
   case neg =>
    have hF:=Zf (show (false)=R by first|exact hR|(rw[←hR];simp[q1,q4,q5]));exact O8
   case pos =>
    by_cases q6:a<128
    case neg =>
     have hF:=Zf (show (false)=R by first|exact hR|(rw[←hR];simp[q1,q4,q5,q6]));exact O8
    case pos =>
     have hF:=Zf (show (true)=R by first|exact hR|(rw[←hR];simp[q1,q4,q5,q6]));exact O8
theorem aZ(s s0 w)(h0:Kp Zx w 65 #[.string s] (.bool s0)) :
  Kp Zx w 190 #[.string s] (.bool ((s.toList==[97,99,99,101,112,116])||((s.toList==[114,101,106,101,99,116])||s0))):=by
 open Z renaming aiV→SK in exact SX
theorem UI{V W:World}{z:ZH}{a:Addr}{cs:List Value}(hz:W=plus V z)(h:Yg V a cs):Yg W a cs:=by rw[hz];exact h.plus z
theorem oU(a0 a1 a2 a3 a4 a5 a6 a7 a8p a8n a8c k w)(h0:Kp Zx w 223 #[.int .u64 127] (.agg #[.int .u64 0,.int .u64 127]))(h1:Kp Zx w 222 #[.agg #[.int .u64 a2,.int .u64 a3],.agg #[.int .u64 0,.int .u64 127]] (.int .i64 k)) :
  Kp Zx w 213 #[.agg #[.int .u8 a0,.int .i64 a1,.int .u64 a2,.int .u64 a3,.string a4,.string a5,.int .i64 a6,.int .i64 a7,.slice a8p a8n a8c]] (.bool ((a0==1)&&((a1==0)&&decide (k≤0)))):=by
 open Z renaming ad5→Sk in exact Sp
theorem lU(fl fs fh fn fa a0 a1 a2 a3 a4 a5 a6 a7 a8p a8n a8c s0 s1 s2 s3 w)(h0:Kp Zx w 210 #[.agg #[.int .i64 a1,.int .u64 a2,.int .u64 a3],.bool fl] (.bool s0))(h1:Kp Zx w 211 #[.string a4,.int .u8 fh] (.bool s1))(h2:Kp Zx w 211 #[.string a5,.int .u8 fn] (.bool s2))(h3:Kp Zx w 212 #[.int .i64 a6,.int .i64 a7,.bool fs] (.bool s3)) :
  Kp Zx w 187 #[.agg #[.bool fl,.bool fs,.int .u8 fh,.int .u8 fn,.int .i64 fa,.bool false],.agg #[.int .u8 a0,.int .i64 a1,.int .u64 a2,.int .u64 a3,.string a4,.string a5,.int .i64 a6,.int .i64 a7,.slice a8p a8n a8c]] (.bool (((s0)&&((s1)&&((s2)&&((s3)&&((a8n:Int)==fa))))))):=by
 open Z renaming ahY→Jb in exact IG
theorem lV(fl fs fh fn a0 a1 a2 a3 a4 a5 a6 a7 a8p)(a8n:Nat)(a8c s0 s1 s2 s3 w)(SF:¬a8n=2)(h0:Kp Zx w 210 #[.agg #[.int .i64 a1,.int .u64 a2,.int .u64 a3],.bool fl] (.bool s0))(h1:Kp Zx w 211 #[.string a4,.int .u8 fh] (.bool s1))(h2:Kp Zx w 211 #[.string a5,.int .u8 fn] (.bool s2))(h3:Kp Zx w 212 #[.int .i64 a6,.int .i64 a7,.bool fs] (.bool s3)) :
  Kp Zx w 187 #[.agg #[.bool fl,.bool fs,.int .u8 fh,.int .u8 fn,.int .i64 2,.bool true],.agg #[.int .u8 a0,.int .i64 a1,.int .u64 a2,.int .u64 a3,.string a4,.string a5,.int .i64 a6,.int .i64 a7,.slice a8p a8n a8c]] (.bool (false)):=by
 open Z renaming ahZ→Jb in exact IG
theorem lW(fl fs fh fn a0 a1 a2 a3 a4 a5 a6 a7)(pa:Addr)(a8c b0 b1 b2 b3 b4 b5 b6 b7 b8p b8n b8c s0 s1 s2 s3 s4)(w:World)(hx:Yg w (pa.add 9) [.int .u8 b0,.int .i64 b1,.int .u64 b2,.int .u64 b3,.string b4,.string b5,.int .i64 b6,.int .i64 b7,.slice b8p b8n b8c])(h0:Kp Zx w 210 #[.agg #[.int .i64 a1,.int .u64 a2,.int .u64 a3],.bool fl] (.bool s0))(h1:Kp Zx w 211 #[.string a4,.int .u8 fh] (.bool s1))(h2:Kp Zx w 211 #[.string a5,.int .u8 fn] (.bool s2))(h3:Kp Zx w 212 #[.int .i64 a6,.int .i64 a7,.bool fs] (.bool s3))(h4:Kp Zx w 213 #[.agg #[.int .u8 b0,.int .i64 b1,.int .u64 b2,.int .u64 b3,.string b4,.string b5,.int .i64 b6,.int .i64 b7,.slice b8p b8n b8c]] (.bool s4)) :
  Kp Zx w 187 #[.agg #[.bool fl,.bool fs,.int .u8 fh,.int .u8 fn,.int .i64 2,.bool true],.agg #[.int .u8 a0,.int .i64 a1,.int .u64 a2,.int .u64 a3,.string a4,.string a5,.int .i64 a6,.int .i64 a7,.slice (some pa) 2 a8c]] (.bool (((s0)&&((s1)&&((s2)&&((s3)&&(s4))))))):=by
 intro y0;have h0:=h0.up y0;have h1:=h1.up y0;have h2:=h2.up y0;have h3:=h3.up y0;have h4:=h4.up y0;have hx:=hx.plus y0;obtain⟨V,hV⟩:=ZB (plus w y0);rw[hV]at h0 h1 h2 h3 h4 hx ⊢;clear hV;obtain⟨R,hR⟩:=ZB (((s0)&&((s1)&&((s2)&&((s3)&&(s4))))));rw[hR];cases s0
 case false =>
  open Z renaming acZ→Xy in exact Xz
 case true =>
  cases s1
  case false =>
   open Z renaming ac0→Xy in exact Xz
  case true =>
   cases s2
   case false =>
    open Z renaming ac1→Xy in exact Xz
   case true =>
    cases s3
    case false =>
     open Z renaming ac2→Xy in exact Xz
    case true =>
     cases s4
     case false =>
      open Z renaming pW→Xy in exact Xz
     case true =>
      open Z renaming pW→RP in exact Qa
theorem m5(may:ByteArray→Bool)(g:FuncId)(first caps:Array Value)(K:ByteArray→Prop)(w:World)(A:Sl ByteArray)(lo hi)(hA:A.In w 1 V1 K)(hl:A.l.length≤1048576)(Xb:∀args w,(callFunc g args).run Zx w=.ok (.enter g args) w)(hf:∀x∈A.l,Kp Zx w g (first.push (.string x)++caps) (.bool (may x))) :
  Kp Zx w 64 #[A.v,.int .i64 lo,.int .i64 hi,.func (.func g) first caps] (.bool (Xe lo hi may A.l)):=by
 open Z renaming aoE→Uz in exact UH
theorem mS{α:Type}(cells:α→List Value)(hC:∀x,LK (cells x))(may:α→Bool)(g:FuncId)(first caps:Array Value)(K:α→Prop)(w:World)(A:Sl α)(lo hi)(hA:A.In w 2 cells K)(hl:A.l.length≤1048576)(Xb:∀args w,(callFunc g args).run Zx w=.ok (.enter g args) w)(hf:∀x∈A.l,Kp Zx w g (first.push (.agg (cells x).toArray)++caps) (.bool (may x))) :
  Kp Zx w 55 #[A.v,.int .i64 lo,.int .i64 hi,.func (.func g) first caps] (.bool (Xe lo hi may A.l)):=by
 open Z renaming aoF→Uz in exact UH
end Go.Proofs.YtknmeggfokpbjaaGreat
