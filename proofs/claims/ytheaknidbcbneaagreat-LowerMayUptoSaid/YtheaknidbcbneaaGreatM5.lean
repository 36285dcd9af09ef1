/-
  WHAT IS PROVED HERE: a part of the proof (made narrower and merged by program; the parts: PN).
-/
import Derived.WalkKit
import Derived.Lib.Hide
import Derived.Laws.BitsAllLaws
import Derived.WalkSpells
import Derived.WalkLawsBesides
import Derived.Shelf.Spec.BitsCarry
import Derived.Test.YtheaknidbcbneaaGreatM1
set_option maxRecDepth 100000
set_option maxHeartbeats 8000000
set_option linter.all false
namespace Go.Proofs.YtheaknidbcbneaaGreat
open Go.RowKit Go.Proofs.Tryz
open Below renaming refl→Zc
open Bool renaming and_eq_true→Zd
open Ending renaming returned→Zf
open Lib renaming hid→Zg
open Nat renaming le_refl→Zp
open Go.Proofs.Tryz renaming prog→Zr
open Value renaming int→Zt
open Go.RowKit
def YT:Nat:=340282366920938463463374607431768211456
def hi(n:Nat):Int:=((n / 18446744073709551616:Nat):Int)
def lo(n:Nat):Int:=((n % 18446744073709551616:Nat):Int)
abbrev nv(n:Nat):Value:=.agg #[.int .u64 (hi n),.int .u64 (lo n)]
def XA(n m:Int):Int:=min (max n 0) m
def hw(k:Int):Nat:=(XA k 128).toNat
theorem Lo(n m:Int):XA n m=if m<(if n<0 then 0 else n) then m else (if n<0 then 0 else n):=by
 unfold XA;simp only[Int.min_def,Int.max_def];repeat' split;all_goals omega
theorem ME(a b:Nat):(a &&& b) / 18446744073709551616=(a / 18446744073709551616) &&& (b / 18446744073709551616):=Nat.and_div_two_pow (n:=64)
theorem Ig(a b:Nat):(a &&& b) % 18446744073709551616=(a % 18446744073709551616) &&& (b % 18446744073709551616):=Nat.and_mod_two_pow (n:=64)
theorem NP(a b:Nat)(ha:a<YT)(hb:b<YT):Value.agg #[.int .u64 (bits .and .u64 (hi a) (hi b)),.int .u64 (bits .and .u64 (lo a) (lo b))]=nv (a &&& b):=by
 unfold YT at *;unfold nv hi lo;rw[u64_and_nat _ _ (by omega) (by omega),u64_and_nat _ _ (by omega) (by omega),ME,Ig]
theorem Rs:(18446744073709551616:Nat)=2 ^ 64:=by decide
theorem U5:YT=2 ^ 128:=by decide
theorem RT(k:Int):hw k≤128:=by unfold hw XA;omega
theorem Nb(m:Nat):((2:Int) ^ m)=((2 ^ m:Nat):Int):=by simp
theorem GT(n m:Nat)(hn:n<YT):n / 2 ^ (m+64) / 2 ^ 64=0∧n / 2 ^ (m+64) % 2 ^ 64=n / 2 ^ 64 / 2 ^ m:=by
 have h:n / 2 ^ (m+64)<2 ^ 64:=by
  rw[Nat.div_lt_iff_lt_mul (Nat.two_pow_pos _),←Nat.pow_add];refine Nat.lt_of_lt_of_le hn ?_;rw[U5];exact Nat.pow_le_pow_right (by decide) (by omega)
 rw[Nat.div_eq_of_lt h,Nat.mod_eq_of_lt h,Nat.div_div_eq_div_mul,←Nat.pow_add,Nat.add_comm];exact⟨rfl,rfl⟩
theorem GU(n k:Nat)(hk:k<64):n / 2 ^ k % 2 ^ 64=(n % 2 ^ 64) / 2 ^ k ||| (n / 2 ^ 64*2 ^ (64-k)) % 2 ^ 64:=by
 apply Nat.eq_of_testBit_eq;intro i;simp only[Nat.testBit_mod_two_pow,Nat.testBit_or,Nat.testBit_div_two_pow,Nat.testBit_mul_two_pow];by_cases h1:i<64
 ·by_cases h2:64-k≤i
  ·have e:i-(64-k)+64=i+k:=by omega
   have h3:¬(i+k<64):=by omega
   simp[h1,h2,h3,e]
  ·have h3:i+k<64:=by omega
   simp[h1,h2,h3]
 ·have h3:¬(i+k<64):=by omega
  simp[h1,h3]
theorem RL(a m:Nat):((a:Nat):Int) / 2 ^ m=((a / 2 ^ m:Nat):Int):=by rw[Nb];rfl
theorem F0(a m:Nat):IntKind.u64.wrap (((a:Nat):Int)*2 ^ m)=((a*2 ^ m % 2 ^ 64:Nat):Int):=by
 rw[IntKind.wrap_u64,Nb,←Int.natCast_mul];rfl
theorem GV(n:Nat)(j:Int)(h:64≤j)(hn:n<YT):Value.agg #[.int .u64 0,.int .u64 (hi n / 2 ^ (j-64).toNat)]=nv (n / 2 ^ j.toNat):=by
 obtain⟨m,rfl⟩:∃m:Nat,j=((m+64:Nat):Int):=⟨(j-64).toNat,by omega⟩;obtain⟨h1,h2⟩:=GT n m hn;have e:(((m+64:Nat):Int)-64).toNat=m:=by omega
 unfold nv hi lo;rw[e,Int.toNat_natCast,Rs,h1,h2,RL];rfl
theorem GW(n:Nat)(j:Int)(h0:0≤j)(h:j<64):Value.agg #[.int .u64 (hi n / 2 ^ j.toNat),.int .u64 (bits .or .u64 (lo n / 2 ^ j.toNat) (IntKind.u64.wrap (hi n*2 ^ (64-j).toNat)))]=nv (n / 2 ^ j.toNat):=by
 obtain⟨m,rfl⟩:∃m:Nat,j=(m:Int):=⟨j.toNat,by omega⟩;have e:((64:Int)-(m:Int)).toNat=64-m:=by omega
 have hl:n % 2 ^ 64<2 ^ 64:=Nat.mod_lt _ (Nat.two_pow_pos _);have XB:n % 2 ^ 64 / 2 ^ m<2 ^ 64:=Nat.lt_of_le_of_lt (Nat.div_le_self _ _) hl;unfold nv hi lo;rw[e,Int.toNat_natCast,Rs,RL,RL,F0,u64_or_nat _ _ (by rw[Rs];exact XB) (by rw[Rs];exact Nat.mod_lt _ (Nat.two_pow_pos _)),GU n m (by omega),
  Nat.div_div_eq_div_mul,Nat.div_div_eq_div_mul,Nat.mul_comm (2 ^ 64)]
theorem Ih(n:Nat)(k:Int):n % 2 ^ hw k<YT:=by
 rw[U5];exact Nat.lt_of_lt_of_le (Nat.mod_lt _ (Nat.two_pow_pos _)) (Nat.pow_le_pow_right (by decide) (RT k))
theorem J8(k:Int):2 ^ hw k-1<YT:=by
 have:2 ^ hw k≤2 ^ 128:=Nat.pow_le_pow_right (by decide) (RT k);rw[U5];have:=Nat.two_pow_pos (hw k);omega
theorem IR(k:Int)(j:Int)(hj:j=128-XA k 128):(YT-1) / 2 ^ hw j=2 ^ hw k-1:=by
 have h1:hw j=128-hw k:=by subst hj;unfold hw XA;omega
 have h2:=RT k;rw[h1,U5];have e:2 ^ 128=2 ^ hw k*2 ^ (128-hw k):=by rw[←Nat.pow_add];congr 1;omega
 have hp:=Nat.two_pow_pos (128-hw k);have hq:=Nat.two_pow_pos (hw k);rw[e];apply Nat.div_eq_of_lt_le
 ·rw[Nat.sub_mul,Nat.one_mul];omega
 ·rw[Nat.sub_add_cancel hq];omega
theorem NM(n:Nat)(k:Int):n &&& (2 ^ hw k-1)=n % 2 ^ hw k:=Nat.and_two_pow_sub_one_eq_mod _ _
def TS(a b:Nat):Int:=if a=b then 0 else if a<b then -1 else 1
theorem Q8(a b:Nat)(h1:hi a=hi b)(h2:lo a=lo b):a=b:=by unfold hi lo at *;omega
theorem Mv(a b:Nat)(h:hi a<hi b):a<b:=by unfold hi at *;omega
theorem Mx(a b:Nat)(h1:hi a=hi b)(h:lo a<lo b):a<b:=by unfold hi lo at *;omega
theorem Mw(a b:Nat)(h0:¬hi a=hi b)(h:hi b≤hi a):¬a=b∧¬a<b:=by unfold hi at *;omega
theorem My(a b:Nat)(h1:hi a=hi b)(h0:¬lo a=lo b)(h:lo b≤lo a):¬a=b∧¬a<b:=by unfold hi lo at *;omega
theorem Py(n m):Xp Zr 132 #[.int .i64 n,.int .i64 m] (.int .i64 (XA n m)):=by
 intro w;have H:Hid (XA n m=if m<(if n<0 then 0 else n) then m else (if n<0 then 0 else n)):=Lo n m;go_enter func132,ntmps132;go_wp2;all_goals
  go_ret;refine⟨?_,_,(ZK w).symm⟩;rw[H.out];simp_all;try omega
theorem NK(x y):Xp Zr 130 #[.int .u64 x,.int .u64 y] (.int .u64 (bits .and .u64 x y)):=by
 intro w;go_enter func130,ntmps130;go_wp2;go_ret;exact⟨rfl,_,(ZK w).symm⟩
theorem Lm(a b:Nat):Xp Zr 129 #[nv a,nv b,.func (.func 130) #[] #[]] (.agg #[.int .u64 (bits .and .u64 (hi a) (hi b)),.int .u64 (bits .and .u64 (lo a) (lo b))]):=by
 intro w;go_enter func129,ntmps129;go_wp2;obtain⟨W,hW,hB,hs,ca,cb,cr,fa,fb,fr⟩:=WL w _ _ _ 60 60 60;rw[←hW];have ca0:=ca 0 (some (.int .u64 (hi a))) rfl;have ca1:=ca 1 (some (.int .u64 (lo a))) rfl;have cb0:=cb 0 (some (.int .u64 (hi b))) rfl;have cb1:=cb 1 (some (.int .u64 (lo b))) rfl;have cr0:=cr 0 (some (.int .u64 0)) rfl;have cr1:=cr 1 (some (.int .u64 0)) rfl;clear hW fa fb ca cb cr;refine QA 13 (by kernel_rfl) (by kernel_rfl) ?_;simp only[List.take_succ_cons,List.take_zero,List.drop_succ_cons,List.drop_zero];repeat (go_big_quiet_step (exact (NK _ _).at _ _))
 refine wpQuiet_nil ?_;rintro _ ⟨y,rfl⟩;go_wp2;exact bodyPost_ret (v:=.agg #[.int .u64 (bits .and .u64 (hi a) (hi b)),.int .u64 (bits .and .u64 (lo a) (lo b))]) (by simp[results,Tryz.results129,go_sem,cr0,cr1]) rfl ⟨rfl,Us hB (by omega) _ _⟩
theorem P3(a b:Nat)(ha:a<YT)(hb:b<YT):Xp Zr 102 #[nv a,nv b] (nv (a &&& b)):=by
 intro w;have H:=Zg (NP a b ha hb);clear ha hb;go_enter func102,ntmps102;go_wp2_with fail;obtain⟨W,hW,hB,hs,ca,cb,cr,fa,fb,fr⟩:=WL w _ _ _ 60 60 60;rw[←hW];have ca0:=ca 0 (some (.int .u64 (hi a))) rfl;have ca1:=ca 1 (some (.int .u64 (lo a))) rfl;have cb0:=cb 0 (some (.int .u64 (hi b))) rfl;have cb1:=cb 1 (some (.int .u64 (lo b))) rfl;have cr0:=cr 0 (some (.int .u64 0)) rfl;have cr1:=cr 1 (some (.int .u64 0)) rfl;clear hW fa fb ca cb cr;refine ((Lm a b).eqv H.out W).mono ?_;rintro e w' ⟨rfl,y,rfl⟩;go_wp2;exact bodyPost_ret (v:=.agg #[.int .u64 (hi (a &&& b)),.int .u64 (lo (a &&& b))]) (by simp[results,Tryz.results102,go_sem,cr0,cr1]) rfl ⟨rfl,Us hB (by omega) _ _⟩
theorem IE(n:Nat)(k)(hn:n<YT):Xp Zr 131 #[nv n,.int .i64 k] (nv (n / 2 ^ hw k)):=by
 intro w;have h0:0≤XA k 128:=by unfold XA;omega
 have h1:XA k 128≤128:=by unfold XA;omega
 go_enter func131,ntmps131;go_wp2_with fail;obtain⟨W,hW,hB,hs,ca,cr,fa,fr⟩:=Vy w _ _ 60 60;rw[←hW];have ca0:=ca 0 (some (.int .u64 (hi n))) rfl;have ca1:=ca 1 (some (.int .u64 (lo n))) rfl;have cr0:=cr 0 (some (.int .u64 0)) rfl;have cr1:=cr 1 (some (.int .u64 0)) rfl;clear hW fa ca cr;refine (Py _ _ W).mono ?_;rintro e w' ⟨rfl,y,rfl⟩;go_wp2
 ·have hk:64≤XA k 128:=by assumption
  exact bodyPost_ret (v:=.agg #[.int .u64 0,.int .u64 (hi n / 2 ^ (XA k 128-64).toNat)]) (by simp[results,Tryz.results131,go_sem,cr0,cr1]) rfl ⟨congrArg Zf (GV n _ hk hn),Us hB (by omega) _ _⟩
 ·have hk:XA k 128<64:=by assumption
  refine WU 15 (by kernel_rfl) (by kernel_rfl) ?_;simp only[List.take_succ_cons,List.take_zero,List.drop_succ_cons,List.drop_zero];repeat (go_big_quiet_step (fail))
  refine wpQuiet_nil ?_;rintro _ ⟨y,rfl⟩;go_wp2;exact bodyPost_ret (v:=.agg #[.int .u64 (hi n / 2 ^ (XA k 128).toNat),.int .u64 (bits .or .u64 (lo n / 2 ^ (XA k 128).toNat) (IntKind.u64.wrap (hi n*2 ^ (64-XA k 128).toNat)))]) (by simp[results,Tryz.results131,go_sem,cr0,cr1]) rfl ⟨congrArg Zf (GW n _ h0 hk),Us hB (by omega) _ _⟩
theorem IM:hi (YT-1)=18446744073709551615:=by decide +kernel
theorem IP:lo (YT-1)=18446744073709551615:=by decide +kernel
theorem IQ:Value.agg #[.int .u64 18446744073709551615,.int .u64 18446744073709551615]=nv (YT-1):=by
 unfold nv;rw[IM,IP]
theorem GX(k:Int):Xp Zr 131 #[.agg #[.int .u64 18446744073709551615,.int .u64 18446744073709551615],.int .i64 (128-XA k 128)] (nv (2 ^ hw k-1)):=by
 rw[IQ,←IR k _ rfl];exact IE (YT-1) (128-XA k 128) (by decide)
theorem IC(k):Xp Zr 103 #[.int .i64 k] (nv (2 ^ hw k-1)):=by
 intro w;have h0:0≤XA k 128:=by unfold XA;omega
 have h1:XA k 128≤128:=by unfold XA;omega
 go_enter func103,ntmps103;go_wp2;obtain⟨W,hW,hB,hs,cr,co,fr,fo⟩:=Vy w _ _ 60 60;rw[←hW];have cr0:=cr 0 (some (.int .u64 0)) rfl;have cr1:=cr 1 (some (.int .u64 0)) rfl;have co0:=co 0 (some (.int .u64 18446744073709551615)) rfl;have co1:=co 1 (some (.int .u64 18446744073709551615)) rfl;clear hW fo cr co;refine QA 5 (by kernel_rfl) (by kernel_rfl) ?_;simp only[List.take_succ_cons,List.take_zero,List.drop_succ_cons,List.drop_zero];repeat (go_big_quiet_step (first|(go_at_call 132;exact (Py _ _).at _ _)|(go_at_call 131;exact (GX _).at _ _)))
 refine wpQuiet_nil ?_;rintro _ ⟨y,rfl⟩;go_wp2;exact bodyPost_ret (v:=.agg #[.int .u64 (hi (2 ^ hw k-1)),.int .u64 (lo (2 ^ hw k-1))]) (by simp[results,Tryz.results103,go_sem,cr0,cr1]) rfl ⟨rfl,Us hB (by omega) _ _⟩
theorem IA(n:Nat)(k)(hn:n<YT):Xp Zr 59 #[nv n,.int .i64 k] (nv (n % 2 ^ hw k)):=by
 intro w;have S:=Zg ((P3 n (2 ^ hw k-1) hn (J8 k)).eqv (congrArg nv (NM n k)));clear hn;go_enter func59,ntmps59;go_wp2;obtain⟨W,hW,hB,hs,ca,cr,fa,fr⟩:=Vy w _ _ 60 60;rw[←hW];have ca0:=ca 0 (some (.int .u64 (hi n))) rfl;have ca1:=ca 1 (some (.int .u64 (lo n))) rfl;have cr0:=cr 0 (some (.int .u64 0)) rfl;have cr1:=cr 1 (some (.int .u64 0)) rfl;clear hW fa ca cr;refine QA 4 (by kernel_rfl) (by kernel_rfl) ?_;simp only[List.take_succ_cons,List.take_zero,List.drop_succ_cons,List.drop_zero];repeat (go_big_quiet_step (first|(go_at_call 103;exact (IC _).at _ _)|(go_at_call 102;exact S.out.at _ _)))
 refine wpQuiet_nil ?_;rintro _ ⟨y,rfl⟩;go_wp2;exact bodyPost_ret (v:=.agg #[.int .u64 (hi (n % 2 ^ hw k)),.int .u64 (lo (n % 2 ^ hw k))]) (by simp[results,Tryz.results59,go_sem,cr0,cr1]) rfl ⟨rfl,Us hB (by omega) _ _⟩
theorem ID(n:Nat)(hn:n<18446744073709551616):Xp Zr 169 #[.int .u64 (n:Int)] (nv n):=by
 intro w;have e:Hid (Value.agg #[.int .u64 0,.int .u64 (n:Int)]=nv n):=by
  show _=_
  unfold nv hi lo;rw[Nat.div_eq_of_lt hn,Nat.mod_eq_of_lt hn];rfl
 clear hn;go_enter func169,ntmps169;go_wp2;refine bodyPost_ret (v:=.agg #[.int .u64 0,.int .u64 (n:Int)]) (by simp[results,Tryz.results169,go_sem]) rfl ⟨congrArg Zf e.out,?_⟩;exact ZS ((Zc _ _).alloc (Zp _) _)
theorem Iz(a b:Nat):Xp Zr 168 #[nv a,nv b] (.int .i64 (TS a b)):=by
 intro w;have E0:=Zg (fun h=>show TS a b=0 from if_pos (h:a=b));have E1:=Zg (fun (h:a<b)=>show TS a b=-1 from (if_neg (by omega)).trans (if_pos h));have E2:=Zg (fun (h:¬a=b∧¬a<b)=>show TS a b=1 from (if_neg h.1).trans (if_neg h.2));have C0:=Zg (Q8 a b);have C1:=Zg (Mv a b);have C2:=Zg (Mx a b);have C3:=Zg (Mw a b);have C4:=Zg (My a b);go_enter func168,ntmps168;go_wp2;all_goals
  go_ret;refine⟨?_,ZS (((Zc _ _).alloc (Zp _) _).alloc (by simp) _)⟩;refine (congrArg (fun z:Int=>Zf (Zt .i64 z)) (?_:TS a b=_)).symm;first
   | exact E0.out (C0.out (by assumption) (by assumption))
   | exact E1.out (C1.out (by assumption))
   | exact E1.out (C2.out (by assumption) (by assumption))
   | exact E2.out (C3.out (by assumption) (by assumption))
   | exact E2.out (C4.out (by assumption) (by assumption) (by assumption))
theorem IG(a b:Nat):(decide (hi a=hi b)&&decide (lo a=lo b))=decide (a=b):=by
 rw[Bool.eq_iff_iff];simp only[Zd,decide_eq_true_eq];exact⟨fun h=>Q8 a b h.1 h.2,fun h=>by subst h;exact⟨rfl,rfl⟩⟩
theorem Ph(a b:Nat)(w:World):(binOp .eql 60 (nv a) (nv b)).run Zr w=.ok (.bool (decide (a=b))) w:=by
 rw[←IG];go_simp;split <;> (try split) <;> simp_all
theorem SK(n:Nat)(k)(hn:n<YT):Xp Zr 32 #[nv n,.int .i64 k] (.bool (decide (n % 2 ^ hw k=n))):=by
 intro w;have S:=Zg (IA n k hn);have eqN:=Ph;clear hn;go_enter func32,ntmps32;go_wp2;obtain⟨W,hW,hB,hs,ca,fa⟩:=Vx w _ 60;rw[←hW];have ca0:=ca 0 (some (.int .u64 (hi n))) rfl;have ca1:=ca 1 (some (.int .u64 (lo n))) rfl;clear hW fa ca;refine VS (by kernel_rfl) (by kernel_rfl) ?_;repeat (go_big_quiet_step (exact S.out.at _ _))
 refine wpQuiet_nil ?_;rintro _ ⟨y,rfl⟩;go_wp2;go_ret;exact⟨rfl,ZS (hB.trans ((Z9 W y).mono hB.size))⟩
end Go.Proofs.YtheaknidbcbneaaGreat
