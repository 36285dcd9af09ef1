/-
  WHAT IS PROVED HERE: a part of the proof (made narrower and merged by program; the parts: PN Hc).
-/
import Derived.Laws.BitsAllLaws
import Derived.Shelf.Spec.BitsCarry
import Derived.Shelf.Abstract
import Derived.Test.YtobhijbncchpiaaGreatM1
import Derived.Test.YtobhijbncchpiaaGreatM3
import Derived.Test.YtobhijbncchpiaaGreatM7
import Derived.Test.YtobhijbncchpiaaGreatM4
namespace Go.Proofs.YtobhijbncchpiaaGreat
open Go.RowKit
def B128:Nat:=340282366920938463463374607431768211456
def hi (n:Nat):Int:=((n / 18446744073709551616:Nat):Int)
def lo (n:Nat):Int:=((n % 18446744073709551616:Nat):Int)
abbrev nv (n:Nat):Value:=.agg #[.int .u64 (hi n),.int .u64 (lo n)]
def heldZ (n m:Int):Int:=min (max n 0) m
def hw (k:Int):Nat:=(heldZ k 128).toNat
theorem heldZ_eq (n m:Int):heldZ n m=if m < (if n < 0 then 0 else n) then m else (if n < 0 then 0 else n):=by
 unfold heldZ;simp only [Int.min_def,Int.max_def];repeat' split
 all_goals omega
theorem div_and (a b:Nat):(a &&& b) / 18446744073709551616=(a / 18446744073709551616) &&& (b / 18446744073709551616):=Nat.and_div_two_pow (n:=64)
theorem mod_and (a b:Nat):(a &&& b) % 18446744073709551616=(a % 18446744073709551616) &&& (b % 18446744073709551616):=Nat.and_mod_two_pow (n:=64)
theorem and_nv (a b:Nat) (ha:a < B128) (hb:b < B128):Value.agg #[.int .u64 (bits .and .u64 (hi a) (hi b)),.int .u64 (bits .and .u64 (lo a) (lo b))]=nv (a &&& b):=by
 unfold B128 at *
 unfold nv hi lo
 rw [u64_and_nat _ _ (by omega) (by omega),u64_and_nat _ _ (by omega) (by omega),div_and,mod_and]
theorem two64:(18446744073709551616:Nat)=2 ^ 64:=by decide
theorem b128:B128=2 ^ 128:=by decide
theorem hw_le (k:Int):hw k≤128:=by unfold hw heldZ;omega
theorem toNat_pow (m:Nat):((2:Int) ^ m)=((2 ^ m:Nat):Int):=by simp
theorem shr_hi_eq (n m:Nat) (hn:n < B128):n / 2 ^ (m+64) / 2 ^ 64=0∧n / 2 ^ (m+64) % 2 ^ 64=n / 2 ^ 64 / 2 ^ m:=by
 have h:n / 2 ^ (m+64) < 2 ^ 64:=by
  rw [Nat.div_lt_iff_lt_mul (Nat.two_pow_pos _),← Nat.pow_add]
  refine Nat.lt_of_lt_of_le hn ?_
  rw [b128]
  exact Nat.pow_le_pow_right (by decide) (by omega)
 rw [Nat.div_eq_of_lt h,Nat.mod_eq_of_lt h,Nat.div_div_eq_div_mul,← Nat.pow_add,Nat.add_comm]
 exact⟨rfl,rfl⟩
theorem shr_lo_eq (n k:Nat) (hk:k < 64):n / 2 ^ k % 2 ^ 64=(n % 2 ^ 64) / 2 ^ k ||| (n / 2 ^ 64*2 ^ (64 - k)) % 2 ^ 64:=by
 apply Nat.eq_of_testBit_eq
 intro i
 simp only [Nat.testBit_mod_two_pow,Nat.testBit_or,Nat.testBit_div_two_pow,Nat.testBit_mul_two_pow]
 by_cases h1:i < 64
 ·by_cases h2:64 - k≤i
  ·have e:i - (64 - k)+64=i+k:=by omega
   have h3:¬ (i+k < 64):=by omega
   simp [h1,h2,h3,e]
  ·have h3:i+k < 64:=by omega
   simp [h1,h2,h3]
 ·have h3:¬ (i+k < 64):=by omega
  simp [h1,h3]
theorem div_cast (a m:Nat):((a:Nat):Int) / 2 ^ m=((a / 2 ^ m:Nat):Int):=by rw [toNat_pow];rfl
theorem wrap_mul (a m:Nat):IntKind.u64.wrap (((a:Nat):Int)*2 ^ m)=((a*2 ^ m % 2 ^ 64:Nat):Int):=by
 rw [IntKind.wrap_u64,toNat_pow,← Int.natCast_mul];rfl
theorem shr_nv1 (n:Nat) (j:Int) (h:64≤j) (hn:n < B128):Value.agg #[.int .u64 0,.int .u64 (hi n / 2 ^ (j - 64).toNat)]=nv (n / 2 ^ j.toNat):=by
 obtain⟨m,rfl⟩:∃ m:Nat,j=((m+64:Nat):Int):=⟨(j - 64).toNat,by omega⟩
 obtain⟨h1,h2⟩:=shr_hi_eq n m hn
 have e:(((m+64:Nat):Int) - 64).toNat=m:=by omega
 unfold nv hi lo
 rw [e,Int.toNat_natCast,two64,h1,h2,div_cast]
 rfl
theorem shr_nv2 (n:Nat) (j:Int) (h0:0≤j) (h:j < 64):Value.agg #[.int .u64 (hi n / 2 ^ j.toNat),.int .u64 (bits .or .u64 (lo n / 2 ^ j.toNat) (IntKind.u64.wrap (hi n*2 ^ (64 - j).toNat)))]=nv (n / 2 ^ j.toNat):=by
 obtain⟨m,rfl⟩:∃ m:Nat,j=(m:Int):=⟨j.toNat,by omega⟩
 have e:((64:Int) - (m:Int)).toNat=64 - m:=by omega
 have hl:n % 2 ^ 64 < 2 ^ 64:=Nat.mod_lt _ (Nat.two_pow_pos _)
 have hl2:n % 2 ^ 64 / 2 ^ m < 2 ^ 64:=Nat.lt_of_le_of_lt (Nat.div_le_self _ _) hl
 unfold nv hi lo
 rw [e,Int.toNat_natCast,two64,div_cast,div_cast,wrap_mul,u64_or_nat _ _ (by rw [two64];exact hl2) (by rw [two64];exact Nat.mod_lt _ (Nat.two_pow_pos _)),shr_lo_eq n m (by omega),
  Nat.div_div_eq_div_mul,Nat.div_div_eq_div_mul,Nat.mul_comm (2 ^ 64)]
theorem mask_lt (k:Int):2 ^ hw k - 1 < B128:=by
 have:2 ^ hw k≤2 ^ 128:=Nat.pow_le_pow_right (by decide) (hw_le k)
 rw [b128];have:=Nat.two_pow_pos (hw k);omega
theorem ones_shr (k:Int) (j:Int) (hj:j=128 - heldZ k 128):(B128 - 1) / 2 ^ hw j=2 ^ hw k - 1:=by
 have h1:hw j=128 - hw k:=by subst hj;unfold hw heldZ;omega
 have h2:=hw_le k
 rw [h1,b128]
 have e:2 ^ 128=2 ^ hw k*2 ^ (128 - hw k):=by rw [← Nat.pow_add];congr 1;omega
 have hp:=Nat.two_pow_pos (128 - hw k)
 have hq:=Nat.two_pow_pos (hw k)
 rw [e]
 apply Nat.div_eq_of_lt_le
 ·rw [Nat.sub_mul,Nat.one_mul];omega
 ·rw [Nat.sub_add_cancel hq];omega
theorem and_mask (n:Nat) (k:Int):n &&& (2 ^ hw k - 1)=n % 2 ^ hw k:=Nat.and_two_pow_sub_one_eq_mod _ _
def cmpN (a b:Nat):Int:=if a=b then 0 else if a < b then -1 else 1
theorem cmp_eq (a b:Nat) (h1:hi a=hi b) (h2:lo a=lo b):a=b:=by unfold hi lo at *;omega
theorem cmp_hi (a b:Nat) (h:hi a < hi b):a < b:=by unfold hi at *;omega
theorem cmp_lo (a b:Nat) (h1:hi a=hi b) (h:lo a < lo b):a < b:=by unfold hi lo at *;omega
theorem cmp_hi' (a b:Nat) (h0:¬ hi a=hi b) (h:hi b≤hi a):¬ a=b∧¬ a < b:=by unfold hi at *;omega
theorem cmp_lo' (a b:Nat) (h1:hi a=hi b) (h0:¬ lo a=lo b) (h:lo b≤lo a):¬ a=b∧¬ a < b:=by unfold hi lo at *;omega
set_option maxHeartbeats 400000 in
theorem held_any (n m:Int):Pure Tryz.prog 230 #[.int .i64 n,.int .i64 m] (.int .i64 (heldZ n m)):=by
 intro w
 have H:Hid (heldZ n m=if m < (if n < 0 then 0 else n) then m else (if n < 0 then 0 else n)):=heldZ_eq n m
 go_enter Tryz.func230,Tryz.ntmps230
 go_wp2
 all_goals
  go_ret
  refine⟨?_,_,(plus_self w).symm⟩
  rw [H.out]
  simp_all
  try omega
set_option maxHeartbeats 400000 in
theorem and1 (x y:Int):Pure Tryz.prog 228 #[.int .u64 x,.int .u64 y] (.int .u64 (bits .and .u64 x y)):=by
 intro w
 go_enter Tryz.func228,Tryz.ntmps228
 go_wp2
 go_ret
 exact⟨rfl,_,(plus_self w).symm⟩
set_option maxHeartbeats 400000 in
theorem halves_and (a b:Nat):Pure Tryz.prog 227 #[nv a,nv b,.func (.func 228) #[] #[]] (.agg #[.int .u64 (bits .and .u64 (hi a) (hi b)),.int .u64 (bits .and .u64 (lo a) (lo b))]):=by
 intro w
 go_enter Tryz.func227,Tryz.ntmps227
 go_wp2
 obtain⟨W,hW,hB,hs,ca,cb,cr,fa,fb,fr⟩:=box3 w _ _ _ 40 40 40
 rw [← hW]
 have ca0:=ca 0 (some (.int .u64 (hi a))) rfl
 have ca1:=ca 1 (some (.int .u64 (lo a))) rfl
 have cb0:=cb 0 (some (.int .u64 (hi b))) rfl
 have cb1:=cb 1 (some (.int .u64 (lo b))) rfl
 have cr0:=cr 0 (some (.int .u64 0)) rfl
 have cr1:=cr 1 (some (.int .u64 0)) rfl
 clear hW fa fb ca cb cr
 refine wp_region_own_tail0 13 (by kernel_rfl) (by kernel_rfl) ?_
 simp only [List.take_succ_cons,List.take_zero,List.drop_succ_cons,List.drop_zero]
 repeat (go_big_quiet_step (exact (and1 _ _).at _ _))
 refine wpQuiet_nil ?_
 rintro _ ⟨y,rfl⟩
 go_wp2
 exact bodyPost_ret (v:=.agg #[.int .u64 (bits .and .u64 (hi a) (hi b)),.int .u64 (bits .and .u64 (lo a) (lo b))]) (by simp [results,Tryz.results227,go_sem,cr0,cr1]) rfl ⟨rfl,own_end hB (by omega) _ _⟩
set_option maxHeartbeats 400000 in
theorem num_and (a b:Nat) (ha:a < B128) (hb:b < B128):Pure Tryz.prog 225 #[nv a,nv b] (nv (a &&& b)):=by
 intro w
 have H:=Lib.hid (and_nv a b ha hb)
 clear ha hb
 go_enter Tryz.func225,Tryz.ntmps225
 go_wp2_with fail
 obtain⟨W,hW,hB,hs,ca,cb,cr,fa,fb,fr⟩:=box3 w _ _ _ 40 40 40
 rw [← hW]
 have ca0:=ca 0 (some (.int .u64 (hi a))) rfl
 have ca1:=ca 1 (some (.int .u64 (lo a))) rfl
 have cb0:=cb 0 (some (.int .u64 (hi b))) rfl
 have cb1:=cb 1 (some (.int .u64 (lo b))) rfl
 have cr0:=cr 0 (some (.int .u64 0)) rfl
 have cr1:=cr 1 (some (.int .u64 0)) rfl
 clear hW fa fb ca cb cr
 refine ((halves_and a b).eqv H.out W).mono ?_
 rintro e w' ⟨rfl,y,rfl⟩
 go_wp2
 exact bodyPost_ret (v:=.agg #[.int .u64 (hi (a &&& b)),.int .u64 (lo (a &&& b))]) (by simp [results,Tryz.results225,go_sem,cr0,cr1]) rfl ⟨rfl,own_end hB (by omega) _ _⟩
set_option maxHeartbeats 400000 in
theorem num_shr (n:Nat) (k:Int) (hn:n < B128):Pure Tryz.prog 229 #[nv n,.int .i64 k] (nv (n / 2 ^ hw k)):=by
 intro w
 have h0:0≤heldZ k 128:=by unfold heldZ;omega
 have h1:heldZ k 128≤128:=by unfold heldZ;omega
 go_enter Tryz.func229,Tryz.ntmps229
 go_wp2_with fail
 obtain⟨W,hW,hB,hs,ca,cr,fa,fr⟩:=box2 w _ _ 40 40
 rw [← hW]
 have ca0:=ca 0 (some (.int .u64 (hi n))) rfl
 have ca1:=ca 1 (some (.int .u64 (lo n))) rfl
 have cr0:=cr 0 (some (.int .u64 0)) rfl
 have cr1:=cr 1 (some (.int .u64 0)) rfl
 clear hW fa ca cr
 refine (held_any _ _ W).mono ?_
 rintro e w' ⟨rfl,y,rfl⟩
 go_wp2
 ·have hk:64≤heldZ k 128:=by assumption
  exact bodyPost_ret (v:=.agg #[.int .u64 0,.int .u64 (hi n / 2 ^ (heldZ k 128 - 64).toNat)]) (by simp [results,Tryz.results229,go_sem,cr0,cr1]) rfl ⟨congrArg Ending.returned (shr_nv1 n _ hk hn),own_end hB (by omega) _ _⟩
 ·have hk:heldZ k 128 < 64:=by assumption
  refine wp_region_own_tail 15 (by kernel_rfl) (by kernel_rfl) ?_
  simp only [List.take_succ_cons,List.take_zero,List.drop_succ_cons,List.drop_zero]
  repeat (go_big_quiet_step (fail))
  refine wpQuiet_nil ?_
  rintro _ ⟨y,rfl⟩
  go_wp2
  exact bodyPost_ret (v:=.agg #[.int .u64 (hi n / 2 ^ (heldZ k 128).toNat),.int .u64 (bits .or .u64 (lo n / 2 ^ (heldZ k 128).toNat) (IntKind.u64.wrap (hi n*2 ^ (64 - heldZ k 128).toNat)))]) (by simp [results,Tryz.results229,go_sem,cr0,cr1]) rfl ⟨congrArg Ending.returned (shr_nv2 n _ h0 hk),own_end hB (by omega) _ _⟩
theorem ones_hi:hi (B128 - 1)=18446744073709551615:=by decide +kernel
theorem ones_lo:lo (B128 - 1)=18446744073709551615:=by decide +kernel
theorem ones_nv:Value.agg #[.int .u64 18446744073709551615,.int .u64 18446744073709551615]=nv (B128 - 1):=by
 unfold nv;rw [ones_hi,ones_lo]
theorem shr_ones (k:Int):Pure Tryz.prog 229 #[.agg #[.int .u64 18446744073709551615,.int .u64 18446744073709551615],.int .i64 (128 - heldZ k 128)] (nv (2 ^ hw k - 1)):=by
 rw [ones_nv,← ones_shr k _ rfl]
 exact num_shr (B128 - 1) (128 - heldZ k 128) (by decide)
set_option maxHeartbeats 400000 in
theorem num_mask (k:Int):Pure Tryz.prog 226 #[.int .i64 k] (nv (2 ^ hw k - 1)):=by
 intro w
 have h0:0≤heldZ k 128:=by unfold heldZ;omega
 have h1:heldZ k 128≤128:=by unfold heldZ;omega
 go_enter Tryz.func226,Tryz.ntmps226
 go_wp2
 obtain⟨W,hW,hB,hs,cr,co,fr,fo⟩:=box2 w _ _ 40 40
 rw [← hW]
 have cr0:=cr 0 (some (.int .u64 0)) rfl
 have cr1:=cr 1 (some (.int .u64 0)) rfl
 have co0:=co 0 (some (.int .u64 18446744073709551615)) rfl
 have co1:=co 1 (some (.int .u64 18446744073709551615)) rfl
 clear hW fo cr co
 refine wp_region_own_tail0 5 (by kernel_rfl) (by kernel_rfl) ?_
 simp only [List.take_succ_cons,List.take_zero,List.drop_succ_cons,List.drop_zero]
 repeat (go_big_quiet_step (first|(go_at_call 230;exact (held_any _ _).at _ _)|(go_at_call 229;exact (shr_ones _).at _ _)))
 refine wpQuiet_nil ?_
 rintro _ ⟨y,rfl⟩
 go_wp2
 exact bodyPost_ret (v:=.agg #[.int .u64 (hi (2 ^ hw k - 1)),.int .u64 (lo (2 ^ hw k - 1))]) (by simp [results,Tryz.results226,go_sem,cr0,cr1]) rfl ⟨rfl,own_end hB (by omega) _ _⟩
set_option maxHeartbeats 400000 in
theorem num_cut (n:Nat) (k:Int) (hn:n < B128):Pure Tryz.prog 216 #[nv n,.int .i64 k] (nv (n % 2 ^ hw k)):=by
 intro w
 have S:=Lib.hid ((num_and n (2 ^ hw k - 1) hn (mask_lt k)).eqv (congrArg nv (and_mask n k)))
 clear hn
 go_enter Tryz.func216,Tryz.ntmps216
 go_wp2
 obtain⟨W,hW,hB,hs,ca,cr,fa,fr⟩:=box2 w _ _ 40 40
 rw [← hW]
 have ca0:=ca 0 (some (.int .u64 (hi n))) rfl
 have ca1:=ca 1 (some (.int .u64 (lo n))) rfl
 have cr0:=cr 0 (some (.int .u64 0)) rfl
 have cr1:=cr 1 (some (.int .u64 0)) rfl
 clear hW fa ca cr
 refine wp_region_own_tail0 4 (by kernel_rfl) (by kernel_rfl) ?_
 simp only [List.take_succ_cons,List.take_zero,List.drop_succ_cons,List.drop_zero]
 repeat (go_big_quiet_step (first|(go_at_call 226;exact (num_mask _).at _ _)|(go_at_call 225;exact S.out.at _ _)))
 refine wpQuiet_nil ?_
 rintro _ ⟨y,rfl⟩
 go_wp2
 exact bodyPost_ret (v:=.agg #[.int .u64 (hi (n % 2 ^ hw k)),.int .u64 (lo (n % 2 ^ hw k))]) (by simp [results,Tryz.results216,go_sem,cr0,cr1]) rfl ⟨rfl,own_end hB (by omega) _ _⟩
set_option maxHeartbeats 400000 in
theorem num_of (n:Nat) (hn:n < 18446744073709551616):Pure Tryz.prog 223 #[.int .u64 (n:Int)] (nv n):=by
 intro w
 have e:Hid (Value.agg #[.int .u64 0,.int .u64 (n:Int)]=nv n):=by
  show _=_
  unfold nv hi lo
  rw [Nat.div_eq_of_lt hn,Nat.mod_eq_of_lt hn]
  rfl
 clear hn
 go_enter Tryz.func223,Tryz.ntmps223
 go_wp2
 refine bodyPost_ret (v:=.agg #[.int .u64 0,.int .u64 (n:Int)]) (by simp [results,Tryz.results223,go_sem]) rfl ⟨congrArg Ending.returned e.out,?_⟩
 exact plus_of_below ((Below.refl _ _).alloc (Nat.le_refl _) _)
set_option maxHeartbeats 400000 in
theorem num_cmp (a b:Nat):Pure Tryz.prog 222 #[nv a,nv b] (.int .i64 (cmpN a b)):=by
 intro w
 have E0:=Lib.hid (fun h=>show cmpN a b=0 from if_pos (h:a=b))
 have E1:=Lib.hid (fun (h:a < b)=>show cmpN a b=-1 from (if_neg (by omega)).trans (if_pos h))
 have E2:=Lib.hid (fun (h:¬ a=b∧¬ a < b)=>show cmpN a b=1 from (if_neg h.1).trans (if_neg h.2))
 have C0:=Lib.hid (cmp_eq a b)
 have C1:=Lib.hid (cmp_hi a b)
 have C2:=Lib.hid (cmp_lo a b)
 have C3:=Lib.hid (cmp_hi' a b)
 have C4:=Lib.hid (cmp_lo' a b)
 go_enter Tryz.func222,Tryz.ntmps222
 go_wp2
 all_goals
  go_ret
  refine⟨?_,plus_of_below (((Below.refl _ _).alloc (Nat.le_refl _) _).alloc (by simp) _)⟩
  refine (congrArg (fun z:Int=>Ending.returned (Value.int .i64 z)) (?_:cmpN a b=_)).symm
  first
   | exact E0.out (C0.out (by assumption) (by assumption))
   | exact E1.out (C1.out (by assumption))
   | exact E1.out (C2.out (by assumption) (by assumption))
   | exact E2.out (C3.out (by assumption) (by assumption))
   | exact E2.out (C4.out (by assumption) (by assumption) (by assumption))
theorem nv_beq (a b:Nat):(decide (hi a=hi b) && decide (lo a=lo b))=decide (a=b):=by
 rw [Bool.eq_iff_iff];simp only [Bool.and_eq_true,decide_eq_true_eq]
 exact⟨fun h=>cmp_eq a b h.1 h.2,fun h=>by subst h;exact⟨rfl,rfl⟩⟩
/-- Two numbers are held against each other. -/
theorem eql_nv (a b:Nat) (w:World):(binOp .eql 40 (nv a) (nv b)).run Tryz.prog w=.ok (.bool (decide (a=b))) w:=by
 rw [← nv_beq]
 go_simp
 split <;> (try split) <;> simp_all
set_option maxHeartbeats 400000 in
theorem num_fits (n:Nat) (k:Int) (hn:n < B128):Pure Tryz.prog 194 #[nv n,.int .i64 k] (.bool (decide (n % 2 ^ hw k=n))):=by
 intro w
 have S:=Lib.hid (num_cut n k hn)
 have eqN:=eql_nv
 clear hn
 go_enter Tryz.func194,Tryz.ntmps194
 go_wp2
 obtain⟨W,hW,hB,hs,ca,fa⟩:=box1 w _ 40
 rw [← hW]
 have ca0:=ca 0 (some (.int .u64 (hi n))) rfl
 have ca1:=ca 1 (some (.int .u64 (lo n))) rfl
 clear hW fa ca
 refine wp_region_own0 (by kernel_rfl) (by kernel_rfl) ?_
 repeat (go_big_quiet_step (exact S.out.at _ _))
 refine wpQuiet_nil ?_
 rintro _ ⟨y,rfl⟩
 go_wp2
 go_ret
 exact⟨rfl,plus_of_below (hB.trans ((below_plus W y).mono hB.size))⟩
def widthB (w:Int):Bool:=decide (1≤w) && decide (w≤128)
set_option maxRecDepth 100000 in
set_option maxHeartbeats 8000000 in
theorem ast_width (a:Int) (w:World) :
  Kp Tryz.prog w 131 #[.int .i64 a] (.bool (decide (1≤a) && decide (a≤128))):=by
 intro y0
 obtain⟨V,hV⟩:∃ V,plus w y0=V:=⟨_,rfl⟩
 rw [hV] at ⊢
 clear hV
 obtain⟨R,hR⟩:∃ R,(decide (1≤a) && decide (a≤128))=R:=⟨_,rfl⟩
 rw [hR]
 by_cases q1:1≤a
 case neg =>
  have hF:=Lib.hid (show (false)=R by first | exact hR|(rw [← hR];simp [q1]))
  clear hR
  go_enter Tryz.func131,Tryz.ntmps131
  go_wp2_with fail
  go_ret
  exact⟨rb hF.out,alloc0_plus _⟩
 case pos =>
  by_cases q2:a≤128
  case neg =>
   have hF:=Lib.hid (show (false)=R by first | exact hR|(rw [← hR];simp [q1,q2]))
   clear hR
   go_enter Tryz.func131,Tryz.ntmps131
   go_wp2_with fail
   go_ret
   exact⟨rb hF.out,alloc0_plus _⟩
  case pos =>
   have hF:=Lib.hid (show (true)=R by first | exact hR|(rw [← hR];simp [q1,q2]))
   clear hR
   go_enter Tryz.func131,Tryz.ntmps131
   go_wp2_with fail
   go_ret
   exact⟨rb hF.out,alloc0_plus _⟩
set_option maxRecDepth 100000 in
set_option maxHeartbeats 8000000 in
theorem lit_of (a0:Int) (a1:Int) (a2:Int) (s0 s1:Bool) (w:World)
  (h0:Kp Tryz.prog w 131 #[.int .i64 a0] (.bool s0))
  (h1:Kp Tryz.prog w 194 #[.agg #[.int .u64 a1,.int .u64 a2],.int .i64 a0] (.bool s1)) :
  Kp Tryz.prog w 136 #[.agg #[.int .i64 a0,.int .u64 a1,.int .u64 a2]] (.bool ((a0 == 0) || (s0 && s1))):=by
 intro y0
 have h0:=h0.up y0
 have h1:=h1.up y0
 obtain⟨V,hV⟩:∃ V,plus w y0=V:=⟨_,rfl⟩
 rw [hV] at h0 h1 ⊢
 clear hV
 obtain⟨R,hR⟩:∃ R,((a0 == 0) || (s0 && s1))=R:=⟨_,rfl⟩
 rw [hR]
 by_cases q1:(a0 == 0)=true
 case neg =>
  have q1:(a0 == 0)=false:=by simpa using q1
  cases s0
  case false =>
   have hF:=Lib.hid (show (false)=R by first | exact hR|(rw [← hR];simp [q1]))
   clear hR
   clear h1
   have h0:=Lib.hid h0
   go_enter Tryz.func136,Tryz.ntmps136
   go_wp2_with fail
   obtain⟨W,yy,hW,⟨z,hz⟩,cb0⟩:=box1n V _ 42
   rw [hW]
   have c0_0:=cb0 0 _ rfl
   have c0_1:=cb0 1 _ rfl
   have c0_2:=cb0 2 _ rfl
   have q0c:=Lib.hid (kp_at hz h0.out)
   have hz':=Lib.hid hz
   clear hW hz cb0
   refine (q0c.out _).mono ?_
   rintro r w' ⟨rfl,x1,rfl⟩
   go_wp2_with fail
   go_ret
   exact⟨rb hF.out,pp hz'.out⟩
  case true =>
   cases s1
   case false =>
    have hF:=Lib.hid (show (false)=R by first | exact hR|(rw [← hR];simp [q1]))
    clear hR
    have h0:=Lib.hid h0
    have h1:=Lib.hid h1
    go_enter Tryz.func136,Tryz.ntmps136
    go_wp2_with fail
    obtain⟨W,yy,hW,⟨z,hz⟩,cb0⟩:=box1n V _ 42
    rw [hW]
    have c0_0:=cb0 0 _ rfl
    have c0_1:=cb0 1 _ rfl
    have c0_2:=cb0 2 _ rfl
    have q0c:=Lib.hid (kp_at hz h0.out)
    have q1c:=Lib.hid (kp_at hz h1.out)
    have hz':=Lib.hid hz
    clear hW hz cb0
    refine (q0c.out _).mono ?_
    rintro r w' ⟨rfl,x1,rfl⟩
    go_wp2_with (first|(go_at_call 194;with_reducible refine (q1c.out _).mono ?_;rintro r w' ⟨rfl,x,rfl⟩))
    go_ret
    exact⟨rb hF.out,pp hz'.out⟩
   case true =>
    have hF:=Lib.hid (show (true)=R by first | exact hR|(rw [← hR];simp [q1]))
    clear hR
    have h0:=Lib.hid h0
    have h1:=Lib.hid h1
    go_enter Tryz.func136,Tryz.ntmps136
    go_wp2_with fail
    obtain⟨W,yy,hW,⟨z,hz⟩,cb0⟩:=box1n V _ 42
    rw [hW]
    have c0_0:=cb0 0 _ rfl
    have c0_1:=cb0 1 _ rfl
    have c0_2:=cb0 2 _ rfl
    have q0c:=Lib.hid (kp_at hz h0.out)
    have q1c:=Lib.hid (kp_at hz h1.out)
    have hz':=Lib.hid hz
    clear hW hz cb0
    refine (q0c.out _).mono ?_
    rintro r w' ⟨rfl,x1,rfl⟩
    go_wp2_with (first|(go_at_call 194;with_reducible refine (q1c.out _).mono ?_;rintro r w' ⟨rfl,x,rfl⟩))
    go_ret
    exact⟨rb hF.out,pp hz'.out⟩
 case pos =>
  have hF:=Lib.hid (show (true)=R by first | exact hR|(rw [← hR];simp [q1]))
  clear hR
  clear h0 h1
  go_enter Tryz.func136,Tryz.ntmps136
  go_wp2_with fail
  go_ret
  exact⟨rb hF.out,alloc1_plus _ _⟩
set_option maxRecDepth 100000 in
set_option maxHeartbeats 8000000 in
theorem field_of (a0:ByteArray) (a1:Int) (s0 s1:Bool) (w:World)
  (h0:Kp Tryz.prog w 65 #[.string a0] (.bool s0))
  (h1:Kp Tryz.prog w 131 #[.int .i64 a1] (.bool s1)) :
  Kp Tryz.prog w 56 #[.agg #[.string a0,.int .i64 a1]] (.bool (((s0) && (s1)))):=by
 intro y0
 have h0:=h0.up y0
 have h1:=h1.up y0
 obtain⟨V,hV⟩:∃ V,plus w y0=V:=⟨_,rfl⟩
 rw [hV] at h0 h1 ⊢
 clear hV
 obtain⟨R,hR⟩:∃ R,(((s0) && (s1)))=R:=⟨_,rfl⟩
 rw [hR]
 cases s0
 case false =>
  have hF:=Lib.hid (show (false)=R by first | exact hR|(rw [← hR];simp))
  clear hR
  clear h1
  have h0:=Lib.hid h0
  go_enter Tryz.func56,Tryz.ntmps56
  go_wp2_with fail
  obtain⟨W,yy,hW,⟨z,hz⟩,cb0⟩:=box1n V _ 87
  rw [hW]
  have c0_0:=cb0 0 _ rfl
  have c0_1:=cb0 1 _ rfl
  have q0c:=Lib.hid (kp_at hz h0.out)
  have hz':=Lib.hid hz
  clear hW hz cb0
  refine (q0c.out _).mono ?_
  rintro r w' ⟨rfl,x1,rfl⟩
  go_wp2_with fail
  go_ret
  exact⟨rb hF.out,pp hz'.out⟩
 case true =>
  cases s1
  case false =>
   have hF:=Lib.hid (show (false)=R by first | exact hR|(rw [← hR];simp))
   clear hR
   have h0:=Lib.hid h0
   have h1:=Lib.hid h1
   go_enter Tryz.func56,Tryz.ntmps56
   go_wp2_with fail
   obtain⟨W,yy,hW,⟨z,hz⟩,cb0⟩:=box1n V _ 87
   rw [hW]
   have c0_0:=cb0 0 _ rfl
   have c0_1:=cb0 1 _ rfl
   have q0c:=Lib.hid (kp_at hz h0.out)
   have q1c:=Lib.hid (kp_at hz h1.out)
   have hz':=Lib.hid hz
   clear hW hz cb0
   refine (q0c.out _).mono ?_
   rintro r w' ⟨rfl,x1,rfl⟩
   go_wp2_with (first|(go_at_call 131;with_reducible refine (q1c.out _).mono ?_;rintro r w' ⟨rfl,x,rfl⟩))
   go_ret
   exact⟨rb hF.out,pp hz'.out⟩
  case true =>
   have hF:=Lib.hid (show (true)=R by first | exact hR|(rw [← hR];simp))
   clear hR
   have h0:=Lib.hid h0
   have h1:=Lib.hid h1
   go_enter Tryz.func56,Tryz.ntmps56
   go_wp2_with fail
   obtain⟨W,yy,hW,⟨z,hz⟩,cb0⟩:=box1n V _ 87
   rw [hW]
   have c0_0:=cb0 0 _ rfl
   have c0_1:=cb0 1 _ rfl
   have q0c:=Lib.hid (kp_at hz h0.out)
   have q1c:=Lib.hid (kp_at hz h1.out)
   have hz':=Lib.hid hz
   clear hW hz cb0
   refine (q0c.out _).mono ?_
   rintro r w' ⟨rfl,x1,rfl⟩
   go_wp2_with (first|(go_at_call 131;with_reducible refine (q1c.out _).mono ?_;rintro r w' ⟨rfl,x,rfl⟩))
   go_ret
   exact⟨rb hF.out,pp hz'.out⟩
set_option maxRecDepth 100000 in
set_option maxHeartbeats 8000000 in
theorem litfits_of (a0:Int) (a1:Int) (a2:Int) (is:Bool) (s0:Bool) (w:World)
  (h0:Kp Tryz.prog w 136 #[.agg #[.int .i64 a0,.int .u64 a1,.int .u64 a2]] (.bool s0)) :
  Kp Tryz.prog w 210 #[.agg #[.int .i64 a0,.int .u64 a1,.int .u64 a2],.bool is] (.bool (if is then s0 else ((a0 == 0) && ((a1 == 0) && (a2 == 0))))):=by
 intro y0
 have h0:=h0.up y0
 obtain⟨V,hV⟩:∃ V,plus w y0=V:=⟨_,rfl⟩
 rw [hV] at h0 ⊢
 clear hV
 obtain⟨R,hR⟩:∃ R,(if is then s0 else ((a0 == 0) && ((a1 == 0) && (a2 == 0))))=R:=⟨_,rfl⟩
 rw [hR]
 by_cases q1:(is)=true
 case neg =>
  have q1:(is)=false:=by simpa using q1
  by_cases q2:(a0 == 0)=true
  case neg =>
   have q2:(a0 == 0)=false:=by simpa using q2
   have hF:=Lib.hid (show (false)=R by first | exact hR|(rw [← hR];simp [q1,q2]))
   clear hR
   clear h0
   go_enter Tryz.func210,Tryz.ntmps210
   go_wp2_with fail
   go_ret
   exact⟨rb hF.out,alloc1_plus _ _⟩
  case pos =>
   by_cases q3:(a1 == 0)=true
   case neg =>
    have q3:(a1 == 0)=false:=by simpa using q3
    have hF:=Lib.hid (show (false)=R by first | exact hR|(rw [← hR];simp [q1,q2,q3]))
    clear hR
    clear h0
    go_enter Tryz.func210,Tryz.ntmps210
    go_wp2_with fail
    go_ret
    exact⟨rb hF.out,alloc1_plus _ _⟩
   case pos =>
    by_cases q4:(a2 == 0)=true
    case neg =>
     have q4:(a2 == 0)=false:=by simpa using q4
     have hF:=Lib.hid (show (false)=R by first | exact hR|(rw [← hR];simp [q1,q2,q3,q4]))
     clear hR
     clear h0
     go_enter Tryz.func210,Tryz.ntmps210
     go_wp2_with fail
     go_ret
     exact⟨rb hF.out,alloc1_plus _ _⟩
    case pos =>
     have hF:=Lib.hid (show (true)=R by first | exact hR|(rw [← hR];simp [q1,q2,q3,q4]))
     clear hR
     clear h0
     go_enter Tryz.func210,Tryz.ntmps210
     go_wp2_with fail
     go_ret
     exact⟨rb hF.out,alloc1_plus _ _⟩
 case pos =>
  cases s0
  case false =>
   have hF:=Lib.hid (show (false)=R by first | exact hR|(rw [← hR];simp [q1]))
   clear hR
   have h0:=Lib.hid h0
   go_enter Tryz.func210,Tryz.ntmps210
   go_wp2_with fail
   obtain⟨W,yy,hW,⟨z,hz⟩,cb0⟩:=box1n V _ 42
   rw [hW]
   have c0_0:=cb0 0 _ rfl
   have c0_1:=cb0 1 _ rfl
   have c0_2:=cb0 2 _ rfl
   have q0c:=Lib.hid (kp_at hz h0.out)
   have hz':=Lib.hid hz
   clear hW hz cb0
   refine (q0c.out _).mono ?_
   rintro r w' ⟨rfl,x1,rfl⟩
   go_wp2_with fail
   go_ret
   exact⟨rb hF.out,pp hz'.out⟩
  case true =>
   have hF:=Lib.hid (show (true)=R by first | exact hR|(rw [← hR];simp [q1]))
   clear hR
   have h0:=Lib.hid h0
   go_enter Tryz.func210,Tryz.ntmps210
   go_wp2_with fail
   obtain⟨W,yy,hW,⟨z,hz⟩,cb0⟩:=box1n V _ 42
   rw [hW]
   have c0_0:=cb0 0 _ rfl
   have c0_1:=cb0 1 _ rfl
   have c0_2:=cb0 2 _ rfl
   have q0c:=Lib.hid (kp_at hz h0.out)
   have hz':=Lib.hid hz
   clear hW hz cb0
   refine (q0c.out _).mono ?_
   rintro r w' ⟨rfl,x1,rfl⟩
   go_wp2_with fail
   go_ret
   exact⟨rb hF.out,pp hz'.out⟩
set_option maxRecDepth 100000 in
set_option maxHeartbeats 8000000 in
theorem namefits_of (s:ByteArray) (p:Int) (s0:Bool) (w:World)
  (h0:Kp Tryz.prog w 65 #[.string s] (.bool s0)) :
  Kp Tryz.prog w 211 #[.string s,.int .u8 p] (.bool (if s.toList == [] then p != 1 else ((p != 0) && s0))):=by
 intro y0
 have h0:=h0.up y0
 obtain⟨V,hV⟩:∃ V,plus w y0=V:=⟨_,rfl⟩
 rw [hV] at h0 ⊢
 clear hV
 obtain⟨R,hR⟩:∃ R,(if s.toList == [] then p != 1 else ((p != 0) && s0))=R:=⟨_,rfl⟩
 rw [hR]
 by_cases q1:(s.toList == [])=true
 case neg =>
  have q1:(s.toList == [])=false:=by simpa using q1
  by_cases q2:(p != 0)=true
  case neg =>
   have q2:(p != 0)=false:=by simpa using q2
   have hF:=Lib.hid (show (false)=R by first | exact hR|(rw [← hR];simp [q1,q2]))
   clear hR
   clear h0
   go_enter Tryz.func211,Tryz.ntmps211
   go_wp2_with fail
   go_ret
   exact⟨rb hF.out,alloc0_plus _⟩
  case pos =>
   cases s0
   case false =>
    have hF:=Lib.hid (show (false)=R by first | exact hR|(rw [← hR];simp [q1,q2]))
    clear hR
    have h0:=Lib.hid h0
    go_enter Tryz.func211,Tryz.ntmps211
    go_wp2_with fail
    have q0c:=Lib.hid h0.out.pure
    refine (calls_self h0.out).mono ?_
    rintro r w' ⟨rfl,x1,rfl⟩
    go_wp2_with fail
    go_ret
    exact⟨rb hF.out,_,rfl⟩
   case true =>
    have hF:=Lib.hid (show (true)=R by first | exact hR|(rw [← hR];simp [q1,q2]))
    clear hR
    have h0:=Lib.hid h0
    go_enter Tryz.func211,Tryz.ntmps211
    go_wp2_with fail
    have q0c:=Lib.hid h0.out.pure
    refine (calls_self h0.out).mono ?_
    rintro r w' ⟨rfl,x1,rfl⟩
    go_wp2_with fail
    go_ret
    exact⟨rb hF.out,_,rfl⟩
 case pos =>
  by_cases q3:(p != 1)=true
  case neg =>
   have q3:(p != 1)=false:=by simpa using q3
   have hF:=Lib.hid (show (false)=R by first | exact hR|(rw [← hR];simp [q1,q3]))
   clear hR
   clear h0
   go_enter Tryz.func211,Tryz.ntmps211
   go_wp2_with fail
   go_ret
   exact⟨rb hF.out,alloc0_plus _⟩
  case pos =>
   have hF:=Lib.hid (show (true)=R by first | exact hR|(rw [← hR];simp [q1,q3]))
   clear hR
   clear h0
   go_enter Tryz.func211,Tryz.ntmps211
   go_wp2_with fail
   go_ret
   exact⟨rb hF.out,alloc0_plus _⟩
set_option maxRecDepth 100000 in
set_option maxHeartbeats 8000000 in
theorem slicefits_of (a b:Int) (is:Bool) (w:World) :
  Kp Tryz.prog w 212 #[.int .i64 a,.int .i64 b,.bool is] (.bool (if is then (decide (0≤b) && (decide (b≤a) && decide (a < 128))) else ((a == 0) && (b == 0)))):=by
 intro y0
 obtain⟨V,hV⟩:∃ V,plus w y0=V:=⟨_,rfl⟩
 rw [hV] at ⊢
 clear hV
 obtain⟨R,hR⟩:∃ R,(if is then (decide (0≤b) && (decide (b≤a) && decide (a < 128))) else ((a == 0) && (b == 0)))=R:=⟨_,rfl⟩
 rw [hR]
 by_cases q1:(is)=true
 case neg =>
  have q1:(is)=false:=by simpa using q1
  by_cases q2:(a == 0)=true
  case neg =>
   have q2:(a == 0)=false:=by simpa using q2
   have hF:=Lib.hid (show (false)=R by first | exact hR|(rw [← hR];simp [q1,q2]))
   clear hR
   go_enter Tryz.func212,Tryz.ntmps212
   go_wp2_with fail
   go_ret
   exact⟨rb hF.out,alloc0_plus _⟩
  case pos =>
   by_cases q3:(b == 0)=true
   case neg =>
    have q3:(b == 0)=false:=by simpa using q3
    have hF:=Lib.hid (show (false)=R by first | exact hR|(rw [← hR];simp [q1,q2,q3]))
    clear hR
    go_enter Tryz.func212,Tryz.ntmps212
    go_wp2_with fail
    go_ret
    exact⟨rb hF.out,alloc0_plus _⟩
   case pos =>
    have hF:=Lib.hid (show (true)=R by first | exact hR|(rw [← hR];simp [q1,q2,q3]))
    clear hR
    go_enter Tryz.func212,Tryz.ntmps212
    go_wp2_with fail
    go_ret
    exact⟨rb hF.out,alloc0_plus _⟩
 case pos =>
  by_cases q4:0≤b
  case neg =>
   have hF:=Lib.hid (show (false)=R by first | exact hR|(rw [← hR];simp [q1,q4]))
   clear hR
   go_enter Tryz.func212,Tryz.ntmps212
   go_wp2_with fail
   go_ret
   exact⟨rb hF.out,alloc0_plus _⟩
  case pos =>
   by_cases q5:b≤a
   case neg =>
    have hF:=Lib.hid (show (false)=R by first | exact hR|(rw [← hR];simp [q1,q4,q5]))
    clear hR
    go_enter Tryz.func212,Tryz.ntmps212
    go_wp2_with fail
    go_ret
    exact⟨rb hF.out,alloc0_plus _⟩
   case pos =>
    by_cases q6:a < 128
    case neg =>
     have hF:=Lib.hid (show (false)=R by first | exact hR|(rw [← hR];simp [q1,q4,q5,q6]))
     clear hR
     go_enter Tryz.func212,Tryz.ntmps212
     go_wp2_with fail
     go_ret
     exact⟨rb hF.out,alloc0_plus _⟩
    case pos =>
     have hF:=Lib.hid (show (true)=R by first | exact hR|(rw [← hR];simp [q1,q4,q5,q6]))
     clear hR
     go_enter Tryz.func212,Tryz.ntmps212
     go_wp2_with fail
     go_ret
     exact⟨rb hF.out,alloc0_plus _⟩
set_option maxRecDepth 100000 in
set_option maxHeartbeats 8000000 in
theorem target_of (s:ByteArray) (s0:Bool) (w:World)
  (h0:Kp Tryz.prog w 65 #[.string s] (.bool s0)) :
  Kp Tryz.prog w 190 #[.string s] (.bool ((s.toList == [97,99,99,101,112,116]) || ((s.toList == [114,101,106,101,99,116]) || s0))):=by
 intro y0
 have h0:=h0.up y0
 obtain⟨V,hV⟩:∃ V,plus w y0=V:=⟨_,rfl⟩
 rw [hV] at h0 ⊢
 clear hV
 obtain⟨R,hR⟩:∃ R,((s.toList == [97,99,99,101,112,116]) || ((s.toList == [114,101,106,101,99,116]) || s0))=R:=⟨_,rfl⟩
 rw [hR]
 by_cases q1:(s.toList == [97,99,99,101,112,116])=true
 case neg =>
  have q1:(s.toList == [97,99,99,101,112,116])=false:=by simpa using q1
  by_cases q2:(s.toList == [114,101,106,101,99,116])=true
  case neg =>
   have q2:(s.toList == [114,101,106,101,99,116])=false:=by simpa using q2
   cases s0
   case false =>
    have hF:=Lib.hid (show (false)=R by first | exact hR|(rw [← hR];simp [q1,q2]))
    clear hR
    have h0:=Lib.hid h0
    go_enter Tryz.func190,Tryz.ntmps190
    go_wp2_with fail
    have q0c:=Lib.hid h0.out.pure
    refine (calls_self h0.out).mono ?_
    rintro r w' ⟨rfl,x1,rfl⟩
    go_wp2_with fail
    go_ret
    exact⟨rb hF.out,_,rfl⟩
   case true =>
    have hF:=Lib.hid (show (true)=R by first | exact hR|(rw [← hR];simp [q1,q2]))
    clear hR
    have h0:=Lib.hid h0
    go_enter Tryz.func190,Tryz.ntmps190
    go_wp2_with fail
    have q0c:=Lib.hid h0.out.pure
    refine (calls_self h0.out).mono ?_
    rintro r w' ⟨rfl,x1,rfl⟩
    go_wp2_with fail
    go_ret
    exact⟨rb hF.out,_,rfl⟩
  case pos =>
   have hF:=Lib.hid (show (true)=R by first | exact hR|(rw [← hR];simp [q1,q2]))
   clear hR
   clear h0
   go_enter Tryz.func190,Tryz.ntmps190
   go_wp2_with fail
   go_ret
   exact⟨rb hF.out,alloc0_plus _⟩
 case pos =>
  have hF:=Lib.hid (show (true)=R by first | exact hR|(rw [← hR];simp [q1]))
  clear hR
  clear h0
  go_enter Tryz.func190,Tryz.ntmps190
  go_wp2_with fail
  go_ret
  exact⟨rb hF.out,alloc0_plus _⟩
end Go.Proofs.YtobhijbncchpiaaGreat
