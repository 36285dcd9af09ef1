/-
  WHAT IS PROVED HERE: a part of the proof (made narrower and merged by program; the parts: Pu Tx Ty Tz Tu Tv).
-/
import Derived.Test.YtbelaghcmgefaaaGreatDoorRows
import Derived.WalkKit
import Derived.WalkSpells
import Derived.WalkLawsBesides
import Derived.Lib.Hide
import Derived.OpenShut
import Derived.Lib.ItoaLen
import Derived.Test.YtbelaghcmgefaaaGreatDoorM34
import Derived.Test.YtbelaghcmgefaaaGreatDoorM35
import Derived.Test.YtbelaghcmgefaaaGreatDoorM19
namespace Go.Proofs.YtbelaghcmgefaaaGreatDoor
open Go.RowKit
set_option maxHeartbeats 4000000 in
set_option maxRecDepth 100000 in
theorem ref_digits:∀ (b n:Nat),n < b → n < 18446744073709551616 → Pure Tryz.prog 35 #[.int .u64 (n:Int)] (.string (decB n))
 | 0,n,h,_=>absurd h (by omega)
 | b + 1,n,h,hn=>by
  intro w
  by_cases h10:n < 10
  ·have hn8:(UInt8.ofNat (48 + n)).toNat = 48 + n:=by simp;omega
   have hcell:(w.alloc (.cells #[.int .u8 (48 + (n:Int))] 5)).cell? ⟨w.heap.size,0,none⟩ = some (.int .u8 (48 + (n:Int))):=cell_new w _ _ _ 0 rfl
   have hcv:=run_convert_bytes_back (P:=Tryz.prog) (w.alloc (.cells #[.int .u8 (48 + (n:Int))] 5)) 76 9 5 ⟨w.heap.size,0,none⟩ 1 [UInt8.ofNat (48 + n)] Tryz.underlying76 Tryz.underlying5 Tryz.underlying9 (fun j hj=>by
    have hj0:j = 0:=by simp at hj;omega
    subst hj0
    rw [Addr.add_lit,Nat.zero_add,hcell]
    simp
    omega)
   have e:(⟨[UInt8.ofNat (48 + n)].toArray⟩:ByteArray) = decB n:=by unfold decB;rw [Lib.decDigits_one h10]
   rw [e] at hcv
   simp only [List.length_singleton] at hcv
   clear e hcell hn8
   go_enter Tryz.func35,Tryz.ntmps35
   go_wp2
   go_ret
   exact ⟨rfl,plus_of_below ((Below.refl _ _).alloc (Nat.le_refl _) _)⟩
  ·have i1:=Lib.hid (ref_digits b (n / 10) (by omega) (by omega))
   have i2:=Lib.hid (ref_digits b (n % 10) (by omega) (by omega))
   have e:=Lib.hid (decB_more n h10)
   have l1:=dec_len (n / 10) (by omega)
   have l2:=dec_len (n % 10) (by omega)
   go_enter Tryz.func35,Tryz.ntmps35
   go_wp2_with fail
   refine (i1.out _).mono ?_
   rintro r w' ⟨rfl,x,rfl⟩
   go_wp2_with fail
   refine (i2.out.at _ _).mono ?_
   rintro r w' ⟨rfl,y,rfl⟩
   go_wp2
   go_ret
   exact ⟨by rw [← e.out];rfl,y,rfl⟩
set_option maxHeartbeats 4000000 in
set_option maxRecDepth 100000 in
theorem ref_dec (n:Int) (h0:-9223372036854775808 ≤ n) (h1:n ≤ 9223372036854775807):Pure Tryz.prog 18 #[.int .i64 n] (.string (itoaB n)):=by
 intro w
 by_cases hn:n < 0
 ·have hD:=ref_digits (n.natAbs + 1) n.natAbs (by omega) (by omega)
  have e:((n.natAbs:Nat):Int) = IntKind.u64.wrap (-IntKind.u64.wrap n):=by simp only [IntKind.wrap_u64];omega
  rw [e] at hD
  have l1:=dec_len n.natAbs (by omega)
  have e2:(⟨#[45]⟩:ByteArray)++decB n.natAbs = itoaB n:=by
   unfold decB itoaB Lib.itoa;rw [if_pos hn];apply ByteArray.ext;simp
  have hD:=Lib.hid hD
  have e2:=Lib.hid e2
  generalize hm:decB n.natAbs = v at hD e2
  have hv:v.size ≤ 20:=by rw [← hm];simpa [ByteArray.size] using l1
  clear hm l1 e
  go_enter Tryz.func18,Tryz.ntmps18
  go_wp2_with fail
  refine (hD.out _).mono ?_
  rintro r w' ⟨rfl,x,rfl⟩
  go_wp2
  go_ret
  exact ⟨by rw [← e2.out];rfl,x,rfl⟩
 ·have hD:=ref_digits (n.toNat + 1) n.toNat (by omega) (by omega)
  have e:((n.toNat:Nat):Int) = n:=by omega
  rw [e] at hD
  have e2:decB n.toNat = itoaB n:=by unfold decB itoaB Lib.itoa;rw [if_neg hn]
  rw [e2] at hD
  have hD:=Lib.hid hD
  clear e e2
  go_enter Tryz.func18,Tryz.ntmps18
  go_wp2_with fail
  refine (hD.out _).mono ?_
  rintro r w' ⟨rfl,x,rfl⟩
  go_wp2
  go_ret
  exact ⟨rfl,x,rfl⟩
abbrev bs (l:List UInt8):ByteArray:=⟨l.toArray⟩
theorem bs_app (a b:List UInt8):bs a++bs b = bs (a++b):=by
 apply ByteArray.ext
 simp
theorem bs_self (s:ByteArray):bs s.data.toList = s:=by
 apply ByteArray.ext
 simp
theorem pad_step (k:Nat):bs (padB k)++(⟨#[32,32]⟩:ByteArray) = bs (padB (k + 1)):=bs_app (padB k) [32,32]
set_option maxHeartbeats 2000000 in
theorem rpad (d:Nat) (hd:d ≤ 1000) (w:World):Kp Tryz.prog w 83 #[.int .i64 (d:Int)] (.string (bs (padB d))):=by
 intro y0
 obtain ⟨V,hV⟩:∃ V,plus w y0 = V:=⟨_,rfl⟩
 rw [hV]
 clear hV
 have hd':=Lib.hid hd
 clear hd
 go_enter Tryz.func83,Tryz.ntmps83
 go_wp2
 go_loopw [3,4] (fun sv iv wr=>∃ k:Nat,k ≤ d ∧ iv = .int .i64 (k:Int) ∧ sv = .string (bs (padB k)) ∧ wr = V) (fun _ iv _=>d - (intOf iv).toNat)
 case atStart=>exact ⟨0,Nat.zero_le _,rfl,rfl,rfl⟩
 case round =>
  obtain ⟨k,hk,rfl,rfl,rfl⟩:=hrel
  have hD:=hd'.out
  by_cases hlt:k < d
  ·have a6:=Lib.hid (wr_succ k d hlt (by omega))
   have hs:=Lib.hid (pad_step k)
   have l1:(padB k).length ≤ 2000:=by rw [padB_length];omega
   clear hD
   go_wp2
   go_roundw
   case rel=>exact ⟨k + 1,hlt,congrArg (Value.int .i64) a6.out,congrArg Value.string hs.out,by trivial⟩
   case measure=>exact step_less k d hlt a6.out
  ·obtain rfl:d = k:=by omega
   clear hD hlt hk
   go_wp2
   go_ret
   exact ⟨rfl,⟨#[],wr.drawn⟩,(plus_self _).symm⟩
theorem calls_at {P:Program} {V:World} {f:FuncId} {args:Array Value} {v:Value} (h:PureIn P V f args v):Calls P f args V fun e w'=>e = .returned v ∧ ∃ x,w' = plus V x:=by
 have:=h ⟨#[],V.drawn⟩
 rwa [plus_self] at this
set_option maxHeartbeats 4000000 in
set_option maxRecDepth 100000 in
theorem rlit5_of (t:Lt) (w:World) (ok:t.Ok) (hX:Kp Tryz.prog w 19 #[.agg #[.int .u64 t.h,.int .u64 t.l]] (.string (numS t.n))) :
  Kp Tryz.prog w 8 #[.agg #[.int .i64 t.w,.int .u64 t.h,.int .u64 t.l]] (.string (if ltB t = true then bs t.tx else bs [])):=by
 intro y0
 have hM:=(rlit_in t w ok).up y0
 have hX:=hX.up y0
 have hD:Kp Tryz.prog w 18 #[.int .i64 t.w] (.string (itoaB t.w)):=Kp.all (ref_dec t.w (bounds_i64 ok.w).1 (bounds_i64 ok.w).2)
 have hD:=hD.up y0
 obtain ⟨V,hV⟩:∃ V,plus w y0 = V:=⟨_,rfl⟩
 rw [hV] at hM hX hD ⊢
 clear hV
 have l1:(Lib.itoa t.w).length ≤ 21:=Lib.itoa_length_le t.w (bounds_i64 ok.w).1 (bounds_i64 ok.w).2
 have l2:(Lib.decDigits t.n).length ≤ 39:=numS_len t.n (Lt.n_lt ok)
 obtain ⟨X,hXX⟩:∃ X,(if ltB t = true then bs t.tx else bs []) = X:=⟨_,rfl⟩
 rw [hXX]
 have hXX':=Lib.hid hXX
 have hM':=Lib.hid hM
 have hX':=Lib.hid hX
 have hD':=Lib.hid hD
 clear hM hX hD hXX ok
 go_enter Tryz.func8,Tryz.ntmps8
 go_upto_region 1 with (fail)
 obtain ⟨W,hW,hB,hs,ca,fa⟩:=box1 V _ 26
 rw [← hW]
 have ca0:=ca 0 _ rfl
 have ca1:=ca 1 _ rfl
 have ca2:=ca 2 _ rfl
 obtain ⟨z,hz⟩:=plus_of_below hB
 have hMc:=Lib.hid (kp_at hz hM'.out)
 have hXc:=Lib.hid (kp_at hz hX'.out)
 have hDc:=Lib.hid (kp_at hz hD'.out)
 have hz':=Lib.hid hz
 have e0:=ca0 ⟨#[],W.drawn⟩
 have e1:=ca1 ⟨#[],W.drawn⟩
 have e2:=ca2 ⟨#[],W.drawn⟩
 rw [plus_self] at e0 e1 e2
 clear hB hs ca fa hW hz hM' hX' hD'
 go_wp2_with fail
 refine (calls_at hMc.out).mono ?_
 rintro r w' ⟨rfl,x1,rfl⟩
 cases hm:ltB t with
 | false =>
  have hXe:X = bs []:=by rw [← hXX'.out,hm,if_neg (by decide)]
  clear hm hXX'
  go_wp2
  go_ret
  exact ⟨by rw [hXe];rfl,pp hz'.out⟩
 | true =>
  by_cases hw:0 < t.w
  ·have hXe:Hid (itoaB t.w++(⟨#[119]⟩:ByteArray)++numS t.n = X):=Lib.hid (by
    rw [← hXX'.out,hm,if_pos rfl]
    unfold Lt.tx
    rw [if_pos hw,← bs_app,← bs_app])
   clear hm hXX'
   go_upto_region 4 with (fail)
   refine wp_region_own (by kernel_rfl) (by kernel_rfl) ?_
   repeat (go_big_quiet_step (first | (with_reducible exact hDc.out _) | (with_reducible exact hXc.out _)))
   refine wpQuiet_nil ?_
   rintro _ ⟨y2,rfl⟩
   go_wp2_with fail
   go_ret
   exact ⟨congrArg (fun q=>Ending.returned (Value.string q)) hXe.out,pp hz'.out⟩
  ·have hXe:Hid (numS t.n = X):=Lib.hid (by
    rw [← hXX'.out,hm,if_pos rfl]
    unfold Lt.tx
    rw [if_neg hw,List.nil_append])
   clear hm hXX'
   go_wp2_with (first | (go_at_call 19;with_reducible refine (hXc.out _).mono ?_;rintro r w' ⟨rfl,x,rfl⟩))
   go_ret
   exact ⟨congrArg (fun q=>Ending.returned (Value.string q)) hXe.out,pp hz'.out⟩
theorem br_bs (L:List UInt8):(⟨#[40]⟩:ByteArray)++bs L++(⟨#[41]⟩:ByteArray) = bs (40 :: (L++[41])):=by
 show bs [40]++bs L++bs [41] = _
 rw [bs_app,bs_app,List.append_assoc]
 rfl
set_option maxHeartbeats 4000000 in
set_option maxRecDepth 100000 in
theorem ratom5_of (op lw lh ll:Int) (hd nm:ByteArray) (hi lo:Int) (ap:Option Addr) (an ac:Nat) (L:List UInt8) (hL:L.length ≤ 140737488355328) (w:World)
  (hX:Kp Tryz.prog w 25 #[.agg #[.int .u8 op,.int .i64 lw,.int .u64 lh,.int .u64 ll,.string hd,.string nm,.int .i64 hi,.int .i64 lo,.slice ap an ac]] (.string (bs L))) :
  Kp Tryz.prog w 47 #[.agg #[.int .u8 op,.int .i64 lw,.int .u64 lh,.int .u64 ll,.string hd,.string nm,.int .i64 hi,.int .i64 lo,.slice ap an ac]] (.string (bs (brL an L))):=by
 intro y0
 have hX:=hX.up y0
 obtain ⟨V,hV⟩:∃ V,plus w y0 = V:=⟨_,rfl⟩
 rw [hV] at hX ⊢
 clear hV
 obtain ⟨X,hXX⟩:∃ X,bs (brL an L) = X:=⟨_,rfl⟩
 rw [hXX]
 obtain ⟨T,hT⟩:∃ T,bs L = T:=⟨_,rfl⟩
 rw [hT] at hX
 have l1:T.size ≤ 140737488355328:=by rw [← hT];exact hL
 have hXX':=Lib.hid hXX
 have hT':=Lib.hid hT
 have hX':=Lib.hid hX
 clear hX hXX hT hL
 go_enter Tryz.func47,Tryz.ntmps47
 go_upto_region 1 with (fail)
 obtain ⟨W,hW,hB,hs,ca,fa⟩:=box1 V _ 29
 rw [← hW]
 have ca0:=ca 0 _ rfl ⟨#[],W.drawn⟩
 have ca1:=ca 1 _ rfl ⟨#[],W.drawn⟩
 have ca2:=ca 2 _ rfl ⟨#[],W.drawn⟩
 have ca3:=ca 3 _ rfl ⟨#[],W.drawn⟩
 have ca4:=ca 4 _ rfl ⟨#[],W.drawn⟩
 have ca5:=ca 5 _ rfl ⟨#[],W.drawn⟩
 have ca6:=ca 6 _ rfl ⟨#[],W.drawn⟩
 have ca7:=ca 7 _ rfl ⟨#[],W.drawn⟩
 have ca8:=ca 8 _ rfl ⟨#[],W.drawn⟩
 rw [plus_self] at ca0 ca1 ca2 ca3 ca4 ca5 ca6 ca7 ca8
 obtain ⟨z,hz⟩:=plus_of_below hB
 have hXc:=Lib.hid (kp_at hz hX'.out)
 have hz':=Lib.hid hz
 clear hB hs ca fa hW hz hX'
 by_cases hn:an = 0
 ·have hXe:Hid (T = X):=Lib.hid (by rw [← hXX'.out,← hT'.out];unfold brL;rw [if_pos hn])
  subst hn
  clear hXX' hT'
  go_wp2_with fail
  refine (calls_at hXc.out).mono ?_
  rintro r w' ⟨rfl,x,rfl⟩
  go_wp2
  go_ret
  exact ⟨congrArg (fun q=>Ending.returned (Value.string q)) hXe.out,pp hz'.out⟩
 ·have hXe:Hid ((⟨#[40]⟩:ByteArray)++T++(⟨#[41]⟩:ByteArray) = X):=Lib.hid (by rw [← hXX'.out,← hT'.out,br_bs];unfold brL;rw [if_neg hn];rfl)
  have hn':0 < an:=by omega
  clear hXX' hT' hn
  go_wp2_with fail
  refine (calls_at hXc.out).mono ?_
  rintro r w' ⟨rfl,x,rfl⟩
  go_wp2
  go_ret
  exact ⟨congrArg (fun q=>Ending.returned (Value.string q)) hXe.out,pp hz'.out⟩
theorem two_allocs (V:World) (a b:Obj):∃ x,(V.alloc a).alloc b = plus V x:=plus_of_below (((Below.refl _ _).alloc (Nat.le_refl _) _).alloc (by simp) _)
set_option maxHeartbeats 4000000 in
set_option maxRecDepth 100000 in
theorem rtold_field (lw lh ll:Int) (hd nm:ByteArray) (hi lo:Int) (ap:Option Addr) (an ac:Nat) (h1:hd.size ≤ 140737488355328) (h2:nm.size ≤ 140737488355328) (w:World):Kp Tryz.prog w 25 #[.agg #[.int .u8 2,.int .i64 lw,.int .u64 lh,.int .u64 ll,.string hd,.string nm,.int .i64 hi,.int .i64 lo,.slice ap an ac]] (.string (hd++(⟨#[46]⟩:ByteArray)++nm)):=by
 intro y0
 obtain ⟨V,hV⟩:∃ V,plus w y0 = V:=⟨_,rfl⟩
 rw [hV]
 clear hV
 have _:=h1
 have _:=h2
 go_enter Tryz.func25,Tryz.ntmps25
 go_wp2
 go_ret
 exact ⟨rfl,two_allocs _ _ _⟩
set_option maxHeartbeats 4000000 in
set_option maxRecDepth 100000 in
theorem rtold_meta_ (lw lh ll:Int) (hd nm:ByteArray) (hi lo:Int) (ap:Option Addr) (an ac:Nat) (h1:hd.size ≤ 140737488355328) (h2:nm.size ≤ 140737488355328) (w:World):Kp Tryz.prog w 25 #[.agg #[.int .u8 3,.int .i64 lw,.int .u64 lh,.int .u64 ll,.string hd,.string nm,.int .i64 hi,.int .i64 lo,.slice ap an ac]] (.string ((⟨#[109,101,116,97,46]⟩:ByteArray)++nm)):=by
 intro y0
 obtain ⟨V,hV⟩:∃ V,plus w y0 = V:=⟨_,rfl⟩
 rw [hV]
 clear hV
 have _:=h1
 have _:=h2
 go_enter Tryz.func25,Tryz.ntmps25
 go_wp2
 go_ret
 exact ⟨rfl,two_allocs _ _ _⟩
set_option maxHeartbeats 4000000 in
set_option maxRecDepth 100000 in
theorem rtold_param (lw lh ll:Int) (hd nm:ByteArray) (hi lo:Int) (ap:Option Addr) (an ac:Nat) (h1:hd.size ≤ 140737488355328) (h2:nm.size ≤ 140737488355328) (w:World):Kp Tryz.prog w 25 #[.agg #[.int .u8 4,.int .i64 lw,.int .u64 lh,.int .u64 ll,.string hd,.string nm,.int .i64 hi,.int .i64 lo,.slice ap an ac]] (.string (nm)):=by
 intro y0
 obtain ⟨V,hV⟩:∃ V,plus w y0 = V:=⟨_,rfl⟩
 rw [hV]
 clear hV
 have _:=h1
 have _:=h2
 go_enter Tryz.func25,Tryz.ntmps25
 go_wp2
 go_ret
 exact ⟨rfl,two_allocs _ _ _⟩
set_option maxHeartbeats 4000000 in
set_option maxRecDepth 100000 in
theorem rtold_port_ (lw lh ll:Int) (hd nm:ByteArray) (hi lo:Int) (ap:Option Addr) (an ac:Nat) (h1:hd.size ≤ 140737488355328) (h2:nm.size ≤ 140737488355328) (w:World):Kp Tryz.prog w 25 #[.agg #[.int .u8 5,.int .i64 lw,.int .u64 lh,.int .u64 ll,.string hd,.string nm,.int .i64 hi,.int .i64 lo,.slice ap an ac]] (.string ((⟨#[112,111,114,116]⟩:ByteArray))):=by
 intro y0
 obtain ⟨V,hV⟩:∃ V,plus w y0 = V:=⟨_,rfl⟩
 rw [hV]
 clear hV
 have _:=h1
 have _:=h2
 go_enter Tryz.func25,Tryz.ntmps25
 go_wp2
 go_ret
 exact ⟨rfl,two_allocs _ _ _⟩
set_option maxHeartbeats 4000000 in
set_option maxRecDepth 100000 in
theorem rtold_valid_ (lw lh ll:Int) (hd nm:ByteArray) (hi lo:Int) (ap:Option Addr) (an ac:Nat) (h1:hd.size ≤ 140737488355328) (h2:nm.size ≤ 140737488355328) (w:World):Kp Tryz.prog w 25 #[.agg #[.int .u8 6,.int .i64 lw,.int .u64 lh,.int .u64 ll,.string hd,.string nm,.int .i64 hi,.int .i64 lo,.slice ap an ac]] (.string ((⟨#[105,115,86,97,108,105,100,40]⟩:ByteArray)++hd++(⟨#[41]⟩:ByteArray))):=by
 intro y0
 obtain ⟨V,hV⟩:∃ V,plus w y0 = V:=⟨_,rfl⟩
 rw [hV]
 clear hV
 have _:=h1
 have _:=h2
 go_enter Tryz.func25,Tryz.ntmps25
 go_wp2
 go_ret
 exact ⟨rfl,two_allocs _ _ _⟩
set_option maxHeartbeats 4000000 in
set_option maxRecDepth 100000 in
theorem rtold_lit (lw lh ll:Int) (hd nm:ByteArray) (hi lo:Int) (ap:Option Addr) (an ac:Nat) (T:ByteArray) (w:World) (hX:Kp Tryz.prog w 8 #[.agg #[.int .i64 lw,.int .u64 lh,.int .u64 ll]] (.string T)):Kp Tryz.prog w 25 #[.agg #[.int .u8 1,.int .i64 lw,.int .u64 lh,.int .u64 ll,.string hd,.string nm,.int .i64 hi,.int .i64 lo,.slice ap an ac]] (.string T):=by
 intro y0
 have hX:=hX.up y0
 obtain ⟨V,hV⟩:∃ V,plus w y0 = V:=⟨_,rfl⟩
 rw [hV] at hX ⊢
 clear hV
 have hX2:=Lib.hid (fun (a b:Obj)=>(show Calls Tryz.prog 8 #[.agg #[.int .i64 lw,.int .u64 lh,.int .u64 ll]] ((V.alloc a).alloc b) fun e w'=>e = .returned (.string T) ∧ ∃ x,w' = plus ((V.alloc a).alloc b) x by
  obtain ⟨z,hz⟩:=two_allocs V a b
  rw [hz];exact hX z))
 clear hX
 go_enter Tryz.func25,Tryz.ntmps25
 go_wp2_with fail
 refine (hX2.out _ _).mono ?_
 rintro r w' ⟨rfl,x,rfl⟩
 go_wp2
 go_ret
 refine ⟨rfl,?_⟩
 obtain ⟨z,hz⟩:=two_allocs V (.cells #[.int .u8 1,.int .i64 lw,.int .u64 lh,.int .u64 ll,.string hd,.string nm,.int .i64 hi,.int .i64 lo,.slice ap an ac] 29) (.cells #[.string ⟨#[]⟩,.string ⟨#[]⟩,.string ⟨#[]⟩,.string ⟨#[]⟩,.string ⟨#[]⟩,.string ⟨#[]⟩,.string ⟨#[]⟩,.string ⟨#[126]⟩,.string ⟨#[45]⟩,.string ⟨#[33]⟩,.string ⟨#[]⟩,.string ⟨#[43,43]⟩,.string ⟨#[43]⟩,.string ⟨#[45]⟩,.string ⟨#[60,60]⟩,.string ⟨#[62,62]⟩,.string ⟨#[38]⟩,.string ⟨#[94]⟩,.string ⟨#[124]⟩,.string ⟨#[61,61]⟩,.string ⟨#[33,61]⟩,.string ⟨#[60]⟩,.string ⟨#[60,61]⟩,.string ⟨#[62]⟩,.string ⟨#[62,61]⟩,.string ⟨#[38,38]⟩,.string ⟨#[124,124]⟩] 9)
 exact ⟨_,by rw [hz,plus_plus]⟩
set_option maxHeartbeats 4000000 in
set_option maxRecDepth 100000 in
theorem rtold_one7 (lw lh ll:Int) (hd nm:ByteArray) (hi lo:Int) (ac:Nat) (pa:Addr) (x0 x1 x2 x3:Int) (x4 x5:ByteArray) (x6 x7:Int) (xp:Option Addr) (xn xc:Nat) (L:List UInt8) (hL:L.length ≤ 140737488355328) (w:World) (hx:CellsAt w pa [.int .u8 x0,.int .i64 x1,.int .u64 x2,.int .u64 x3,.string x4,.string x5,.int .i64 x6,.int .i64 x7,.slice xp xn xc]) (hX:Kp Tryz.prog w 47 #[.agg #[.int .u8 x0,.int .i64 x1,.int .u64 x2,.int .u64 x3,.string x4,.string x5,.int .i64 x6,.int .i64 x7,.slice xp xn xc]] (.string (bs L))) :
  Kp Tryz.prog w 25 #[.agg #[.int .u8 7,.int .i64 lw,.int .u64 lh,.int .u64 ll,.string hd,.string nm,.int .i64 hi,.int .i64 lo,.slice (some pa) 1 ac]] (.string (bs (sgL 7++L))):=by
 intro y0
 have hX:=hX.up y0
 have hx:=hx.plus y0
 obtain ⟨V,hV⟩:∃ V,plus w y0 = V:=⟨_,rfl⟩
 rw [hV] at hX hx ⊢
 clear hV
 obtain ⟨X,hXX⟩:∃ X,bs (sgL 7++L) = X:=⟨_,rfl⟩
 rw [hXX]
 obtain ⟨T,hT⟩:∃ T,bs L = T:=⟨_,rfl⟩
 rw [hT] at hX
 have l1:T.size ≤ 140737488355328:=by rw [← hT];exact hL
 have hXe:Hid ((⟨#[126]⟩:ByteArray)++T = X):=Lib.hid (by rw [← hXX,← hT,← bs_app];rfl)
 have hX':=Lib.hid hX
 have hx':=Lib.hid hx
 clear hX hx hXX hT hL
 go_enter Tryz.func25,Tryz.ntmps25
 go_upto_region 2 with (fail)
 obtain ⟨W,hW,hB,hs,ca,cb,_,_⟩:=box2 V _ _ 29 9
 rw [← hW]
 have cb7:=cb 7 _ rfl
 have ca0:=ca 0 _ rfl
 have ca1:=ca 1 _ rfl
 have ca2:=ca 2 _ rfl
 have ca3:=ca 3 _ rfl
 have ca4:=ca 4 _ rfl
 have ca5:=ca 5 _ rfl
 have ca6:=ca 6 _ rfl
 have ca7:=ca 7 _ rfl
 have ca8:=ca 8 _ rfl
 obtain ⟨z,hz⟩:=plus_of_below hB
 have d0:∀ y,(plus W y).cell? pa = some (.int .u8 x0):=fun y=>((cellsat_at hz hx'.out).plus y).c0 _ rfl
 have d1:∀ y,(plus W y).cell? ⟨pa.block,pa.off + 1,none⟩ = some (.int .i64 x1):=fun y=>((cellsat_at hz hx'.out).plus y).cs 0 _ rfl
 have d2:∀ y,(plus W y).cell? ⟨pa.block,pa.off + 2,none⟩ = some (.int .u64 x2):=fun y=>((cellsat_at hz hx'.out).plus y).cs 1 _ rfl
 have d3:∀ y,(plus W y).cell? ⟨pa.block,pa.off + 3,none⟩ = some (.int .u64 x3):=fun y=>((cellsat_at hz hx'.out).plus y).cs 2 _ rfl
 have d4:∀ y,(plus W y).cell? ⟨pa.block,pa.off + 4,none⟩ = some (.string x4):=fun y=>((cellsat_at hz hx'.out).plus y).cs 3 _ rfl
 have d5:∀ y,(plus W y).cell? ⟨pa.block,pa.off + 5,none⟩ = some (.string x5):=fun y=>((cellsat_at hz hx'.out).plus y).cs 4 _ rfl
 have d6:∀ y,(plus W y).cell? ⟨pa.block,pa.off + 6,none⟩ = some (.int .i64 x6):=fun y=>((cellsat_at hz hx'.out).plus y).cs 5 _ rfl
 have d7:∀ y,(plus W y).cell? ⟨pa.block,pa.off + 7,none⟩ = some (.int .i64 x7):=fun y=>((cellsat_at hz hx'.out).plus y).cs 6 _ rfl
 have d8:∀ y,(plus W y).cell? ⟨pa.block,pa.off + 8,none⟩ = some (.slice xp xn xc):=fun y=>((cellsat_at hz hx'.out).plus y).cs 7 _ rfl
 have hXc:=Lib.hid (kp_at hz hX'.out)
 have hz':=Lib.hid hz
 have o0:=ca0 ⟨#[],W.drawn⟩
 rw [plus_self] at o0
 clear hB hs ca cb hW hz hX' hx'
 go_upto_region 18 with (fail)
 refine wp_region_own0 (by kernel_rfl) (by kernel_rfl) ?_
 repeat (go_big_quiet_step (first | (with_reducible exact hXc.out _)))
 refine wpQuiet_nil ?_
 rintro _ ⟨y2,rfl⟩
 go_wp2
 go_ret
 exact ⟨congrArg (fun q=>Ending.returned (Value.string q)) hXe.out,pp hz'.out⟩
set_option maxHeartbeats 4000000 in
set_option maxRecDepth 100000 in
theorem rtold_one8 (lw lh ll:Int) (hd nm:ByteArray) (hi lo:Int) (ac:Nat) (pa:Addr) (x0 x1 x2 x3:Int) (x4 x5:ByteArray) (x6 x7:Int) (xp:Option Addr) (xn xc:Nat) (L:List UInt8) (hL:L.length ≤ 140737488355328) (w:World) (hx:CellsAt w pa [.int .u8 x0,.int .i64 x1,.int .u64 x2,.int .u64 x3,.string x4,.string x5,.int .i64 x6,.int .i64 x7,.slice xp xn xc]) (hX:Kp Tryz.prog w 47 #[.agg #[.int .u8 x0,.int .i64 x1,.int .u64 x2,.int .u64 x3,.string x4,.string x5,.int .i64 x6,.int .i64 x7,.slice xp xn xc]] (.string (bs L))) :
  Kp Tryz.prog w 25 #[.agg #[.int .u8 8,.int .i64 lw,.int .u64 lh,.int .u64 ll,.string hd,.string nm,.int .i64 hi,.int .i64 lo,.slice (some pa) 1 ac]] (.string (bs (sgL 8++L))):=by
 intro y0
 have hX:=hX.up y0
 have hx:=hx.plus y0
 obtain ⟨V,hV⟩:∃ V,plus w y0 = V:=⟨_,rfl⟩
 rw [hV] at hX hx ⊢
 clear hV
 obtain ⟨X,hXX⟩:∃ X,bs (sgL 8++L) = X:=⟨_,rfl⟩
 rw [hXX]
 obtain ⟨T,hT⟩:∃ T,bs L = T:=⟨_,rfl⟩
 rw [hT] at hX
 have l1:T.size ≤ 140737488355328:=by rw [← hT];exact hL
 have hXe:Hid ((⟨#[45]⟩:ByteArray)++T = X):=Lib.hid (by rw [← hXX,← hT,← bs_app];rfl)
 have hX':=Lib.hid hX
 have hx':=Lib.hid hx
 clear hX hx hXX hT hL
 go_enter Tryz.func25,Tryz.ntmps25
 go_upto_region 2 with (fail)
 obtain ⟨W,hW,hB,hs,ca,cb,_,_⟩:=box2 V _ _ 29 9
 rw [← hW]
 have cb7:=cb 8 _ rfl
 have ca0:=ca 0 _ rfl
 have ca1:=ca 1 _ rfl
 have ca2:=ca 2 _ rfl
 have ca3:=ca 3 _ rfl
 have ca4:=ca 4 _ rfl
 have ca5:=ca 5 _ rfl
 have ca6:=ca 6 _ rfl
 have ca7:=ca 7 _ rfl
 have ca8:=ca 8 _ rfl
 obtain ⟨z,hz⟩:=plus_of_below hB
 have d0:∀ y,(plus W y).cell? pa = some (.int .u8 x0):=fun y=>((cellsat_at hz hx'.out).plus y).c0 _ rfl
 have d1:∀ y,(plus W y).cell? ⟨pa.block,pa.off + 1,none⟩ = some (.int .i64 x1):=fun y=>((cellsat_at hz hx'.out).plus y).cs 0 _ rfl
 have d2:∀ y,(plus W y).cell? ⟨pa.block,pa.off + 2,none⟩ = some (.int .u64 x2):=fun y=>((cellsat_at hz hx'.out).plus y).cs 1 _ rfl
 have d3:∀ y,(plus W y).cell? ⟨pa.block,pa.off + 3,none⟩ = some (.int .u64 x3):=fun y=>((cellsat_at hz hx'.out).plus y).cs 2 _ rfl
 have d4:∀ y,(plus W y).cell? ⟨pa.block,pa.off + 4,none⟩ = some (.string x4):=fun y=>((cellsat_at hz hx'.out).plus y).cs 3 _ rfl
 have d5:∀ y,(plus W y).cell? ⟨pa.block,pa.off + 5,none⟩ = some (.string x5):=fun y=>((cellsat_at hz hx'.out).plus y).cs 4 _ rfl
 have d6:∀ y,(plus W y).cell? ⟨pa.block,pa.off + 6,none⟩ = some (.int .i64 x6):=fun y=>((cellsat_at hz hx'.out).plus y).cs 5 _ rfl
 have d7:∀ y,(plus W y).cell? ⟨pa.block,pa.off + 7,none⟩ = some (.int .i64 x7):=fun y=>((cellsat_at hz hx'.out).plus y).cs 6 _ rfl
 have d8:∀ y,(plus W y).cell? ⟨pa.block,pa.off + 8,none⟩ = some (.slice xp xn xc):=fun y=>((cellsat_at hz hx'.out).plus y).cs 7 _ rfl
 have hXc:=Lib.hid (kp_at hz hX'.out)
 have hz':=Lib.hid hz
 have o0:=ca0 ⟨#[],W.drawn⟩
 rw [plus_self] at o0
 clear hB hs ca cb hW hz hX' hx'
 go_upto_region 18 with (fail)
 refine wp_region_own0 (by kernel_rfl) (by kernel_rfl) ?_
 repeat (go_big_quiet_step (first | (with_reducible exact hXc.out _)))
 refine wpQuiet_nil ?_
 rintro _ ⟨y2,rfl⟩
 go_wp2
 go_ret
 exact ⟨congrArg (fun q=>Ending.returned (Value.string q)) hXe.out,pp hz'.out⟩
set_option maxHeartbeats 4000000 in
set_option maxRecDepth 100000 in
theorem rtold_one9 (lw lh ll:Int) (hd nm:ByteArray) (hi lo:Int) (ac:Nat) (pa:Addr) (x0 x1 x2 x3:Int) (x4 x5:ByteArray) (x6 x7:Int) (xp:Option Addr) (xn xc:Nat) (L:List UInt8) (hL:L.length ≤ 140737488355328) (w:World) (hx:CellsAt w pa [.int .u8 x0,.int .i64 x1,.int .u64 x2,.int .u64 x3,.string x4,.string x5,.int .i64 x6,.int .i64 x7,.slice xp xn xc]) (hX:Kp Tryz.prog w 47 #[.agg #[.int .u8 x0,.int .i64 x1,.int .u64 x2,.int .u64 x3,.string x4,.string x5,.int .i64 x6,.int .i64 x7,.slice xp xn xc]] (.string (bs L))) :
  Kp Tryz.prog w 25 #[.agg #[.int .u8 9,.int .i64 lw,.int .u64 lh,.int .u64 ll,.string hd,.string nm,.int .i64 hi,.int .i64 lo,.slice (some pa) 1 ac]] (.string (bs (sgL 9++L))):=by
 intro y0
 have hX:=hX.up y0
 have hx:=hx.plus y0
 obtain ⟨V,hV⟩:∃ V,plus w y0 = V:=⟨_,rfl⟩
 rw [hV] at hX hx ⊢
 clear hV
 obtain ⟨X,hXX⟩:∃ X,bs (sgL 9++L) = X:=⟨_,rfl⟩
 rw [hXX]
 obtain ⟨T,hT⟩:∃ T,bs L = T:=⟨_,rfl⟩
 rw [hT] at hX
 have l1:T.size ≤ 140737488355328:=by rw [← hT];exact hL
 have hXe:Hid ((⟨#[33]⟩:ByteArray)++T = X):=Lib.hid (by rw [← hXX,← hT,← bs_app];rfl)
 have hX':=Lib.hid hX
 have hx':=Lib.hid hx
 clear hX hx hXX hT hL
 go_enter Tryz.func25,Tryz.ntmps25
 go_upto_region 2 with (fail)
 obtain ⟨W,hW,hB,hs,ca,cb,_,_⟩:=box2 V _ _ 29 9
 rw [← hW]
 have cb7:=cb 9 _ rfl
 have ca0:=ca 0 _ rfl
 have ca1:=ca 1 _ rfl
 have ca2:=ca 2 _ rfl
 have ca3:=ca 3 _ rfl
 have ca4:=ca 4 _ rfl
 have ca5:=ca 5 _ rfl
 have ca6:=ca 6 _ rfl
 have ca7:=ca 7 _ rfl
 have ca8:=ca 8 _ rfl
 obtain ⟨z,hz⟩:=plus_of_below hB
 have d0:∀ y,(plus W y).cell? pa = some (.int .u8 x0):=fun y=>((cellsat_at hz hx'.out).plus y).c0 _ rfl
 have d1:∀ y,(plus W y).cell? ⟨pa.block,pa.off + 1,none⟩ = some (.int .i64 x1):=fun y=>((cellsat_at hz hx'.out).plus y).cs 0 _ rfl
 have d2:∀ y,(plus W y).cell? ⟨pa.block,pa.off + 2,none⟩ = some (.int .u64 x2):=fun y=>((cellsat_at hz hx'.out).plus y).cs 1 _ rfl
 have d3:∀ y,(plus W y).cell? ⟨pa.block,pa.off + 3,none⟩ = some (.int .u64 x3):=fun y=>((cellsat_at hz hx'.out).plus y).cs 2 _ rfl
 have d4:∀ y,(plus W y).cell? ⟨pa.block,pa.off + 4,none⟩ = some (.string x4):=fun y=>((cellsat_at hz hx'.out).plus y).cs 3 _ rfl
 have d5:∀ y,(plus W y).cell? ⟨pa.block,pa.off + 5,none⟩ = some (.string x5):=fun y=>((cellsat_at hz hx'.out).plus y).cs 4 _ rfl
 have d6:∀ y,(plus W y).cell? ⟨pa.block,pa.off + 6,none⟩ = some (.int .i64 x6):=fun y=>((cellsat_at hz hx'.out).plus y).cs 5 _ rfl
 have d7:∀ y,(plus W y).cell? ⟨pa.block,pa.off + 7,none⟩ = some (.int .i64 x7):=fun y=>((cellsat_at hz hx'.out).plus y).cs 6 _ rfl
 have d8:∀ y,(plus W y).cell? ⟨pa.block,pa.off + 8,none⟩ = some (.slice xp xn xc):=fun y=>((cellsat_at hz hx'.out).plus y).cs 7 _ rfl
 have hXc:=Lib.hid (kp_at hz hX'.out)
 have hz':=Lib.hid hz
 have o0:=ca0 ⟨#[],W.drawn⟩
 rw [plus_self] at o0
 clear hB hs ca cb hW hz hX' hx'
 go_upto_region 18 with (fail)
 refine wp_region_own0 (by kernel_rfl) (by kernel_rfl) ?_
 repeat (go_big_quiet_step (first | (with_reducible exact hXc.out _)))
 refine wpQuiet_nil ?_
 rintro _ ⟨y2,rfl⟩
 go_wp2
 go_ret
 exact ⟨congrArg (fun q=>Ending.returned (Value.string q)) hXe.out,pp hz'.out⟩
end Go.Proofs.YtbelaghcmgefaaaGreatDoor
