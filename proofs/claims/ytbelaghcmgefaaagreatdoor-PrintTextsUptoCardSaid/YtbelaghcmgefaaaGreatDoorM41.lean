/-
  WHAT IS PROVED HERE: a part of the proof (made narrower and merged by program; the parts: Tq1 Tq2 Ts Tt).
-/
import Derived.Test.YtbelaghcmgefaaaGreatDoorRows
import Derived.OpenShut
import Derived.WalkKit
import Derived.Lib.Hide
import Derived.WalkSpells
import Derived.WalkLawsBesides
import Derived.Test.YtbelaghcmgefaaaGreatDoorM40
import Derived.Test.YtbelaghcmgefaaaGreatDoorM36
namespace Go.Proofs.YtbelaghcmgefaaaGreatDoor
open Go.RowKit
set_option maxHeartbeats 32000000 in
set_option maxRecDepth 100000 in
theorem rtold_twoA (k:Int) (hk:k = 11 ∨ k = 12 ∨ k = 13 ∨ k = 14 ∨ k = 15 ∨ k = 16 ∨ k = 17 ∨ k = 18) (lw lh ll:Int) (hd nm:ByteArray) (hi lo:Int) (ac:Nat) (pa:Addr) (x0 x1 x2 x3:Int) (x4 x5:ByteArray) (x6 x7:Int) (xp:Option Addr) (xn xc:Nat) (v0 v1 v2 v3:Int) (v4 v5:ByteArray) (v6 v7:Int) (vp:Option Addr) (vn vc:Nat) (L M:List UInt8) (hL:L.length ≤ 140737488355328) (hM:M.length ≤ 140737488355328) (w:World) (hx:CellsAt w pa [.int .u8 x0,.int .i64 x1,.int .u64 x2,.int .u64 x3,.string x4,.string x5,.int .i64 x6,.int .i64 x7,.slice xp xn xc]) (hy:CellsAt w (pa.add 9) [.int .u8 v0,.int .i64 v1,.int .u64 v2,.int .u64 v3,.string v4,.string v5,.int .i64 v6,.int .i64 v7,.slice vp vn vc])
  (hX:Kp Tryz.prog w 47 #[.agg #[.int .u8 x0,.int .i64 x1,.int .u64 x2,.int .u64 x3,.string x4,.string x5,.int .i64 x6,.int .i64 x7,.slice xp xn xc]] (.string (bs L))) (hY:Kp Tryz.prog w 47 #[.agg #[.int .u8 v0,.int .i64 v1,.int .u64 v2,.int .u64 v3,.string v4,.string v5,.int .i64 v6,.int .i64 v7,.slice vp vn vc]] (.string (bs M))) :
  Kp Tryz.prog w 25 #[.agg #[.int .u8 k,.int .i64 lw,.int .u64 lh,.int .u64 ll,.string hd,.string nm,.int .i64 hi,.int .i64 lo,.slice (some pa) 2 ac]] (.string (bs (L++([32]++(sgL k++([32]++M)))))):=by
 intro y0
 have hX:=hX.up y0
 have hY:=hY.up y0
 have hx:=hx.plus y0
 have hy:=hy.plus y0
 obtain ⟨V,hV⟩:∃ V,plus w y0 = V:=⟨_,rfl⟩
 rw [hV] at hX hY hx hy ⊢
 clear hV
 obtain ⟨X,hXX⟩:∃ X,bs (L++([32]++(sgL k++([32]++M)))) = X:=⟨_,rfl⟩
 rw [hXX]
 obtain ⟨T,hT⟩:∃ T,bs L = T:=⟨_,rfl⟩
 obtain ⟨S,hS⟩:∃ S,bs M = S:=⟨_,rfl⟩
 rw [hT] at hX
 rw [hS] at hY
 have l1:T.size ≤ 140737488355328:=by rw [← hT];exact hL
 have l2:S.size ≤ 140737488355328:=by rw [← hS];exact hM
 have hXe:Hid (∀ s:ByteArray,s = bs (sgL k) → T++(⟨#[32]⟩:ByteArray)++s++(⟨#[32]⟩:ByteArray)++S = X):=Lib.hid (by
  rintro s rfl
  rw [← hXX,← hT,← hS,← bs_app,← bs_app,← bs_app,← bs_app,← ByteArray.append_assoc,← ByteArray.append_assoc,← ByteArray.append_assoc])
 have hX':=Lib.hid hX
 have hY':=Lib.hid hY
 have hx':=Lib.hid hx
 have hy':=Lib.hid hy
 clear hX hY hx hy hXX hT hS hL hM
 rcases hk with rfl | rfl | rfl | rfl | rfl | rfl | rfl | rfl
 all_goals
  go_enter Tryz.func25,Tryz.ntmps25
  go_upto_region 2 with (fail)
  obtain ⟨W,hW,hB,hs,ca,cb,_,_⟩:=box2 V _ _ 29 9
  rw [← hW]
  have cb11:=cb 11 _ rfl
  have cb12:=cb 12 _ rfl
  have cb13:=cb 13 _ rfl
  have cb14:=cb 14 _ rfl
  have cb15:=cb 15 _ rfl
  have cb16:=cb 16 _ rfl
  have cb17:=cb 17 _ rfl
  have cb18:=cb 18 _ rfl
  have ca0:=ca 0 _ rfl
  have ca1:=ca 1 _ rfl
  have ca2:=ca 2 _ rfl
  have ca3:=ca 3 _ rfl
  have ca4:=ca 4 _ rfl
  have ca5:=ca 5 _ rfl
  have ca6:=ca 6 _ rfl
  have ca7:=ca 7 _ rfl
  have ca8:=ca 8 _ rfl
  obtain ⟨z,hz⟩:=plus_of_below hB
  have d0:∀ y,(plus W y).cell? pa = some (.int .u8 x0):=fun y=>((cellsat_at hz hx'.out).plus y).c0 _ rfl
  have d1:∀ y,(plus W y).cell? ⟨pa.block,pa.off + 1,none⟩ = some (.int .i64 x1):=fun y=>((cellsat_at hz hx'.out).plus y).cs 0 _ rfl
  have d2:∀ y,(plus W y).cell? ⟨pa.block,pa.off + 2,none⟩ = some (.int .u64 x2):=fun y=>((cellsat_at hz hx'.out).plus y).cs 1 _ rfl
  have d3:∀ y,(plus W y).cell? ⟨pa.block,pa.off + 3,none⟩ = some (.int .u64 x3):=fun y=>((cellsat_at hz hx'.out).plus y).cs 2 _ rfl
  have d4:∀ y,(plus W y).cell? ⟨pa.block,pa.off + 4,none⟩ = some (.string x4):=fun y=>((cellsat_at hz hx'.out).plus y).cs 3 _ rfl
  have d5:∀ y,(plus W y).cell? ⟨pa.block,pa.off + 5,none⟩ = some (.string x5):=fun y=>((cellsat_at hz hx'.out).plus y).cs 4 _ rfl
  have d6:∀ y,(plus W y).cell? ⟨pa.block,pa.off + 6,none⟩ = some (.int .i64 x6):=fun y=>((cellsat_at hz hx'.out).plus y).cs 5 _ rfl
  have d7:∀ y,(plus W y).cell? ⟨pa.block,pa.off + 7,none⟩ = some (.int .i64 x7):=fun y=>((cellsat_at hz hx'.out).plus y).cs 6 _ rfl
  have d8:∀ y,(plus W y).cell? ⟨pa.block,pa.off + 8,none⟩ = some (.slice xp xn xc):=fun y=>((cellsat_at hz hx'.out).plus y).cs 7 _ rfl
  have f0:∀ y,(plus W y).cell? ⟨pa.block,pa.off + 9,none⟩ = some (.int .u8 v0):=fun y=>((cellsat_at hz hy'.out).plus y).c0 _ rfl
  have f1:∀ y,(plus W y).cell? ⟨pa.block,pa.off + 9 + 1,none⟩ = some (.int .i64 v1):=fun y=>((cellsat_at hz hy'.out).plus y).cs 0 _ rfl
  have f2:∀ y,(plus W y).cell? ⟨pa.block,pa.off + 9 + 2,none⟩ = some (.int .u64 v2):=fun y=>((cellsat_at hz hy'.out).plus y).cs 1 _ rfl
  have f3:∀ y,(plus W y).cell? ⟨pa.block,pa.off + 9 + 3,none⟩ = some (.int .u64 v3):=fun y=>((cellsat_at hz hy'.out).plus y).cs 2 _ rfl
  have f4:∀ y,(plus W y).cell? ⟨pa.block,pa.off + 9 + 4,none⟩ = some (.string v4):=fun y=>((cellsat_at hz hy'.out).plus y).cs 3 _ rfl
  have f5:∀ y,(plus W y).cell? ⟨pa.block,pa.off + 9 + 5,none⟩ = some (.string v5):=fun y=>((cellsat_at hz hy'.out).plus y).cs 4 _ rfl
  have f6:∀ y,(plus W y).cell? ⟨pa.block,pa.off + 9 + 6,none⟩ = some (.int .i64 v6):=fun y=>((cellsat_at hz hy'.out).plus y).cs 5 _ rfl
  have f7:∀ y,(plus W y).cell? ⟨pa.block,pa.off + 9 + 7,none⟩ = some (.int .i64 v7):=fun y=>((cellsat_at hz hy'.out).plus y).cs 6 _ rfl
  have f8:∀ y,(plus W y).cell? ⟨pa.block,pa.off + 9 + 8,none⟩ = some (.slice vp vn vc):=fun y=>((cellsat_at hz hy'.out).plus y).cs 7 _ rfl
  have hXc:=Lib.hid (kp_at hz hX'.out)
  have hYc:=Lib.hid (kp_at hz hY'.out)
  have hz':=Lib.hid hz
  have o0:=ca0 ⟨#[],W.drawn⟩
  rw [plus_self] at o0
  clear hB hs ca cb hW hz hX' hY' hx' hy'
  go_upto_region 21 with (fail)
  refine wp_region_own0 (by kernel_rfl) (by kernel_rfl) ?_
  repeat (go_big_quiet_step (first | (with_reducible exact hXc.out _) | (with_reducible exact hYc.out _)))
  refine wpQuiet_nil ?_
  rintro _ ⟨y2,rfl⟩
  go_wp2
  go_ret
  exact ⟨congrArg (fun q=>Ending.returned (Value.string q)) (hXe.out _ rfl),pp hz'.out⟩
set_option maxHeartbeats 32000000 in
set_option maxRecDepth 100000 in
theorem rtold_twoB (k:Int) (hk:k = 19 ∨ k = 20 ∨ k = 21 ∨ k = 22 ∨ k = 23 ∨ k = 24 ∨ k = 25 ∨ k = 26) (lw lh ll:Int) (hd nm:ByteArray) (hi lo:Int) (ac:Nat) (pa:Addr) (x0 x1 x2 x3:Int) (x4 x5:ByteArray) (x6 x7:Int) (xp:Option Addr) (xn xc:Nat) (v0 v1 v2 v3:Int) (v4 v5:ByteArray) (v6 v7:Int) (vp:Option Addr) (vn vc:Nat) (L M:List UInt8) (hL:L.length ≤ 140737488355328) (hM:M.length ≤ 140737488355328) (w:World) (hx:CellsAt w pa [.int .u8 x0,.int .i64 x1,.int .u64 x2,.int .u64 x3,.string x4,.string x5,.int .i64 x6,.int .i64 x7,.slice xp xn xc]) (hy:CellsAt w (pa.add 9) [.int .u8 v0,.int .i64 v1,.int .u64 v2,.int .u64 v3,.string v4,.string v5,.int .i64 v6,.int .i64 v7,.slice vp vn vc])
  (hX:Kp Tryz.prog w 47 #[.agg #[.int .u8 x0,.int .i64 x1,.int .u64 x2,.int .u64 x3,.string x4,.string x5,.int .i64 x6,.int .i64 x7,.slice xp xn xc]] (.string (bs L))) (hY:Kp Tryz.prog w 47 #[.agg #[.int .u8 v0,.int .i64 v1,.int .u64 v2,.int .u64 v3,.string v4,.string v5,.int .i64 v6,.int .i64 v7,.slice vp vn vc]] (.string (bs M))) :
  Kp Tryz.prog w 25 #[.agg #[.int .u8 k,.int .i64 lw,.int .u64 lh,.int .u64 ll,.string hd,.string nm,.int .i64 hi,.int .i64 lo,.slice (some pa) 2 ac]] (.string (bs (L++([32]++(sgL k++([32]++M)))))):=by
 intro y0
 have hX:=hX.up y0
 have hY:=hY.up y0
 have hx:=hx.plus y0
 have hy:=hy.plus y0
 obtain ⟨V,hV⟩:∃ V,plus w y0 = V:=⟨_,rfl⟩
 rw [hV] at hX hY hx hy ⊢
 clear hV
 obtain ⟨X,hXX⟩:∃ X,bs (L++([32]++(sgL k++([32]++M)))) = X:=⟨_,rfl⟩
 rw [hXX]
 obtain ⟨T,hT⟩:∃ T,bs L = T:=⟨_,rfl⟩
 obtain ⟨S,hS⟩:∃ S,bs M = S:=⟨_,rfl⟩
 rw [hT] at hX
 rw [hS] at hY
 have l1:T.size ≤ 140737488355328:=by rw [← hT];exact hL
 have l2:S.size ≤ 140737488355328:=by rw [← hS];exact hM
 have hXe:Hid (∀ s:ByteArray,s = bs (sgL k) → T++(⟨#[32]⟩:ByteArray)++s++(⟨#[32]⟩:ByteArray)++S = X):=Lib.hid (by
  rintro s rfl
  rw [← hXX,← hT,← hS,← bs_app,← bs_app,← bs_app,← bs_app,← ByteArray.append_assoc,← ByteArray.append_assoc,← ByteArray.append_assoc])
 have hX':=Lib.hid hX
 have hY':=Lib.hid hY
 have hx':=Lib.hid hx
 have hy':=Lib.hid hy
 clear hX hY hx hy hXX hT hS hL hM
 rcases hk with rfl | rfl | rfl | rfl | rfl | rfl | rfl | rfl
 all_goals
  go_enter Tryz.func25,Tryz.ntmps25
  go_upto_region 2 with (fail)
  obtain ⟨W,hW,hB,hs,ca,cb,_,_⟩:=box2 V _ _ 29 9
  rw [← hW]
  have cb19:=cb 19 _ rfl
  have cb20:=cb 20 _ rfl
  have cb21:=cb 21 _ rfl
  have cb22:=cb 22 _ rfl
  have cb23:=cb 23 _ rfl
  have cb24:=cb 24 _ rfl
  have cb25:=cb 25 _ rfl
  have cb26:=cb 26 _ rfl
  have ca0:=ca 0 _ rfl
  have ca1:=ca 1 _ rfl
  have ca2:=ca 2 _ rfl
  have ca3:=ca 3 _ rfl
  have ca4:=ca 4 _ rfl
  have ca5:=ca 5 _ rfl
  have ca6:=ca 6 _ rfl
  have ca7:=ca 7 _ rfl
  have ca8:=ca 8 _ rfl
  obtain ⟨z,hz⟩:=plus_of_below hB
  have d0:∀ y,(plus W y).cell? pa = some (.int .u8 x0):=fun y=>((cellsat_at hz hx'.out).plus y).c0 _ rfl
  have d1:∀ y,(plus W y).cell? ⟨pa.block,pa.off + 1,none⟩ = some (.int .i64 x1):=fun y=>((cellsat_at hz hx'.out).plus y).cs 0 _ rfl
  have d2:∀ y,(plus W y).cell? ⟨pa.block,pa.off + 2,none⟩ = some (.int .u64 x2):=fun y=>((cellsat_at hz hx'.out).plus y).cs 1 _ rfl
  have d3:∀ y,(plus W y).cell? ⟨pa.block,pa.off + 3,none⟩ = some (.int .u64 x3):=fun y=>((cellsat_at hz hx'.out).plus y).cs 2 _ rfl
  have d4:∀ y,(plus W y).cell? ⟨pa.block,pa.off + 4,none⟩ = some (.string x4):=fun y=>((cellsat_at hz hx'.out).plus y).cs 3 _ rfl
  have d5:∀ y,(plus W y).cell? ⟨pa.block,pa.off + 5,none⟩ = some (.string x5):=fun y=>((cellsat_at hz hx'.out).plus y).cs 4 _ rfl
  have d6:∀ y,(plus W y).cell? ⟨pa.block,pa.off + 6,none⟩ = some (.int .i64 x6):=fun y=>((cellsat_at hz hx'.out).plus y).cs 5 _ rfl
  have d7:∀ y,(plus W y).cell? ⟨pa.block,pa.off + 7,none⟩ = some (.int .i64 x7):=fun y=>((cellsat_at hz hx'.out).plus y).cs 6 _ rfl
  have d8:∀ y,(plus W y).cell? ⟨pa.block,pa.off + 8,none⟩ = some (.slice xp xn xc):=fun y=>((cellsat_at hz hx'.out).plus y).cs 7 _ rfl
  have f0:∀ y,(plus W y).cell? ⟨pa.block,pa.off + 9,none⟩ = some (.int .u8 v0):=fun y=>((cellsat_at hz hy'.out).plus y).c0 _ rfl
  have f1:∀ y,(plus W y).cell? ⟨pa.block,pa.off + 9 + 1,none⟩ = some (.int .i64 v1):=fun y=>((cellsat_at hz hy'.out).plus y).cs 0 _ rfl
  have f2:∀ y,(plus W y).cell? ⟨pa.block,pa.off + 9 + 2,none⟩ = some (.int .u64 v2):=fun y=>((cellsat_at hz hy'.out).plus y).cs 1 _ rfl
  have f3:∀ y,(plus W y).cell? ⟨pa.block,pa.off + 9 + 3,none⟩ = some (.int .u64 v3):=fun y=>((cellsat_at hz hy'.out).plus y).cs 2 _ rfl
  have f4:∀ y,(plus W y).cell? ⟨pa.block,pa.off + 9 + 4,none⟩ = some (.string v4):=fun y=>((cellsat_at hz hy'.out).plus y).cs 3 _ rfl
  have f5:∀ y,(plus W y).cell? ⟨pa.block,pa.off + 9 + 5,none⟩ = some (.string v5):=fun y=>((cellsat_at hz hy'.out).plus y).cs 4 _ rfl
  have f6:∀ y,(plus W y).cell? ⟨pa.block,pa.off + 9 + 6,none⟩ = some (.int .i64 v6):=fun y=>((cellsat_at hz hy'.out).plus y).cs 5 _ rfl
  have f7:∀ y,(plus W y).cell? ⟨pa.block,pa.off + 9 + 7,none⟩ = some (.int .i64 v7):=fun y=>((cellsat_at hz hy'.out).plus y).cs 6 _ rfl
  have f8:∀ y,(plus W y).cell? ⟨pa.block,pa.off + 9 + 8,none⟩ = some (.slice vp vn vc):=fun y=>((cellsat_at hz hy'.out).plus y).cs 7 _ rfl
  have hXc:=Lib.hid (kp_at hz hX'.out)
  have hYc:=Lib.hid (kp_at hz hY'.out)
  have hz':=Lib.hid hz
  have o0:=ca0 ⟨#[],W.drawn⟩
  rw [plus_self] at o0
  clear hB hs ca cb hW hz hX' hY' hx' hy'
  go_upto_region 21 with (fail)
  refine wp_region_own0 (by kernel_rfl) (by kernel_rfl) ?_
  repeat (go_big_quiet_step (first | (with_reducible exact hXc.out _) | (with_reducible exact hYc.out _)))
  refine wpQuiet_nil ?_
  rintro _ ⟨y2,rfl⟩
  go_wp2
  go_ret
  exact ⟨congrArg (fun q=>Ending.returned (Value.string q)) (hXe.out _ rfl),pp hz'.out⟩
set_option maxHeartbeats 4000000 in
set_option maxRecDepth 100000 in
theorem rtold_slice (lw lh ll:Int) (hd nm:ByteArray) (hi lo:Int) (ac:Nat) (pa:Addr) (x0 x1 x2 x3:Int) (x4 x5:ByteArray) (x6 x7:Int) (xp:Option Addr) (xn xc:Nat) (L:List UInt8) (hL:L.length ≤ 140737488355328) (w:World) (hh:(Lit.int .i64 hi).wf = true) (hl:(Lit.int .i64 lo).wf = true) (hx:CellsAt w pa [.int .u8 x0,.int .i64 x1,.int .u64 x2,.int .u64 x3,.string x4,.string x5,.int .i64 x6,.int .i64 x7,.slice xp xn xc])
  (hX:Kp Tryz.prog w 47 #[.agg #[.int .u8 x0,.int .i64 x1,.int .u64 x2,.int .u64 x3,.string x4,.string x5,.int .i64 x6,.int .i64 x7,.slice xp xn xc]] (.string (bs L))) :
  Kp Tryz.prog w 25 #[.agg #[.int .u8 10,.int .i64 lw,.int .u64 lh,.int .u64 ll,.string hd,.string nm,.int .i64 hi,.int .i64 lo,.slice (some pa) 1 ac]] (.string (bs (L++([91]++(Lib.itoa hi++([58]++(Lib.itoa lo++[93]))))))):=by
 intro y0
 have hX:=hX.up y0
 have hx:=hx.plus y0
 have hD:Kp Tryz.prog w 18 #[.int .i64 hi] (.string (itoaB hi)):=Kp.all (ref_dec hi (bounds_i64 hh).1 (bounds_i64 hh).2)
 have hE:Kp Tryz.prog w 18 #[.int .i64 lo] (.string (itoaB lo)):=Kp.all (ref_dec lo (bounds_i64 hl).1 (bounds_i64 hl).2)
 have hD:=hD.up y0
 have hE:=hE.up y0
 obtain ⟨V,hV⟩:∃ V,plus w y0 = V:=⟨_,rfl⟩
 rw [hV] at hX hD hE hx ⊢
 clear hV
 have l3:(Lib.itoa hi).length ≤ 21:=Lib.itoa_length_le hi (bounds_i64 hh).1 (bounds_i64 hh).2
 have l4:(Lib.itoa lo).length ≤ 21:=Lib.itoa_length_le lo (bounds_i64 hl).1 (bounds_i64 hl).2
 have e1:itoaB hi = bs (Lib.itoa hi):=rfl
 have e2:itoaB lo = bs (Lib.itoa lo):=rfl
 rw [e1] at hD
 rw [e2] at hE
 clear e1 e2
 generalize Lib.itoa hi = I at hD l3 ⊢
 generalize Lib.itoa lo = J at hE l4 ⊢
 obtain ⟨X,hXX⟩:∃ X,bs (L++([91]++(I++([58]++(J++[93]))))) = X:=⟨_,rfl⟩
 rw [hXX]
 obtain ⟨T,hT⟩:∃ T,bs L = T:=⟨_,rfl⟩
 obtain ⟨S,hS⟩:∃ S,bs I = S:=⟨_,rfl⟩
 obtain ⟨R,hR⟩:∃ R,bs J = R:=⟨_,rfl⟩
 rw [hT] at hX
 rw [hS] at hD
 rw [hR] at hE
 have l1:T.size ≤ 140737488355328:=by rw [← hT];exact hL
 have l2:S.size ≤ 21:=by rw [← hS];exact l3
 have l5:R.size ≤ 21:=by rw [← hR];exact l4
 have hXe:Hid (T++(⟨#[91]⟩:ByteArray)++S++(⟨#[58]⟩:ByteArray)++R++(⟨#[93]⟩:ByteArray) = X):=Lib.hid (by
  rw [← hXX,← hT,← hS,← hR,← bs_app,← bs_app,← bs_app,← bs_app,← bs_app,← ByteArray.append_assoc,← ByteArray.append_assoc,← ByteArray.append_assoc,← ByteArray.append_assoc])
 have hX':=Lib.hid hX
 have hD':=Lib.hid hD
 have hE':=Lib.hid hE
 have hx':=Lib.hid hx
 clear hX hD hE hx hXX hT hS hR hL l3 l4 hh hl
 go_enter Tryz.func25,Tryz.ntmps25
 go_upto_region 2 with (fail)
 obtain ⟨W,hW,hB,hs,ca,cb,_,_⟩:=box2 V _ _ 29 9
 rw [← hW]
 have ca0:=ca 0 _ rfl
 have ca1:=ca 1 _ rfl
 have ca2:=ca 2 _ rfl
 have ca3:=ca 3 _ rfl
 have ca4:=ca 4 _ rfl
 have ca5:=ca 5 _ rfl
 have ca6:=ca 6 _ rfl
 have ca7:=ca 7 _ rfl
 have ca8:=ca 8 _ rfl
 obtain ⟨z,hz⟩:=plus_of_below hB
 have d0:∀ y,(plus W y).cell? pa = some (.int .u8 x0):=fun y=>((cellsat_at hz hx'.out).plus y).c0 _ rfl
 have d1:∀ y,(plus W y).cell? ⟨pa.block,pa.off + 1,none⟩ = some (.int .i64 x1):=fun y=>((cellsat_at hz hx'.out).plus y).cs 0 _ rfl
 have d2:∀ y,(plus W y).cell? ⟨pa.block,pa.off + 2,none⟩ = some (.int .u64 x2):=fun y=>((cellsat_at hz hx'.out).plus y).cs 1 _ rfl
 have d3:∀ y,(plus W y).cell? ⟨pa.block,pa.off + 3,none⟩ = some (.int .u64 x3):=fun y=>((cellsat_at hz hx'.out).plus y).cs 2 _ rfl
 have d4:∀ y,(plus W y).cell? ⟨pa.block,pa.off + 4,none⟩ = some (.string x4):=fun y=>((cellsat_at hz hx'.out).plus y).cs 3 _ rfl
 have d5:∀ y,(plus W y).cell? ⟨pa.block,pa.off + 5,none⟩ = some (.string x5):=fun y=>((cellsat_at hz hx'.out).plus y).cs 4 _ rfl
 have d6:∀ y,(plus W y).cell? ⟨pa.block,pa.off + 6,none⟩ = some (.int .i64 x6):=fun y=>((cellsat_at hz hx'.out).plus y).cs 5 _ rfl
 have d7:∀ y,(plus W y).cell? ⟨pa.block,pa.off + 7,none⟩ = some (.int .i64 x7):=fun y=>((cellsat_at hz hx'.out).plus y).cs 6 _ rfl
 have d8:∀ y,(plus W y).cell? ⟨pa.block,pa.off + 8,none⟩ = some (.slice xp xn xc):=fun y=>((cellsat_at hz hx'.out).plus y).cs 7 _ rfl
 have hXc:=Lib.hid (kp_at hz hX'.out)
 have hDc:=Lib.hid (kp_at hz hD'.out)
 have hEc:=Lib.hid (kp_at hz hE'.out)
 have hz':=Lib.hid hz
 have o0:=ca0 ⟨#[],W.drawn⟩
 rw [plus_self] at o0
 clear hB hs ca cb hW hz hX' hD' hE' hx'
 go_upto_region 20 with (fail)
 refine wp_region_own0 (by kernel_rfl) (by kernel_rfl) ?_
 repeat (go_big_quiet_step (first | (with_reducible exact hXc.out _) | (with_reducible exact hDc.out _) | (with_reducible exact hEc.out _)))
 refine wpQuiet_nil ?_
 rintro _ ⟨y2,rfl⟩
 go_wp2
 go_ret
 exact ⟨congrArg (fun q=>Ending.returned (Value.string q)) hXe.out,pp hz'.out⟩
theorem add_nought5 (a:Addr):a.add (0 * 9) = a:=by cases a;simp [Addr.add]
theorem rt_str {w:World} {f:FuncId} {args:Array Value} {s:ByteArray} {M:List UInt8} (h:Kp Tryz.prog w f args (.string s)) (e:s = bs M):Kp Tryz.prog w f args (.string (bs M)):=e ▸ h
theorem rtold_two (k:Int) (h1:11 ≤ k) (h2:k ≤ 26) (lw lh ll:Int) (hd nm:ByteArray) (hi lo:Int) (ac:Nat) (pa:Addr) (x0 x1 x2 x3:Int) (x4 x5:ByteArray) (x6 x7:Int) (xp:Option Addr) (xn xc:Nat) (v0 v1 v2 v3:Int) (v4 v5:ByteArray) (v6 v7:Int) (vp:Option Addr) (vn vc:Nat) (L M:List UInt8) (hL:L.length ≤ 140737488355328) (hM:M.length ≤ 140737488355328) (w:World) (hx:CellsAt w pa [.int .u8 x0,.int .i64 x1,.int .u64 x2,.int .u64 x3,.string x4,.string x5,.int .i64 x6,.int .i64 x7,.slice xp xn xc]) (hy:CellsAt w (pa.add 9) [.int .u8 v0,.int .i64 v1,.int .u64 v2,.int .u64 v3,.string v4,.string v5,.int .i64 v6,.int .i64 v7,.slice vp vn vc])
  (hX:Kp Tryz.prog w 47 #[.agg #[.int .u8 x0,.int .i64 x1,.int .u64 x2,.int .u64 x3,.string x4,.string x5,.int .i64 x6,.int .i64 x7,.slice xp xn xc]] (.string (bs L))) (hY:Kp Tryz.prog w 47 #[.agg #[.int .u8 v0,.int .i64 v1,.int .u64 v2,.int .u64 v3,.string v4,.string v5,.int .i64 v6,.int .i64 v7,.slice vp vn vc]] (.string (bs M))) :
  Kp Tryz.prog w 25 #[.agg #[.int .u8 k,.int .i64 lw,.int .u64 lh,.int .u64 ll,.string hd,.string nm,.int .i64 hi,.int .i64 lo,.slice (some pa) 2 ac]] (.string (bs (L++([32]++(sgL k++([32]++M)))))):=by
 rcases Int.lt_or_le k 19 with h | h
 ·exact rtold_twoA k (by omega) lw lh ll hd nm hi lo ac pa x0 x1 x2 x3 x4 x5 x6 x7 xp xn xc v0 v1 v2 v3 v4 v5 v6 v7 vp vn vc L M hL hM w hx hy hX hY
 ·exact rtold_twoB k (by omega) lw lh ll hd nm hi lo ac pa x0 x1 x2 x3 x4 x5 x6 x7 xp xn xc v0 v1 v2 v3 v4 v5 v6 v7 vp vn vc L M hL hM w hx hy hX hY
theorem rtold_one (k:Int) (h1:7 ≤ k) (h2:k ≤ 9) (lw lh ll:Int) (hd nm:ByteArray) (hi lo:Int) (ac:Nat) (pa:Addr) (x0 x1 x2 x3:Int) (x4 x5:ByteArray) (x6 x7:Int) (xp:Option Addr) (xn xc:Nat) (L:List UInt8) (hL:L.length ≤ 140737488355328) (w:World) (hx:CellsAt w pa [.int .u8 x0,.int .i64 x1,.int .u64 x2,.int .u64 x3,.string x4,.string x5,.int .i64 x6,.int .i64 x7,.slice xp xn xc])
  (hX:Kp Tryz.prog w 47 #[.agg #[.int .u8 x0,.int .i64 x1,.int .u64 x2,.int .u64 x3,.string x4,.string x5,.int .i64 x6,.int .i64 x7,.slice xp xn xc]] (.string (bs L))) :
  Kp Tryz.prog w 25 #[.agg #[.int .u8 k,.int .i64 lw,.int .u64 lh,.int .u64 ll,.string hd,.string nm,.int .i64 hi,.int .i64 lo,.slice (some pa) 1 ac]] (.string (bs (sgL k++L))):=by
 have hk:k = 7 ∨ k = 8 ∨ k = 9:=by omega
 rcases hk with rfl | rfl | rfl
 ·exact rtold_one7 lw lh ll hd nm hi lo ac pa x0 x1 x2 x3 x4 x5 x6 x7 xp xn xc L hL w hx hX
 ·exact rtold_one8 lw lh ll hd nm hi lo ac pa x0 x1 x2 x3 x4 x5 x6 x7 xp xn xc L hL w hx hX
 ·exact rtold_one9 lw lh ll hd nm hi lo ac pa x0 x1 x2 x3 x4 x5 x6 x7 xp xn xc L hL w hx hX
theorem lit_tx_or (t:Lt) (h:ltB t = true):(if ltB t = true then bs t.tx else bs []) = bs t.tx:=if_pos h
theorem litB_is {t:Lt} (h:litB true t = true):ltB t = true:=h
/-- What the document's told and atom hand back, of any expression that may be. -/
theorem rt_ex (hT:∀ (n:Nat),n < B128 → Pure Tryz.prog 19 #[nv n] (.string (numS n))) (e:Ex):∀ (n:Nat) (w:World),Ex.may n e = true → e.In w → e.wt ≤ 1048576 → Kp Tryz.prog w 25 #[.agg e.cells.toArray] (.string (bs e.tx)) ∧ Kp Tryz.prog w 47 #[.agg e.cells.toArray] (.string (bs e.at)):=by
 induction e using Ex.ind with
 | _ e ih =>
 intro n w hm hi hz
 obtain ⟨m,_,h1,h2,h3,_,_,_,_,hk⟩:=may_parts hm
 have kids:=In_kids hi
 have hll:=In_lit hi
 have hhl:=In_hi hi
 have hwt:=Ex.wt_eq e
 have row:RowAt w 9 Ex.cells e.p e.args:=by cases hi;assumption
 have kwt:∀ x ∈ e.args,x.wt ≤ 1048576:=fun x hx=>by
  have:=le_sum_of Ex.wt e.args x hx
  omega
 have klen:∀ x ∈ e.args,x.at.length ≤ 140737488355328:=fun x hx=>by
  have a1:=at_len x
  have a2:=ex_len x (kids x hx)
  have a3:=kwt x hx
  omega
 have main:Kp Tryz.prog w 25 #[.agg e.cells.toArray] (.string (bs e.tx)):=by
  rcases ex_cases hm with ha | ⟨k1,k2,a,ha,tx⟩ | ⟨k1,a,ha,tx⟩ | ⟨k1,k2,a,b',ha,tx⟩
  ·have tx:e.tx = leafL e.op e.lit e.head e.name:=by rw [Ex.tx_eq,ha];rfl
   have s1:e.head.size ≤ 140737488355328:=by omega
   have s2:e.name.size ≤ 140737488355328:=by omega
   rw [tx]
   rcases leaf_ops hm ha with k | k | k | k | k | k
   ·have hlit:ltB e.lit = true:=by rw [k] at h3;exact litB_is h3
    have hX:=(rlit5_of e.lit w hll (Kp.all (by rw [Lt.nv_eq hll];exact hT e.lit.n (Lt.n_lt hll)))).eqv (congrArg Value.string (lit_tx_or e.lit hlit))
    have e1:leafL e.op e.lit e.head e.name = e.lit.tx:=by unfold leafL;rw [k,if_pos rfl]
    rw [e1]
    unfold Ex.cells
    rw [k]
    exact rtold_lit _ _ _ _ _ _ _ _ _ _ _ w hX
   ·unfold leafL Ex.cells
    rw [k]
    exact rt_str (rtold_field _ _ _ _ _ _ _ _ _ _ s1 s2 w) (by rw [if_neg (by decide),if_pos rfl,← bs_app,← bs_app,bs_self,bs_self,← ByteArray.append_assoc])
   ·unfold leafL Ex.cells
    rw [k]
    exact rt_str (rtold_meta_ _ _ _ _ _ _ _ _ _ _ s1 s2 w) (by rw [if_neg (by decide),if_neg (by decide),if_pos rfl,← bs_app,bs_self])
   ·unfold leafL Ex.cells
    rw [k]
    exact rt_str (rtold_param _ _ _ _ _ _ _ _ _ _ s1 s2 w) (by rw [if_neg (by decide),if_neg (by decide),if_neg (by decide),if_pos rfl,bs_self])
   ·unfold leafL Ex.cells
    rw [k]
    exact rt_str (rtold_port_ _ _ _ _ _ _ _ _ _ _ s1 s2 w) (by rw [if_neg (by decide),if_neg (by decide),if_neg (by decide),if_neg (by decide),if_pos rfl])
   ·unfold leafL Ex.cells
    rw [k]
    exact rt_str (rtold_valid_ _ _ _ _ _ _ _ _ _ _ s1 s2 w) (by rw [if_neg (by decide),if_neg (by decide),if_neg (by decide),if_neg (by decide),if_neg (by decide),if_pos rfl,← bs_app,← bs_app,bs_self,← ByteArray.append_assoc])
  ·obtain ⟨pa,hp,hc⟩:=row 0 a (by rw [ha];rfl)
   rw [add_nought5] at hc
   have hmem:a ∈ e.args:=by rw [ha];simp
   have hA:=(ih a hmem m w (hk a hmem) (kids a hmem) (kwt a hmem)).2
   rw [tx]
   unfold Ex.cells
   rw [ha,hp]
   exact rtold_one e.op k1 k2 e.lit.w e.lit.h e.lit.l e.head e.name e.hi e.lo e.cap pa _ _ _ _ _ _ _ _ _ _ _ _ (klen a hmem) w hc hA
  ·obtain ⟨pa,hp,hc⟩:=row 0 a (by rw [ha];rfl)
   rw [add_nought5] at hc
   have hmem:a ∈ e.args:=by rw [ha];simp
   have hA:=(ih a hmem m w (hk a hmem) (kids a hmem) (kwt a hmem)).2
   rw [tx]
   unfold Ex.cells
   rw [ha,hp,k1]
   exact rtold_slice e.lit.w e.lit.h e.lit.l e.head e.name e.hi e.lo e.cap pa _ _ _ _ _ _ _ _ _ _ _ _ (klen a hmem) w hhl.1 hhl.2 hc hA
  ·obtain ⟨pa,hp,hc⟩:=row 0 a (by rw [ha];rfl)
   obtain ⟨pb,hp',hc'⟩:=row 1 b' (by rw [ha];rfl)
   rw [add_nought5] at hc
   obtain rfl:pa = pb:=Option.some.inj (hp.symm.trans hp')
   have hmem:a ∈ e.args:=by rw [ha];simp
   have hmem':b' ∈ e.args:=by rw [ha];simp
   have hA:=(ih a hmem m w (hk a hmem) (kids a hmem) (kwt a hmem)).2
   have hB:=(ih b' hmem' m w (hk b' hmem') (kids b' hmem') (kwt b' hmem')).2
   rw [tx]
   unfold Ex.cells
   rw [ha,hp]
   exact rtold_two e.op k1 k2 e.lit.w e.lit.h e.lit.l e.head e.name e.hi e.lo e.cap pa _ _ _ _ _ _ _ _ _ _ _ _ _ _ _ _ _ _ _ _ _ _ _ _ (klen a hmem) (klen b' hmem') w hc hc' hA hB
 refine ⟨main,?_⟩
 have hlen:e.tx.length ≤ 140737488355328:=by
  have a2:=ex_len e hi
  omega
 unfold Ex.cells at main ⊢
 exact ratom5_of _ _ _ _ _ _ _ _ _ _ _ _ hlen w main
end Go.Proofs.YtbelaghcmgefaaaGreatDoor
