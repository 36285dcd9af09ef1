/-
  WHAT IS PROVED HERE: a part of the proof (made narrower and merged by program; the parts: Pj).
-/
import Derived.Test.YtpjhokdehcpjbaaGreatDoorRows
import Derived.OpenShut
import Derived.Deep.RegionHeld3
import Derived.WalkKit
import Derived.Lib.Hide
import Derived.WalkSpells
import Derived.WalkLawsBesides
import Derived.Test.YtpjhokdehcpjbaaGreatDoorM36
import Derived.Test.YtpjhokdehcpjbaaGreatDoorM10
import Derived.Test.YtpjhokdehcpjbaaGreatDoorM39
namespace Go.Proofs.YtpjhokdehcpjbaaGreatDoor
open Go.RowKit
theorem i64_in {h:Int} (k:(Lit.int .i64 h).wf = true):-9223372036854775808 ≤ h ∧ h ≤ 9223372036854775807:=by
 have:=bounds_i64 k
 omega
/-- Itoa in the writer's worlds. -/
theorem itoa_kp {w0:World} (hT:Tab w0) (n:Int) (k:(Lit.int .i64 n).wf = true):Kp Tryz.prog w0 105 #[.int .i64 n] (.string (itoaB n)):=fun y =>
 lib_itoa n (i64_in k).1 (i64_in k).2 (plus w0 y) (tab_plus hT y)
set_option maxHeartbeats 4000000 in
set_option maxRecDepth 100000 in
theorem wr_param (w0:World) (hT:Tab w0) (b m1 m2:Nat) (e1 e2:Array MapEntry) (d:Int) (n:ByteArray) (k:Int) (hk:(Lit.int .i64 k).wf = true):Wm w0 b m1 m2 e1 e2 192 (.agg #[.string n,.int .i64 k]) ([98,105,116,60]++((itoaB k).data.toList++([62,32]++(n.data.toList)))) d:=by
 intro t v h hlen
 have h0:=h.alloc (.cells #[.string n,.int .i64 k] 107)
 have f0':=Lib.hid (Fr.alloc b v (.cells #[.string n,.int .i64 k] 107))
 have hne:v.heap.size ≠ b:=by have:=h.lt;omega
 have hb0:(v.alloc (.cells #[.string n,.int .i64 k] 107)).heap[v.heap.size]? = some (.cells #[.string n,.int .i64 k] 107):=alloc_new v _
 have hS:∀ U,Fr b (v.alloc (.cells #[.string n,.int .i64 k] 107)) U → (U.cell? ⟨v.heap.size,0,none⟩ = some (.string n) ∧ U.cell? ⟨v.heap.size,1,none⟩ = some (.int .i64 k) ∧ Fr b (v.alloc (.cells #[.string n,.int .i64 k] 107)) U):=fun U hU=>by
  have hb:=hU.box hb0 hne (show ¬ (107:TypeId) = 5 by decide)
  exact ⟨by rw [Lib.cell_of_heap hb];rfl,by rw [Lib.cell_of_heap hb];rfl,hU⟩
 have hS':=Lib.hid hS
 have hI:=Lib.hid (itoa_kp hT k hk)
 have hP:=Lib.hid (fun u (hu:Wr w0 b m1 m2 e1 e2 t d u)=>@put_at w0 b m1 m2 e1 e2 d [⟨#[98,105,116,60]⟩,(itoaB k),⟨#[62,32]⟩,n] ([98,105,116,60]++((itoaB k).data.toList++([62,32]++(n.data.toList)))) (by simp) (by simp [catB]) t u hu hlen)
 clear h hlen hne hb0 hS hT hk
 go_enter Tryz.func192,Tryz.ntmps192
 go_upto_region 1 with (fail)
 go_region_held3 (fun U=>U.cell? ⟨v.heap.size,0,none⟩ = some (.string n) ∧ U.cell? ⟨v.heap.size,1,none⟩ = some (.int .i64 k) ∧ Fr b (v.alloc (.cells #[.string n,.int .i64 k] 107)) U) (exact hS'.out _ (by repeat (first | exact Fr.refl _ _ | assumption | refine Fr.trans ?_ (Fr.alloc _ _ _) | refine Fr.trans ?_ (Fr.plus _ _ _) | refine Fr.trans ?_ (Fr.drew _ _) | refine Fr.trans ?_ (by assumption)))) (first | (go_at_call 105;refine (hI.out.over (b:=b) (t:=t) (d:=d) (m1:=m1) (m2:=m2) (e1:=e1) (e2:=e2) (by repeat (first | assumption | apply Wr.alloc | apply Wr.plus | apply Wr.drew))).mono ?_;rintro e w' ⟨rfl,y,rfl⟩) | (go_at_call 103;refine (hP.out _ (by repeat (first | assumption | apply Wr.alloc | apply Wr.plus | apply Wr.drew))).mono ?_;rintro e w' ⟨rfl,hw,hf⟩))
 all_goals go_wp2
 all_goals go_end0
 rename_i hh
 exact ⟨rfl,hw,f0'.out.trans hh.2.2⟩
set_option maxHeartbeats 4000000 in
set_option maxRecDepth 100000 in
theorem wr_expr_slice (w0:World) (hT:Tab w0) (b m1 m2:Nat) (e1 e2:Array MapEntry) (d:Int) (lw lh ll:Int) (hd9 nm:ByteArray) (hi lo:Int) (ac:Nat) (pa:Addr) (x0 x1 x2 x3:Int) (x4 x5:ByteArray) (x6 x7:Int) (xp:Option Addr) (xn xc:Nat) (hx:CellsAt w0 pa [.int .u8 x0,.int .i64 x1,.int .u64 x2,.int .u64 x3,.string x4,.string x5,.int .i64 x6,.int .i64 x7,.slice xp xn xc]) (AT:List UInt8) (hA:Wc w0 b m1 m2 e1 e2 104 #[.pointer (some ⟨b,0,none⟩),.agg #[.int .u8 x0,.int .i64 x1,.int .u64 x2,.int .u64 x3,.string x4,.string x5,.int .i64 x6,.int .i64 x7,.slice xp xn xc]] AT d d) (ka:(Lit.int .i64 hi).wf = true) (kb:(Lit.int .i64 lo).wf = true) :
  Wm w0 b m1 m2 e1 e2 38 (.agg #[.int .u8 10,.int .i64 lw,.int .u64 lh,.int .u64 ll,.string hd9,.string nm,.int .i64 hi,.int .i64 lo,.slice (some pa) 1 ac]) (AT++([91]++((itoaB hi).data.toList++([58]++((itoaB lo).data.toList++([93])))))) d:=by
 intro t v h hlen
 obtain ⟨XX,hXX⟩:∃ XX,t++(AT++([91]++((itoaB hi).data.toList++([58]++((itoaB lo).data.toList++([93])))))) = XX:=⟨_,rfl⟩
 rw [hXX]
 replace hXX:=Lib.hid hXX
 have h0:=h.alloc (.cells #[.int .u8 10,.int .i64 lw,.int .u64 lh,.int .u64 ll,.string hd9,.string nm,.int .i64 hi,.int .i64 lo,.slice (some pa) 1 ac] 29)
 have f0':=Lib.hid (Fr.alloc b v (.cells #[.int .u8 10,.int .i64 lw,.int .u64 lh,.int .u64 ll,.string hd9,.string nm,.int .i64 hi,.int .i64 lo,.slice (some pa) 1 ac] 29))
 have hne:v.heap.size ≠ b:=by have:=h.lt;omega
 have hb0:(v.alloc (.cells #[.int .u8 10,.int .i64 lw,.int .u64 lh,.int .u64 ll,.string hd9,.string nm,.int .i64 hi,.int .i64 lo,.slice (some pa) 1 ac] 29)).heap[v.heap.size]? = some (.cells #[.int .u8 10,.int .i64 lw,.int .u64 lh,.int .u64 ll,.string hd9,.string nm,.int .i64 hi,.int .i64 lo,.slice (some pa) 1 ac] 29):=alloc_new v _
 have hx0:CellsAt (v.alloc (.cells #[.int .u8 10,.int .i64 lw,.int .u64 lh,.int .u64 ll,.string hd9,.string nm,.int .i64 hi,.int .i64 lo,.slice (some pa) 1 ac] 29)) pa [.int .u8 x0,.int .i64 x1,.int .u64 x2,.int .u64 x3,.string x4,.string x5,.int .i64 x6,.int .i64 x7,.slice xp xn xc]:=by
  obtain ⟨z,hz⟩:=h0.over
  exact cellsat_at hz hx
 have d0:(v.alloc (.cells #[.int .u8 10,.int .i64 lw,.int .u64 lh,.int .u64 ll,.string hd9,.string nm,.int .i64 hi,.int .i64 lo,.slice (some pa) 1 ac] 29)).cell? pa = some (.int .u8 x0):=hx0.c0 _ rfl
 have d1:(v.alloc (.cells #[.int .u8 10,.int .i64 lw,.int .u64 lh,.int .u64 ll,.string hd9,.string nm,.int .i64 hi,.int .i64 lo,.slice (some pa) 1 ac] 29)).cell? ⟨pa.block,pa.off + 1,none⟩ = some (.int .i64 x1):=hx0.cs 0 _ rfl
 have d2:(v.alloc (.cells #[.int .u8 10,.int .i64 lw,.int .u64 lh,.int .u64 ll,.string hd9,.string nm,.int .i64 hi,.int .i64 lo,.slice (some pa) 1 ac] 29)).cell? ⟨pa.block,pa.off + 2,none⟩ = some (.int .u64 x2):=hx0.cs 1 _ rfl
 have d3:(v.alloc (.cells #[.int .u8 10,.int .i64 lw,.int .u64 lh,.int .u64 ll,.string hd9,.string nm,.int .i64 hi,.int .i64 lo,.slice (some pa) 1 ac] 29)).cell? ⟨pa.block,pa.off + 3,none⟩ = some (.int .u64 x3):=hx0.cs 2 _ rfl
 have d4:(v.alloc (.cells #[.int .u8 10,.int .i64 lw,.int .u64 lh,.int .u64 ll,.string hd9,.string nm,.int .i64 hi,.int .i64 lo,.slice (some pa) 1 ac] 29)).cell? ⟨pa.block,pa.off + 4,none⟩ = some (.string x4):=hx0.cs 3 _ rfl
 have d5:(v.alloc (.cells #[.int .u8 10,.int .i64 lw,.int .u64 lh,.int .u64 ll,.string hd9,.string nm,.int .i64 hi,.int .i64 lo,.slice (some pa) 1 ac] 29)).cell? ⟨pa.block,pa.off + 5,none⟩ = some (.string x5):=hx0.cs 4 _ rfl
 have d6:(v.alloc (.cells #[.int .u8 10,.int .i64 lw,.int .u64 lh,.int .u64 ll,.string hd9,.string nm,.int .i64 hi,.int .i64 lo,.slice (some pa) 1 ac] 29)).cell? ⟨pa.block,pa.off + 6,none⟩ = some (.int .i64 x6):=hx0.cs 5 _ rfl
 have d7:(v.alloc (.cells #[.int .u8 10,.int .i64 lw,.int .u64 lh,.int .u64 ll,.string hd9,.string nm,.int .i64 hi,.int .i64 lo,.slice (some pa) 1 ac] 29)).cell? ⟨pa.block,pa.off + 7,none⟩ = some (.int .i64 x7):=hx0.cs 6 _ rfl
 have d8:(v.alloc (.cells #[.int .u8 10,.int .i64 lw,.int .u64 lh,.int .u64 ll,.string hd9,.string nm,.int .i64 hi,.int .i64 lo,.slice (some pa) 1 ac] 29)).cell? ⟨pa.block,pa.off + 8,none⟩ = some (.slice xp xn xc):=hx0.cs 7 _ rfl
 have q1:=Lib.hid (hA t _ h0 (by rw [List.length_append] at hlen;omega))
 have hI:=Lib.hid (itoa_kp hT hi ka)
 have hL:=Lib.hid (itoa_kp hT lo kb)
 have hP:=Lib.hid (fun u (hu:Wr w0 b m1 m2 e1 e2 (t++AT) d u)=>@put_at w0 b m1 m2 e1 e2 d [⟨#[91]⟩,(itoaB hi),⟨#[58]⟩,(itoaB lo),⟨#[93]⟩] ([91]++((itoaB hi).data.toList++([58]++((itoaB lo).data.toList++([93]))))) (by simp) (by simp [catB]) (t++AT) u hu (by rw [List.length_append] at hlen ⊢;omega))
 have hne':=Lib.hid hne
 have hb0':=Lib.hid hb0
 clear h hlen hne hb0 hT ka kb hx hx0 hA h0
 go_enter Tryz.func38,Tryz.ntmps38
 go_wp2_with fail
 refine q1.out.mono ?_
 rintro e u1 ⟨rfl,h1,f1⟩
 have hS:∀ U,Fr b u1 U → (U.cell? ⟨v.heap.size,6,none⟩ = some (.int .i64 hi) ∧ U.cell? ⟨v.heap.size,7,none⟩ = some (.int .i64 lo) ∧ Fr b u1 U):=fun U hU=>by
  have hb:=(f1.trans hU).box hb0'.out hne'.out (show ¬ (29:TypeId) = 5 by decide)
  exact ⟨by rw [Lib.cell_of_heap hb];rfl,by rw [Lib.cell_of_heap hb];rfl,hU⟩
 have hS':=Lib.hid hS
 have f1':=Lib.hid f1
 clear q1 hS f1 d0 d1 d2 d3 d4 d5 d6 d7 d8
 go_upto_region 17 with (fail)
 go_region_held3 (fun U=>U.cell? ⟨v.heap.size,6,none⟩ = some (.int .i64 hi) ∧ U.cell? ⟨v.heap.size,7,none⟩ = some (.int .i64 lo) ∧ Fr b u1 U) (exact hS'.out _ (by repeat (first | exact Fr.refl _ _ | assumption | refine Fr.trans ?_ (Fr.alloc _ _ _) | refine Fr.trans ?_ (Fr.plus _ _ _) | refine Fr.trans ?_ (Fr.drew _ _) | refine Fr.trans ?_ (by assumption)))) (first | (go_at_call 105;refine (hI.out.over (b:=b) (t:=t++AT) (d:=d) (m1:=m1) (m2:=m2) (e1:=e1) (e2:=e2) (by repeat (first | assumption | apply Wr.alloc | apply Wr.plus | apply Wr.drew))).mono ?_;rintro e w' ⟨rfl,y,rfl⟩) | (go_at_call 105;refine (hL.out.over (b:=b) (t:=t++AT) (d:=d) (m1:=m1) (m2:=m2) (e1:=e1) (e2:=e2) (by repeat (first | assumption | apply Wr.alloc | apply Wr.plus | apply Wr.drew))).mono ?_;rintro e w' ⟨rfl,y,rfl⟩) | (go_at_call 103;refine (hP.out _ (by repeat (first | assumption | apply Wr.alloc | apply Wr.plus | apply Wr.drew))).mono ?_;rintro e w' ⟨rfl,hw,hf⟩))
 all_goals go_wp2
 all_goals go_end0
 all_goals rename_i hh
 all_goals exact ⟨rfl,by rw [← hXX.out,← List.append_assoc];exact hw,f0'.out.trans (f1'.out.trans hh.2.2)⟩
end Go.Proofs.YtpjhokdehcpjbaaGreatDoor
