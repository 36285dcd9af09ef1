/-
  WHAT IS PROVED HERE: a part of the proof (made narrower and merged by program; the parts: Pl).
-/
import Derived.Test.YtpjhokdehcpjbaaGreatDoorRows
import Derived.WalkKit
import Derived.Lib.Hide
import Derived.WalkSpells
import Derived.WalkLawsBesides
import Derived.Test.YtpjhokdehcpjbaaGreatDoorM43
import Derived.Test.YtpjhokdehcpjbaaGreatDoorM44
namespace Go.Proofs.YtpjhokdehcpjbaaGreatDoor
open Go.RowKit
theorem Wr.k1 {w0 v:World} {b m1 m2:Nat} {e1 e2:Array MapEntry} {t:List UInt8} {d:Int} (h:Wr w0 b m1 m2 e1 e2 t d v):MapAt v m1 e1:=by
 rcases h with h | h
 ·exact h.k1
 ·exact h.k1
theorem Wr.k2 {w0 v:World} {b m1 m2:Nat} {e1 e2:Array MapEntry} {t:List UInt8} {d:Int} (h:Wr w0 b m1 m2 e1 e2 t d v):MapAt v m2 e2:=by
 rcases h with h | h
 ·exact h.k2
 ·exact h.k2
theorem sign_field (s:ByteArray) (W:World):(Instr.field 239 (.agg #[.string s]) 0).run Tryz.prog W = .ok (.string s) W:=by
 have u:=run_underlying Tryz.underlying239
 simp [Instr.field,u,go_sem]
 rfl
set_option maxHeartbeats 4000000 in
set_option maxRecDepth 100000 in
theorem wr_key_of (w0:World) (b m1 m2:Nat) (e1:Array MapEntry) (d:Nat) (hd:d ≤ 500) (op lw lh ll:Int) (hd9 nm:ByteArray) (hi lo:Int) (ap:Option Addr) (an ac:Nat) (k:Int) (ka:1 ≤ k) (kb:k ≤ 3) (ET:List UInt8) (hE:Wc w0 b m1 m2 e1 (esK 3) 38 #[.pointer (some ⟨b,0,none⟩),.agg #[.int .u8 op,.int .i64 lw,.int .u64 lh,.int .u64 ll,.string hd9,.string nm,.int .i64 hi,.int .i64 lo,.slice ap an ac]] ET (d:Int) (d:Int)) :
  Wm w0 b m1 m2 e1 (esK 3) 199 (.agg #[.int .u8 op,.int .i64 lw,.int .u64 lh,.int .u64 ll,.string hd9,.string nm,.int .i64 hi,.int .i64 lo,.slice ap an ac,.int .u8 k]) (padB d++(ET++([58,32]++(kwL k++([59,10]))))) (d:Int):=by
 intro t v h hlen
 simp only [List.length_append] at hlen
 obtain ⟨XX,hXX⟩:∃ XX,t++(padB d++(ET++([58,32]++(kwL k++([59,10]))))) = XX:=⟨_,rfl⟩
 rw [hXX]
 replace hXX:=Lib.hid hXX
 have h0:=h.alloc (.cells #[.int .u8 op,.int .i64 lw,.int .u64 lh,.int .u64 ll,.string hd9,.string nm,.int .i64 hi,.int .i64 lo,.slice ap an ac,.int .u8 k] 86)
 have f0':=Lib.hid (Fr.alloc b v (.cells #[.int .u8 op,.int .i64 lw,.int .u64 lh,.int .u64 ll,.string hd9,.string nm,.int .i64 hi,.int .i64 lo,.slice ap an ac,.int .u8 k] 86))
 have hne:v.heap.size ≠ b:=by have:=h.lt;omega
 have hb0:(v.alloc (.cells #[.int .u8 op,.int .i64 lw,.int .u64 lh,.int .u64 ll,.string hd9,.string nm,.int .i64 hi,.int .i64 lo,.slice ap an ac,.int .u8 k] 86)).heap[v.heap.size]? = some (.cells #[.int .u8 op,.int .i64 lw,.int .u64 lh,.int .u64 ll,.string hd9,.string nm,.int .i64 hi,.int .i64 lo,.slice ap an ac,.int .u8 k] 86):=alloc_new v _
 have q1:=Lib.hid ((@beginnil_at w0 b m1 m2 e1 (esK 3) d (by omega)) t _ h0 (by omega))
 have q2:=Lib.hid (fun u (hu:Wr w0 b m1 m2 e1 (esK 3) (t++padB d) (d:Int) u)=>hE _ u hu (by simp only [List.length_append];omega))
 have hP:=Lib.hid (fun u (hu:Wr w0 b m1 m2 e1 (esK 3) (t++padB d++ET) (d:Int) u)=>@put_at w0 b m1 m2 e1 (esK 3) (d:Int) [⟨#[58,32]⟩,(⟨(kwL k).toArray⟩:ByteArray),⟨#[59,10]⟩] ([58,32]++(kwL k++([59,10]))) (by simp) (by simp [catB]) _ u hu (by simp only [List.length_append];omega))
 have hne':=Lib.hid hne
 have hb0':=Lib.hid hb0
 have hlk:=Lib.hid (fun U (hU:MapAt U m2 (esK 3))=>look_k U m2 hU k ka kb)
 clear h hlen hne hb0 hE h0 hd ka kb
 go_enter Tryz.func199,Tryz.ntmps199
 go_wp2_with fail
 refine q1.out.mono ?_
 rintro e u1 ⟨rfl,h1,f1⟩
 have hb1:=f1.box hb0'.out hne'.out (show ¬ (86:TypeId) = 5 by decide)
 have y0:u1.cell? ⟨v.heap.size,0,none⟩ = some (.int .u8 op):=ch hb1
 have y1:u1.cell? ⟨v.heap.size,1,none⟩ = some (.int .i64 lw):=ch hb1
 have y2:u1.cell? ⟨v.heap.size,2,none⟩ = some (.int .u64 lh):=ch hb1
 have y3:u1.cell? ⟨v.heap.size,3,none⟩ = some (.int .u64 ll):=ch hb1
 have y4:u1.cell? ⟨v.heap.size,4,none⟩ = some (.string hd9):=ch hb1
 have y5:u1.cell? ⟨v.heap.size,5,none⟩ = some (.string nm):=ch hb1
 have y6:u1.cell? ⟨v.heap.size,6,none⟩ = some (.int .i64 hi):=ch hb1
 have y7:u1.cell? ⟨v.heap.size,7,none⟩ = some (.int .i64 lo):=ch hb1
 have y8:u1.cell? ⟨v.heap.size,8,none⟩ = some (.slice ap an ac):=ch hb1
 have y9:u1.cell? ⟨v.heap.size,9,none⟩ = some (.int .u8 k):=ch hb1
 replace q2:=Lib.hid (q2.out u1 h1)
 have hb1':=Lib.hid hb1
 have f1':=Lib.hid f1
 clear q1 h1 f1 hb1
 go_wp2_with fail
 refine q2.out.mono ?_
 rintro e u2 ⟨rfl,h2,f2⟩
 have hS:∀ U,(∃ t',Wr w0 b m1 m2 e1 (esK 3) t' (d:Int) U) → Fr b u2 U → (U.cell? ⟨v.heap.size,9,none⟩ = some (.int .u8 k) ∧ U.cell? ⟨b,3,none⟩ = some (.map (some m2)) ∧ (Instr.lookup 98 (.map (some m2)) (.int .u8 k) false).run Tryz.prog U = .ok (.agg #[.string ⟨(kwL k).toArray⟩]) U ∧ Fr b u2 U):=fun U ⟨t',hw⟩ hU=>by
  have hb:=(f2.trans hU).box hb1'.out hne'.out (show ¬ (86:TypeId) = 5 by decide)
  exact ⟨by rw [Lib.cell_of_heap hb];rfl,hw.cell3,hlk.out U hw.k2,hU⟩
 have hS':=Lib.hid hS
 have f2':=Lib.hid f2
 have hfz:=h2.fz 0
 have hsf:=fun W=>sign_field ⟨(kwL k).toArray⟩ W
 clear q2 hS f2 y0 y1 y2 y3 y4 y5 y6 y7 y8 y9
 go_upto_region 3 with (fail)
 go_region_held3 (fun U=>U.cell? ⟨v.heap.size,9,none⟩ = some (.int .u8 k) ∧ U.cell? ⟨b,3,none⟩ = some (.map (some m2)) ∧ (Instr.lookup 98 (.map (some m2)) (.int .u8 k) false).run Tryz.prog U = .ok (.agg #[.string ⟨(kwL k).toArray⟩]) U ∧ Fr b u2 U) (exact hS'.out _ (by apply Exists.intro;repeat (first | assumption | apply Wr.alloc | apply Wr.plus | apply Wr.drew)) (by repeat (first | exact Fr.refl _ _ | assumption | refine Fr.trans ?_ (Fr.alloc _ _ _) | refine Fr.trans ?_ (Fr.plus _ _ _) | refine Fr.trans ?_ (Fr.drew _ _) | refine Fr.trans ?_ (by assumption)))) (first | (go_at_call 103;refine (hP.out u2.drew (h2.drew)).mono ?_;rintro e w' ⟨rfl,hw,hf⟩))
 all_goals go_wp2
 all_goals go_end0
 all_goals rename_i hh
 all_goals exact ⟨rfl,by rw [← hXX.out];have:=hw;simp only [List.append_assoc] at this ⊢;exact this,f0'.out.trans (f1'.out.trans (f2'.out.trans hh.2.2.2))⟩
set_option maxHeartbeats 4000000 in
set_option maxRecDepth 100000 in
theorem wr_signed_one (w0:World) (b m1 m2:Nat) (e2:Array MapEntry) (d:Int) (op lw lh ll:Int) (hd9 nm:ByteArray) (hi lo:Int) (ac:Nat) (pa:Addr) (x0 x1 x2 x3:Int) (x4 x5:ByteArray) (x6 x7:Int) (xp:Option Addr) (xn xc:Nat)  (hx:CellsAt w0 pa [.int .u8 x0,.int .i64 x1,.int .u64 x2,.int .u64 x3,.string x4,.string x5,.int .i64 x6,.int .i64 x7,.slice xp xn xc]) (AT:List UInt8) (hA:Wc w0 b m1 m2 (esG 19) e2 104 #[.pointer (some ⟨b,0,none⟩),.agg #[.int .u8 x0,.int .i64 x1,.int .u64 x2,.int .u64 x3,.string x4,.string x5,.int .i64 x6,.int .i64 x7,.slice xp xn xc]] AT d d) (ka:7 ≤ op) (kb:op ≤ 26) (kc:op ≠ 10) :
  Wm w0 b m1 m2 (esG 19) e2 106 (.agg #[.int .u8 op,.int .i64 lw,.int .u64 lh,.int .u64 ll,.string hd9,.string nm,.int .i64 hi,.int .i64 lo,.slice (some pa) 1 ac]) ((sgL op)++AT) d:=by
 intro t v h hlen
 simp only [List.length_append] at hlen
 obtain ⟨XX,hXX⟩:∃ XX,t++((sgL op)++AT) = XX:=⟨_,rfl⟩
 rw [hXX]
 replace hXX:=Lib.hid hXX
 have h0:=h.alloc (.cells #[.int .u8 op,.int .i64 lw,.int .u64 lh,.int .u64 ll,.string hd9,.string nm,.int .i64 hi,.int .i64 lo,.slice (some pa) 1 ac] 29)
 have f0':=Lib.hid (Fr.alloc b v (.cells #[.int .u8 op,.int .i64 lw,.int .u64 lh,.int .u64 ll,.string hd9,.string nm,.int .i64 hi,.int .i64 lo,.slice (some pa) 1 ac] 29))
 have hne:v.heap.size ≠ b:=by have:=h.lt;omega
 have hb0:(v.alloc (.cells #[.int .u8 op,.int .i64 lw,.int .u64 lh,.int .u64 ll,.string hd9,.string nm,.int .i64 hi,.int .i64 lo,.slice (some pa) 1 ac] 29)).heap[v.heap.size]? = some (.cells #[.int .u8 op,.int .i64 lw,.int .u64 lh,.int .u64 ll,.string hd9,.string nm,.int .i64 hi,.int .i64 lo,.slice (some pa) 1 ac] 29):=alloc_new v _
 have hxc:=Lib.hid (fun (u:World) (t':List UInt8) (hu:Wr w0 b m1 m2 (esG 19) e2 t' d u)=>by obtain ⟨z,hz⟩:=hu.over;exact cellsat_at hz hx:∀ (u:World) (t':List UInt8),Wr w0 b m1 m2 (esG 19) e2 t' d u → CellsAt u pa [.int .u8 x0,.int .i64 x1,.int .u64 x2,.int .u64 x3,.string x4,.string x5,.int .i64 x6,.int .i64 x7,.slice xp xn xc])
 have hlk:=Lib.hid (fun U (hU:MapAt U m1 (esG 19))=>look_g U m1 hU op ka kb kc)
 have hne':=Lib.hid hne
 have hb0':=Lib.hid hb0
 have h0':=Lib.hid h0
 have q1:=Lib.hid (fun u (hu:Wr w0 b m1 m2 (esG 19) e2 t d u)=>@put_at w0 b m1 m2 (esG 19) e2 d [(⟨(sgL op).toArray⟩:ByteArray)] (sgL op) (by simp) (by simp [catB]) _ u hu (by omega))
 have q2:=Lib.hid (fun u (hu:Wr w0 b m1 m2 (esG 19) e2 (t++(sgL op)) d u)=>hA _ u hu (by simp only [List.length_append];omega))
 have hS:∀ U,(∃ t',Wr w0 b m1 m2 (esG 19) e2 t' d U) → Fr b (v.alloc (.cells #[.int .u8 op,.int .i64 lw,.int .u64 lh,.int .u64 ll,.string hd9,.string nm,.int .i64 hi,.int .i64 lo,.slice (some pa) 1 ac] 29)) U → (U.cell? ⟨v.heap.size,0,none⟩ = some (.int .u8 op) ∧ U.cell? ⟨b,2,none⟩ = some (.map (some m1)) ∧ (Instr.lookup 98 (.map (some m1)) (.int .u8 op) false).run Tryz.prog U = .ok (.agg #[.string ⟨(sgL op).toArray⟩]) U ∧ Fr b (v.alloc (.cells #[.int .u8 op,.int .i64 lw,.int .u64 lh,.int .u64 ll,.string hd9,.string nm,.int .i64 hi,.int .i64 lo,.slice (some pa) 1 ac] 29)) U):=fun U ⟨t',hw⟩ hU=>by
  have hb:=hU.box hb0 hne (show ¬ (29:TypeId) = 5 by decide)
  exact ⟨by rw [Lib.cell_of_heap hb];rfl,hw.cell2,hlk.out U hw.k1,hU⟩
 have hS':=Lib.hid hS
 clear h hlen hne hb0 hx hA ka kb kc hS
 have hsf:=fun W=>sign_field ⟨(sgL op).toArray⟩ W
 go_enter Tryz.func106,Tryz.ntmps106
 go_upto_region 1 with (fail)
 go_region_held3 (fun U=>U.cell? ⟨v.heap.size,0,none⟩ = some (.int .u8 op) ∧ U.cell? ⟨b,2,none⟩ = some (.map (some m1)) ∧ (Instr.lookup 98 (.map (some m1)) (.int .u8 op) false).run Tryz.prog U = .ok (.agg #[.string ⟨(sgL op).toArray⟩]) U ∧ Fr b (v.alloc (.cells #[.int .u8 op,.int .i64 lw,.int .u64 lh,.int .u64 ll,.string hd9,.string nm,.int .i64 hi,.int .i64 lo,.slice (some pa) 1 ac] 29)) U) (exact hS'.out _ (by apply Exists.intro;repeat (first | assumption | apply Wr.alloc | apply Wr.plus | apply Wr.drew)) (by repeat (first | exact Fr.refl _ _ | assumption | refine Fr.trans ?_ (Fr.alloc _ _ _) | refine Fr.trans ?_ (Fr.plus _ _ _) | refine Fr.trans ?_ (Fr.drew _ _) | refine Fr.trans ?_ (by assumption)))) (fail)
 obtain ⟨V1,hV1⟩:∃ V1,(v.alloc (.cells #[.int .u8 op,.int .i64 lw,.int .u64 lh,.int .u64 ll,.string hd9,.string nm,.int .i64 hi,.int .i64 lo,.slice (some pa) 1 ac] 29)).drew = V1:=⟨_,rfl⟩
 rw [hV1]
 have h1:Wr w0 b m1 m2 (esG 19) e2 t d V1:=by rw [← hV1];exact h0'.out.drew
 have f1':Hid (Fr b v V1):=Lib.hid (by rw [← hV1];exact f0'.out.trans (Fr.drew _ _))
 have hb1:Hid (V1.heap[v.heap.size]? = some (.cells #[.int .u8 op,.int .i64 lw,.int .u64 lh,.int .u64 ll,.string hd9,.string nm,.int .i64 hi,.int .i64 lo,.slice (some pa) 1 ac] 29)):=Lib.hid (by rw [← hV1];exact hb0'.out)
 rename_i hh
 clear hh hS' h0 h0' hb0' f0' hlk hV1
 have y8:V1.cell? ⟨v.heap.size,8,none⟩ = some (.slice (some pa) 1 ac):=ch hb1.out
 replace q1:=Lib.hid (q1.out V1 h1)
 clear h1
 go_wp2_with fail
 refine q1.out.mono ?_
 rintro e u3 ⟨rfl,h3,f3⟩
 have hb3:=Lib.hid (f3.box hb1.out hne'.out (show ¬ (29:TypeId) = 5 by decide))
 clear y8
 have y8:u3.cell? ⟨v.heap.size,8,none⟩ = some (.slice (some pa) 1 ac):=ch hb3.out
 have ce:=hxc.out u3 _ h3
 have e0:u3.cell? pa = some (.int .u8 x0):=ce.c0 _ rfl
 have e1:u3.cell? ⟨pa.block,pa.off + 1,none⟩ = some (.int .i64 x1):=ce.cs 0 _ rfl
 have e2:u3.cell? ⟨pa.block,pa.off + 2,none⟩ = some (.int .u64 x2):=ce.cs 1 _ rfl
 have e3:u3.cell? ⟨pa.block,pa.off + 3,none⟩ = some (.int .u64 x3):=ce.cs 2 _ rfl
 have e4:u3.cell? ⟨pa.block,pa.off + 4,none⟩ = some (.string x4):=ce.cs 3 _ rfl
 have e5:u3.cell? ⟨pa.block,pa.off + 5,none⟩ = some (.string x5):=ce.cs 4 _ rfl
 have e6:u3.cell? ⟨pa.block,pa.off + 6,none⟩ = some (.int .i64 x6):=ce.cs 5 _ rfl
 have e7:u3.cell? ⟨pa.block,pa.off + 7,none⟩ = some (.int .i64 x7):=ce.cs 6 _ rfl
 have e8:u3.cell? ⟨pa.block,pa.off + 8,none⟩ = some (.slice xp xn xc):=ce.cs 7 _ rfl
 clear ce
 replace q2:=Lib.hid (q2.out u3 h3)
 have f3':=Lib.hid f3
 clear q1 h3 f3
 go_wp2_with fail
 refine q2.out.mono ?_
 rintro e u4 ⟨rfl,h4,f4⟩
 have h4':=Lib.hid h4
 have f4':=Lib.hid f4
 clear q2 h4 f4
 go_wp2
 go_end0
 exact ⟨rfl,by rw [← hXX.out];have:=h4'.out;simp only [List.append_assoc] at this ⊢;exact this,f1'.out.trans (f3'.out.trans f4'.out)⟩
set_option maxHeartbeats 4000000 in
set_option maxRecDepth 100000 in
theorem wr_signed_two (w0:World) (b m1 m2:Nat) (e2:Array MapEntry) (d:Int) (op lw lh ll:Int) (hd9 nm:ByteArray) (hi lo:Int) (ac:Nat) (pa:Addr) (x0 x1 x2 x3:Int) (x4 x5:ByteArray) (x6 x7:Int) (xp:Option Addr) (xn xc:Nat) (y0 y1 y2 y3:Int) (y4 y5:ByteArray) (y6 y7:Int) (yp:Option Addr) (yn yc:Nat) (hx:CellsAt w0 pa [.int .u8 x0,.int .i64 x1,.int .u64 x2,.int .u64 x3,.string x4,.string x5,.int .i64 x6,.int .i64 x7,.slice xp xn xc]) (AT:List UInt8) (hA:Wc w0 b m1 m2 (esG 19) e2 104 #[.pointer (some ⟨b,0,none⟩),.agg #[.int .u8 x0,.int .i64 x1,.int .u64 x2,.int .u64 x3,.string x4,.string x5,.int .i64 x6,.int .i64 x7,.slice xp xn xc]] AT d d) (hy:CellsAt w0 (pa.add 9) [.int .u8 y0,.int .i64 y1,.int .u64 y2,.int .u64 y3,.string y4,.string y5,.int .i64 y6,.int .i64 y7,.slice yp yn yc]) (BT:List UInt8) (hB:Wc w0 b m1 m2 (esG 19) e2 104 #[.pointer (some ⟨b,0,none⟩),.agg #[.int .u8 y0,.int .i64 y1,.int .u64 y2,.int .u64 y3,.string y4,.string y5,.int .i64 y6,.int .i64 y7,.slice yp yn yc]] BT d d) (ka:7 ≤ op) (kb:op ≤ 26) (kc:op ≠ 10) :
  Wm w0 b m1 m2 (esG 19) e2 106 (.agg #[.int .u8 op,.int .i64 lw,.int .u64 lh,.int .u64 ll,.string hd9,.string nm,.int .i64 hi,.int .i64 lo,.slice (some pa) 2 ac]) (AT++(([32]++(sgL op++([32])))++BT)) d:=by
 intro t v h hlen
 simp only [List.length_append] at hlen
 obtain ⟨XX,hXX⟩:∃ XX,t++(AT++(([32]++(sgL op++([32])))++BT)) = XX:=⟨_,rfl⟩
 rw [hXX]
 replace hXX:=Lib.hid hXX
 have h0:=h.alloc (.cells #[.int .u8 op,.int .i64 lw,.int .u64 lh,.int .u64 ll,.string hd9,.string nm,.int .i64 hi,.int .i64 lo,.slice (some pa) 2 ac] 29)
 have f0':=Lib.hid (Fr.alloc b v (.cells #[.int .u8 op,.int .i64 lw,.int .u64 lh,.int .u64 ll,.string hd9,.string nm,.int .i64 hi,.int .i64 lo,.slice (some pa) 2 ac] 29))
 have hne:v.heap.size ≠ b:=by have:=h.lt;omega
 have hb0:(v.alloc (.cells #[.int .u8 op,.int .i64 lw,.int .u64 lh,.int .u64 ll,.string hd9,.string nm,.int .i64 hi,.int .i64 lo,.slice (some pa) 2 ac] 29)).heap[v.heap.size]? = some (.cells #[.int .u8 op,.int .i64 lw,.int .u64 lh,.int .u64 ll,.string hd9,.string nm,.int .i64 hi,.int .i64 lo,.slice (some pa) 2 ac] 29):=alloc_new v _
 have hxc:=Lib.hid (fun (u:World) (t':List UInt8) (hu:Wr w0 b m1 m2 (esG 19) e2 t' d u)=>by obtain ⟨z,hz⟩:=hu.over;exact cellsat_at hz hx:∀ (u:World) (t':List UInt8),Wr w0 b m1 m2 (esG 19) e2 t' d u → CellsAt u pa [.int .u8 x0,.int .i64 x1,.int .u64 x2,.int .u64 x3,.string x4,.string x5,.int .i64 x6,.int .i64 x7,.slice xp xn xc])
 have hyc:=Lib.hid (fun (u:World) (t':List UInt8) (hu:Wr w0 b m1 m2 (esG 19) e2 t' d u)=>by obtain ⟨z,hz⟩:=hu.over;exact cellsat_at hz hy:∀ (u:World) (t':List UInt8),Wr w0 b m1 m2 (esG 19) e2 t' d u → CellsAt u (pa.add 9) [.int .u8 y0,.int .i64 y1,.int .u64 y2,.int .u64 y3,.string y4,.string y5,.int .i64 y6,.int .i64 y7,.slice yp yn yc])
 have hlk:=Lib.hid (fun U (hU:MapAt U m1 (esG 19))=>look_g U m1 hU op ka kb kc)
 have hne':=Lib.hid hne
 have hb0':=Lib.hid hb0
 have h0':=Lib.hid h0
 have q1:=Lib.hid (fun u (hu:Wr w0 b m1 m2 (esG 19) e2 t d u)=>hA t u hu (by omega))
 have q2:=Lib.hid (fun u (hu:Wr w0 b m1 m2 (esG 19) e2 (t++AT) d u)=>@put_at w0 b m1 m2 (esG 19) e2 d [⟨#[32]⟩,(⟨(sgL op).toArray⟩:ByteArray),⟨#[32]⟩] ([32]++(sgL op++([32]))) (by simp) (by simp [catB]) _ u hu (by simp only [List.length_append];omega))
 have q3:=Lib.hid (fun u (hu:Wr w0 b m1 m2 (esG 19) e2 (t++AT++([32]++(sgL op++([32])))) d u)=>hB _ u hu (by simp only [List.length_append];omega))
 have hS:∀ U,(∃ t',Wr w0 b m1 m2 (esG 19) e2 t' d U) → Fr b (v.alloc (.cells #[.int .u8 op,.int .i64 lw,.int .u64 lh,.int .u64 ll,.string hd9,.string nm,.int .i64 hi,.int .i64 lo,.slice (some pa) 2 ac] 29)) U → (U.cell? ⟨v.heap.size,0,none⟩ = some (.int .u8 op) ∧ U.cell? ⟨b,2,none⟩ = some (.map (some m1)) ∧ (Instr.lookup 98 (.map (some m1)) (.int .u8 op) false).run Tryz.prog U = .ok (.agg #[.string ⟨(sgL op).toArray⟩]) U ∧ Fr b (v.alloc (.cells #[.int .u8 op,.int .i64 lw,.int .u64 lh,.int .u64 ll,.string hd9,.string nm,.int .i64 hi,.int .i64 lo,.slice (some pa) 2 ac] 29)) U):=fun U ⟨t',hw⟩ hU=>by
  have hb:=hU.box hb0 hne (show ¬ (29:TypeId) = 5 by decide)
  exact ⟨by rw [Lib.cell_of_heap hb];rfl,hw.cell2,hlk.out U hw.k1,hU⟩
 have hS':=Lib.hid hS
 clear h hlen hne hb0 hx hA ka kb kc hS hy hB
 have hsf:=fun W=>sign_field ⟨(sgL op).toArray⟩ W
 go_enter Tryz.func106,Tryz.ntmps106
 go_upto_region 1 with (fail)
 go_region_held3 (fun U=>U.cell? ⟨v.heap.size,0,none⟩ = some (.int .u8 op) ∧ U.cell? ⟨b,2,none⟩ = some (.map (some m1)) ∧ (Instr.lookup 98 (.map (some m1)) (.int .u8 op) false).run Tryz.prog U = .ok (.agg #[.string ⟨(sgL op).toArray⟩]) U ∧ Fr b (v.alloc (.cells #[.int .u8 op,.int .i64 lw,.int .u64 lh,.int .u64 ll,.string hd9,.string nm,.int .i64 hi,.int .i64 lo,.slice (some pa) 2 ac] 29)) U) (exact hS'.out _ (by apply Exists.intro;repeat (first | assumption | apply Wr.alloc | apply Wr.plus | apply Wr.drew)) (by repeat (first | exact Fr.refl _ _ | assumption | refine Fr.trans ?_ (Fr.alloc _ _ _) | refine Fr.trans ?_ (Fr.plus _ _ _) | refine Fr.trans ?_ (Fr.drew _ _) | refine Fr.trans ?_ (by assumption)))) (fail)
 obtain ⟨V1,hV1⟩:∃ V1,(v.alloc (.cells #[.int .u8 op,.int .i64 lw,.int .u64 lh,.int .u64 ll,.string hd9,.string nm,.int .i64 hi,.int .i64 lo,.slice (some pa) 2 ac] 29)).drew = V1:=⟨_,rfl⟩
 rw [hV1]
 have h1:Wr w0 b m1 m2 (esG 19) e2 t d V1:=by rw [← hV1];exact h0'.out.drew
 have f1':Hid (Fr b v V1):=Lib.hid (by rw [← hV1];exact f0'.out.trans (Fr.drew _ _))
 have hb1:Hid (V1.heap[v.heap.size]? = some (.cells #[.int .u8 op,.int .i64 lw,.int .u64 lh,.int .u64 ll,.string hd9,.string nm,.int .i64 hi,.int .i64 lo,.slice (some pa) 2 ac] 29)):=Lib.hid (by rw [← hV1];exact hb0'.out)
 rename_i hh
 clear hh hS' h0 h0' hb0' f0' hlk hV1
 have y8:V1.cell? ⟨v.heap.size,8,none⟩ = some (.slice (some pa) 2 ac):=ch hb1.out
 have cd:=hxc.out V1 _ h1
 have d0:V1.cell? pa = some (.int .u8 x0):=cd.c0 _ rfl
 have d1:V1.cell? ⟨pa.block,pa.off + 1,none⟩ = some (.int .i64 x1):=cd.cs 0 _ rfl
 have d2:V1.cell? ⟨pa.block,pa.off + 2,none⟩ = some (.int .u64 x2):=cd.cs 1 _ rfl
 have d3:V1.cell? ⟨pa.block,pa.off + 3,none⟩ = some (.int .u64 x3):=cd.cs 2 _ rfl
 have d4:V1.cell? ⟨pa.block,pa.off + 4,none⟩ = some (.string x4):=cd.cs 3 _ rfl
 have d5:V1.cell? ⟨pa.block,pa.off + 5,none⟩ = some (.string x5):=cd.cs 4 _ rfl
 have d6:V1.cell? ⟨pa.block,pa.off + 6,none⟩ = some (.int .i64 x6):=cd.cs 5 _ rfl
 have d7:V1.cell? ⟨pa.block,pa.off + 7,none⟩ = some (.int .i64 x7):=cd.cs 6 _ rfl
 have d8:V1.cell? ⟨pa.block,pa.off + 8,none⟩ = some (.slice xp xn xc):=cd.cs 7 _ rfl
 clear cd
 replace q1:=Lib.hid (q1.out V1 h1)
 clear h1
 go_wp2_with fail
 refine q1.out.mono ?_
 rintro e u2 ⟨rfl,h2,f2⟩
 have hb2:=Lib.hid (f2.box hb1.out hne'.out (show ¬ (29:TypeId) = 5 by decide))
 replace q2:=Lib.hid (q2.out u2 h2)
 have f2':=Lib.hid f2
 clear q1 h2 f2 y8 d0 d1 d2 d3 d4 d5 d6 d7 d8
 go_wp2_with fail
 refine q2.out.mono ?_
 rintro e u3 ⟨rfl,h3,f3⟩
 have hb3:=Lib.hid (f3.box hb2.out hne'.out (show ¬ (29:TypeId) = 5 by decide))
 have y8:u3.cell? ⟨v.heap.size,8,none⟩ = some (.slice (some pa) 2 ac):=ch hb3.out
 have ce:=hyc.out u3 _ h3
 have e0:u3.cell? ⟨pa.block,pa.off + 9,none⟩ = some (.int .u8 y0):=ce.c0 _ rfl
 have e1:u3.cell? ⟨pa.block,pa.off + 9 + 1,none⟩ = some (.int .i64 y1):=ce.cs 0 _ rfl
 have e2:u3.cell? ⟨pa.block,pa.off + 9 + 2,none⟩ = some (.int .u64 y2):=ce.cs 1 _ rfl
 have e3:u3.cell? ⟨pa.block,pa.off + 9 + 3,none⟩ = some (.int .u64 y3):=ce.cs 2 _ rfl
 have e4:u3.cell? ⟨pa.block,pa.off + 9 + 4,none⟩ = some (.string y4):=ce.cs 3 _ rfl
 have e5:u3.cell? ⟨pa.block,pa.off + 9 + 5,none⟩ = some (.string y5):=ce.cs 4 _ rfl
 have e6:u3.cell? ⟨pa.block,pa.off + 9 + 6,none⟩ = some (.int .i64 y6):=ce.cs 5 _ rfl
 have e7:u3.cell? ⟨pa.block,pa.off + 9 + 7,none⟩ = some (.int .i64 y7):=ce.cs 6 _ rfl
 have e8:u3.cell? ⟨pa.block,pa.off + 9 + 8,none⟩ = some (.slice yp yn yc):=ce.cs 7 _ rfl
 clear ce
 replace q3:=Lib.hid (q3.out u3 h3)
 have f3':=Lib.hid f3
 clear q2 h3 f3
 go_wp2_with fail
 refine q3.out.mono ?_
 rintro e u4 ⟨rfl,h4,f4⟩
 have h4':=Lib.hid h4
 have f4':=Lib.hid f4
 clear q3 h4 f4
 go_wp2
 go_end0
 exact ⟨rfl,by rw [← hXX.out];have:=h4'.out;simp only [List.append_assoc] at this ⊢;exact this,f1'.out.trans (f2'.out.trans (f3'.out.trans f4'.out))⟩
end Go.Proofs.YtpjhokdehcpjbaaGreatDoor
