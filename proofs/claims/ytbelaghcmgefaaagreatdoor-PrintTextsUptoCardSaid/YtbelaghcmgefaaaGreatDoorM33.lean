/-
  WHAT IS PROVED HERE: a part of the proof (made narrower and merged by program; the parts: Pi3).
-/
import Derived.Test.YtbelaghcmgefaaaGreatDoorRows
import Derived.WalkKit
import Derived.Lib.Hide
import Derived.WalkSpells
import Derived.WalkLawsBesides
import Derived.Test.YtbelaghcmgefaaaGreatDoorM31
namespace Go.Proofs.YtbelaghcmgefaaaGreatDoor
open Go.RowKit
set_option maxHeartbeats 2000000 in
set_option maxRecDepth 100000 in
theorem wr_stmt_set (w0:World) (b m1 m2:Nat) (e1 e2:Array MapEntry) (d:Nat) (hd:d ≤ 500) (hd0 nm0:ByteArray) (op lw lh ll:Int) (hd9 nm:ByteArray) (hi lo:Int) (ap:Option Addr) (an ac:Nat) (tp:Option Addr) (tn tc:Nat) (lp:Option Addr) (ln lc:Nat) (ST:List UInt8) (hS:Wc w0 b m1 m2 e1 e2 123 #[.pointer (some ⟨b,0,none⟩),.agg #[.int .u8 1,.string hd0,.string nm0,.int .u8 op,.int .i64 lw,.int .u64 lh,.int .u64 ll,.string hd9,.string nm,.int .i64 hi,.int .i64 lo,.slice ap an ac,.slice tp tn tc,.slice lp ln lc]] ST (d:Int) (d:Int)):Wm w0 b m1 m2 e1 e2 74 (.agg #[.int .u8 1,.string hd0,.string nm0,.int .u8 op,.int .i64 lw,.int .u64 lh,.int .u64 ll,.string hd9,.string nm,.int .i64 hi,.int .i64 lo,.slice ap an ac,.slice tp tn tc,.slice lp ln lc]) (ST) (d:Int):=by
 intro t v h hlen
 obtain ⟨XX,hXX⟩:∃ XX,t++(ST) = XX:=⟨_,rfl⟩
 rw [hXX]
 replace hXX:=Lib.hid hXX
 try simp only [List.length_append] at hlen
 have h0:=h.alloc (.cells #[.int .u8 1,.string hd0,.string nm0,.int .u8 op,.int .i64 lw,.int .u64 lh,.int .u64 ll,.string hd9,.string nm,.int .i64 hi,.int .i64 lo,.slice ap an ac,.slice tp tn tc,.slice lp ln lc] 92)
 have f0':=Lib.hid (Fr.alloc b v (.cells #[.int .u8 1,.string hd0,.string nm0,.int .u8 op,.int .i64 lw,.int .u64 lh,.int .u64 ll,.string hd9,.string nm,.int .i64 hi,.int .i64 lo,.slice ap an ac,.slice tp tn tc,.slice lp ln lc] 92))
 have hne:=Lib.hid (show v.heap.size ≠ b by have:=h.lt;omega)
 have hb0:=Lib.hid (show (v.alloc (.cells #[.int .u8 1,.string hd0,.string nm0,.int .u8 op,.int .i64 lw,.int .u64 lh,.int .u64 ll,.string hd9,.string nm,.int .i64 hi,.int .i64 lo,.slice ap an ac,.slice tp tn tc,.slice lp ln lc] 92)).heap[v.heap.size]? = some (.cells #[.int .u8 1,.string hd0,.string nm0,.int .u8 op,.int .i64 lw,.int .u64 lh,.int .u64 ll,.string hd9,.string nm,.int .i64 hi,.int .i64 lo,.slice ap an ac,.slice tp tn tc,.slice lp ln lc] 92) from alloc_new v _)
 have es0:(v.alloc (.cells #[.int .u8 1,.string hd0,.string nm0,.int .u8 op,.int .i64 lw,.int .u64 lh,.int .u64 ll,.string hd9,.string nm,.int .i64 hi,.int .i64 lo,.slice ap an ac,.slice tp tn tc,.slice lp ln lc] 92)).heap.size = v.heap.size + 1:=by simp
 have q1:=(hS) _ (v.alloc (.cells #[.int .u8 1,.string hd0,.string nm0,.int .u8 op,.int .i64 lw,.int .u64 lh,.int .u64 ll,.string hd9,.string nm,.int .i64 hi,.int .i64 lo,.slice ap an ac,.slice tp tn tc,.slice lp ln lc] 92)) h0 (by (try simp only [List.length_append]);omega)
 replace q1:=Lib.hid q1
 have hd9:=hd
 clear h hlen h0 hd hd9 es0 hS
 go_enter Tryz.func74,Tryz.ntmps74
 go_wp2_with fail
 refine q1.out.mono ?_
 rintro e u1 ⟨rfl,h1,f1⟩
 have h1':=Lib.hid h1
 have f1':=Lib.hid f1
 clear h1 f1 q1
 go_wp2
 go_end0
 exact ⟨rfl,by rw [← hXX.out];have:=h1'.out;(try simp only [List.append_assoc] at this ⊢);exact this,f0'.out.trans (f1'.out)⟩
set_option maxHeartbeats 2000000 in
set_option maxRecDepth 100000 in
theorem wr_stmt_if (w0:World) (b m1 m2:Nat) (e1 e2:Array MapEntry) (d:Nat) (hd:d ≤ 500) (hd0 nm0:ByteArray) (op lw lh ll:Int) (hd9 nm:ByteArray) (hi lo:Int) (ap:Option Addr) (an ac:Nat) (tp:Option Addr) (tn tc:Nat) (lp:Option Addr) (ln lc:Nat) (ST:List UInt8) (hS:Wc w0 b m1 m2 e1 e2 124 #[.pointer (some ⟨b,0,none⟩),.agg #[.int .u8 2,.string hd0,.string nm0,.int .u8 op,.int .i64 lw,.int .u64 lh,.int .u64 ll,.string hd9,.string nm,.int .i64 hi,.int .i64 lo,.slice ap an ac,.slice tp tn tc,.slice lp ln lc]] ST (d:Int) (d:Int)):Wm w0 b m1 m2 e1 e2 74 (.agg #[.int .u8 2,.string hd0,.string nm0,.int .u8 op,.int .i64 lw,.int .u64 lh,.int .u64 ll,.string hd9,.string nm,.int .i64 hi,.int .i64 lo,.slice ap an ac,.slice tp tn tc,.slice lp ln lc]) (ST) (d:Int):=by
 intro t v h hlen
 obtain ⟨XX,hXX⟩:∃ XX,t++(ST) = XX:=⟨_,rfl⟩
 rw [hXX]
 replace hXX:=Lib.hid hXX
 try simp only [List.length_append] at hlen
 have h0:=h.alloc (.cells #[.int .u8 2,.string hd0,.string nm0,.int .u8 op,.int .i64 lw,.int .u64 lh,.int .u64 ll,.string hd9,.string nm,.int .i64 hi,.int .i64 lo,.slice ap an ac,.slice tp tn tc,.slice lp ln lc] 92)
 have f0':=Lib.hid (Fr.alloc b v (.cells #[.int .u8 2,.string hd0,.string nm0,.int .u8 op,.int .i64 lw,.int .u64 lh,.int .u64 ll,.string hd9,.string nm,.int .i64 hi,.int .i64 lo,.slice ap an ac,.slice tp tn tc,.slice lp ln lc] 92))
 have hne:=Lib.hid (show v.heap.size ≠ b by have:=h.lt;omega)
 have hb0:=Lib.hid (show (v.alloc (.cells #[.int .u8 2,.string hd0,.string nm0,.int .u8 op,.int .i64 lw,.int .u64 lh,.int .u64 ll,.string hd9,.string nm,.int .i64 hi,.int .i64 lo,.slice ap an ac,.slice tp tn tc,.slice lp ln lc] 92)).heap[v.heap.size]? = some (.cells #[.int .u8 2,.string hd0,.string nm0,.int .u8 op,.int .i64 lw,.int .u64 lh,.int .u64 ll,.string hd9,.string nm,.int .i64 hi,.int .i64 lo,.slice ap an ac,.slice tp tn tc,.slice lp ln lc] 92) from alloc_new v _)
 have es0:(v.alloc (.cells #[.int .u8 2,.string hd0,.string nm0,.int .u8 op,.int .i64 lw,.int .u64 lh,.int .u64 ll,.string hd9,.string nm,.int .i64 hi,.int .i64 lo,.slice ap an ac,.slice tp tn tc,.slice lp ln lc] 92)).heap.size = v.heap.size + 1:=by simp
 have q1:=(hS) _ (v.alloc (.cells #[.int .u8 2,.string hd0,.string nm0,.int .u8 op,.int .i64 lw,.int .u64 lh,.int .u64 ll,.string hd9,.string nm,.int .i64 hi,.int .i64 lo,.slice ap an ac,.slice tp tn tc,.slice lp ln lc] 92)) h0 (by (try simp only [List.length_append]);omega)
 replace q1:=Lib.hid q1
 have hd9:=hd
 clear h hlen h0 hd hd9 es0 hS
 go_enter Tryz.func74,Tryz.ntmps74
 go_wp2_with fail
 refine q1.out.mono ?_
 rintro e u1 ⟨rfl,h1,f1⟩
 have h1':=Lib.hid h1
 have f1':=Lib.hid f1
 clear h1 f1 q1
 go_wp2
 go_end0
 exact ⟨rfl,by rw [← hXX.out];have:=h1'.out;(try simp only [List.append_assoc] at this ⊢);exact this,f0'.out.trans (f1'.out)⟩
set_option maxHeartbeats 2000000 in
set_option maxRecDepth 100000 in
theorem wr_stmt_apply (w0:World) (b m1 m2:Nat) (e1 e2:Array MapEntry) (d:Nat) (hd:d ≤ 500) (hd0 nm0:ByteArray) (op lw lh ll:Int) (hd9 nm:ByteArray) (hi lo:Int) (ap:Option Addr) (an ac:Nat) (tp:Option Addr) (tn tc:Nat) (lp:Option Addr) (ln lc:Nat) :Wm w0 b m1 m2 e1 e2 74 (.agg #[.int .u8 3,.string hd0,.string nm0,.int .u8 op,.int .i64 lw,.int .u64 lh,.int .u64 ll,.string hd9,.string nm,.int .i64 hi,.int .i64 lo,.slice ap an ac,.slice tp tn tc,.slice lp ln lc]) (padB d++([97,112,112,108,121,32]++(nm0.data.toList++([59]++([10]))))) (d:Int):=by
 intro t v h hlen
 obtain ⟨XX,hXX⟩:∃ XX,t++(padB d++([97,112,112,108,121,32]++(nm0.data.toList++([59]++([10]))))) = XX:=⟨_,rfl⟩
 rw [hXX]
 replace hXX:=Lib.hid hXX
 try simp only [List.length_append] at hlen
 have h0:=h.alloc (.cells #[.int .u8 3,.string hd0,.string nm0,.int .u8 op,.int .i64 lw,.int .u64 lh,.int .u64 ll,.string hd9,.string nm,.int .i64 hi,.int .i64 lo,.slice ap an ac,.slice tp tn tc,.slice lp ln lc] 92)
 have f0':=Lib.hid (Fr.alloc b v (.cells #[.int .u8 3,.string hd0,.string nm0,.int .u8 op,.int .i64 lw,.int .u64 lh,.int .u64 ll,.string hd9,.string nm,.int .i64 hi,.int .i64 lo,.slice ap an ac,.slice tp tn tc,.slice lp ln lc] 92))
 have hne:=Lib.hid (show v.heap.size ≠ b by have:=h.lt;omega)
 have hb0:=Lib.hid (show (v.alloc (.cells #[.int .u8 3,.string hd0,.string nm0,.int .u8 op,.int .i64 lw,.int .u64 lh,.int .u64 ll,.string hd9,.string nm,.int .i64 hi,.int .i64 lo,.slice ap an ac,.slice tp tn tc,.slice lp ln lc] 92)).heap[v.heap.size]? = some (.cells #[.int .u8 3,.string hd0,.string nm0,.int .u8 op,.int .i64 lw,.int .u64 lh,.int .u64 ll,.string hd9,.string nm,.int .i64 hi,.int .i64 lo,.slice ap an ac,.slice tp tn tc,.slice lp ln lc] 92) from alloc_new v _)
 have es0:(v.alloc (.cells #[.int .u8 3,.string hd0,.string nm0,.int .u8 op,.int .i64 lw,.int .u64 lh,.int .u64 ll,.string hd9,.string nm,.int .i64 hi,.int .i64 lo,.slice ap an ac,.slice tp tn tc,.slice lp ln lc] 92)).heap.size = v.heap.size + 1:=by simp
 have q1:=(@line_at w0 b m1 m2 e1 e2 d (by omega) [⟨#[97,112,112,108,121,32]⟩,nm0,⟨#[59]⟩] ([97,112,112,108,121,32]++(nm0.data.toList++([59]++([10])))) (by simp) (by simp [catB])) _ (v.alloc (.cells #[.int .u8 3,.string hd0,.string nm0,.int .u8 op,.int .i64 lw,.int .u64 lh,.int .u64 ll,.string hd9,.string nm,.int .i64 hi,.int .i64 lo,.slice ap an ac,.slice tp tn tc,.slice lp ln lc] 92)) h0 (by (try simp only [List.length_append]);omega)
 rw [es0] at q1
 replace q1:=Lib.hid q1
 have hd9:=hd
 clear h hlen h0 hd hd9 es0 
 go_enter Tryz.func74,Tryz.ntmps74
 go_wp2_with fail
 refine q1.out.mono ?_
 rintro e u1 ⟨rfl,h1,f1⟩
 have h1':=Lib.hid h1
 have f1':=Lib.hid f1
 clear h1 f1 q1
 go_wp2
 go_end0
 exact ⟨rfl,by rw [← hXX.out];have:=h1'.out;(try simp only [List.append_assoc] at this ⊢);exact this,f0'.out.trans (f1'.out)⟩
set_option maxHeartbeats 2000000 in
set_option maxRecDepth 100000 in
theorem wr_stmt_drop (w0:World) (b m1 m2:Nat) (e1 e2:Array MapEntry) (d:Nat) (hd:d ≤ 500) (hd0 nm0:ByteArray) (op lw lh ll:Int) (hd9 nm:ByteArray) (hi lo:Int) (ap:Option Addr) (an ac:Nat) (tp:Option Addr) (tn tc:Nat) (lp:Option Addr) (ln lc:Nat) :Wm w0 b m1 m2 e1 e2 74 (.agg #[.int .u8 4,.string hd0,.string nm0,.int .u8 op,.int .i64 lw,.int .u64 lh,.int .u64 ll,.string hd9,.string nm,.int .i64 hi,.int .i64 lo,.slice ap an ac,.slice tp tn tc,.slice lp ln lc]) (padB d++([100,114,111,112,59]++([10]))) (d:Int):=by
 intro t v h hlen
 obtain ⟨XX,hXX⟩:∃ XX,t++(padB d++([100,114,111,112,59]++([10]))) = XX:=⟨_,rfl⟩
 rw [hXX]
 replace hXX:=Lib.hid hXX
 try simp only [List.length_append] at hlen
 have h0:=h.alloc (.cells #[.int .u8 4,.string hd0,.string nm0,.int .u8 op,.int .i64 lw,.int .u64 lh,.int .u64 ll,.string hd9,.string nm,.int .i64 hi,.int .i64 lo,.slice ap an ac,.slice tp tn tc,.slice lp ln lc] 92)
 have f0':=Lib.hid (Fr.alloc b v (.cells #[.int .u8 4,.string hd0,.string nm0,.int .u8 op,.int .i64 lw,.int .u64 lh,.int .u64 ll,.string hd9,.string nm,.int .i64 hi,.int .i64 lo,.slice ap an ac,.slice tp tn tc,.slice lp ln lc] 92))
 have hne:=Lib.hid (show v.heap.size ≠ b by have:=h.lt;omega)
 have hb0:=Lib.hid (show (v.alloc (.cells #[.int .u8 4,.string hd0,.string nm0,.int .u8 op,.int .i64 lw,.int .u64 lh,.int .u64 ll,.string hd9,.string nm,.int .i64 hi,.int .i64 lo,.slice ap an ac,.slice tp tn tc,.slice lp ln lc] 92)).heap[v.heap.size]? = some (.cells #[.int .u8 4,.string hd0,.string nm0,.int .u8 op,.int .i64 lw,.int .u64 lh,.int .u64 ll,.string hd9,.string nm,.int .i64 hi,.int .i64 lo,.slice ap an ac,.slice tp tn tc,.slice lp ln lc] 92) from alloc_new v _)
 have es0:(v.alloc (.cells #[.int .u8 4,.string hd0,.string nm0,.int .u8 op,.int .i64 lw,.int .u64 lh,.int .u64 ll,.string hd9,.string nm,.int .i64 hi,.int .i64 lo,.slice ap an ac,.slice tp tn tc,.slice lp ln lc] 92)).heap.size = v.heap.size + 1:=by simp
 have q1:=(@line_at w0 b m1 m2 e1 e2 d (by omega) [⟨#[100,114,111,112,59]⟩] ([100,114,111,112,59]++([10])) (by simp) (by simp [catB])) _ (v.alloc (.cells #[.int .u8 4,.string hd0,.string nm0,.int .u8 op,.int .i64 lw,.int .u64 lh,.int .u64 ll,.string hd9,.string nm,.int .i64 hi,.int .i64 lo,.slice ap an ac,.slice tp tn tc,.slice lp ln lc] 92)) h0 (by (try simp only [List.length_append]);omega)
 rw [es0] at q1
 replace q1:=Lib.hid q1
 have hd9:=hd
 clear h hlen h0 hd hd9 es0 
 go_enter Tryz.func74,Tryz.ntmps74
 go_wp2_with fail
 refine q1.out.mono ?_
 rintro e u1 ⟨rfl,h1,f1⟩
 have h1':=Lib.hid h1
 have f1':=Lib.hid f1
 clear h1 f1 q1
 go_wp2
 go_end0
 exact ⟨rfl,by rw [← hXX.out];have:=h1'.out;(try simp only [List.append_assoc] at this ⊢);exact this,f0'.out.trans (f1'.out)⟩
set_option maxHeartbeats 2000000 in
set_option maxRecDepth 100000 in
theorem wr_stmt_forward (w0:World) (b m1 m2:Nat) (e1 e2:Array MapEntry) (d:Nat) (hd:d ≤ 500) (hd0 nm0:ByteArray) (op lw lh ll:Int) (hd9 nm:ByteArray) (hi lo:Int) (ap:Option Addr) (an ac:Nat) (tp:Option Addr) (tn tc:Nat) (lp:Option Addr) (ln lc:Nat) (ET:List UInt8) (hE:Wc w0 b m1 m2 e1 e2 22 #[.pointer (some ⟨b,0,none⟩),.agg #[.int .u8 op,.int .i64 lw,.int .u64 lh,.int .u64 ll,.string hd9,.string nm,.int .i64 hi,.int .i64 lo,.slice ap an ac]] ET (d:Int) (d:Int)):Wm w0 b m1 m2 e1 e2 74 (.agg #[.int .u8 5,.string hd0,.string nm0,.int .u8 op,.int .i64 lw,.int .u64 lh,.int .u64 ll,.string hd9,.string nm,.int .i64 hi,.int .i64 lo,.slice ap an ac,.slice tp tn tc,.slice lp ln lc]) ((padB d++([102,111,114,119,97,114,100,40]))++((ET)++([41,59,10]))) (d:Int):=by
 intro t v h hlen
 obtain ⟨XX,hXX⟩:∃ XX,t++((padB d++([102,111,114,119,97,114,100,40]))++((ET)++([41,59,10]))) = XX:=⟨_,rfl⟩
 rw [hXX]
 replace hXX:=Lib.hid hXX
 try simp only [List.length_append] at hlen
 have h0:=h.alloc (.cells #[.int .u8 5,.string hd0,.string nm0,.int .u8 op,.int .i64 lw,.int .u64 lh,.int .u64 ll,.string hd9,.string nm,.int .i64 hi,.int .i64 lo,.slice ap an ac,.slice tp tn tc,.slice lp ln lc] 92)
 have f0':=Lib.hid (Fr.alloc b v (.cells #[.int .u8 5,.string hd0,.string nm0,.int .u8 op,.int .i64 lw,.int .u64 lh,.int .u64 ll,.string hd9,.string nm,.int .i64 hi,.int .i64 lo,.slice ap an ac,.slice tp tn tc,.slice lp ln lc] 92))
 have hne:=Lib.hid (show v.heap.size ≠ b by have:=h.lt;omega)
 have hb0:=Lib.hid (show (v.alloc (.cells #[.int .u8 5,.string hd0,.string nm0,.int .u8 op,.int .i64 lw,.int .u64 lh,.int .u64 ll,.string hd9,.string nm,.int .i64 hi,.int .i64 lo,.slice ap an ac,.slice tp tn tc,.slice lp ln lc] 92)).heap[v.heap.size]? = some (.cells #[.int .u8 5,.string hd0,.string nm0,.int .u8 op,.int .i64 lw,.int .u64 lh,.int .u64 ll,.string hd9,.string nm,.int .i64 hi,.int .i64 lo,.slice ap an ac,.slice tp tn tc,.slice lp ln lc] 92) from alloc_new v _)
 have es0:(v.alloc (.cells #[.int .u8 5,.string hd0,.string nm0,.int .u8 op,.int .i64 lw,.int .u64 lh,.int .u64 ll,.string hd9,.string nm,.int .i64 hi,.int .i64 lo,.slice ap an ac,.slice tp tn tc,.slice lp ln lc] 92)).heap.size = v.heap.size + 1:=by simp
 have q1:=(@begin_at w0 b m1 m2 e1 e2 d (by omega) [⟨#[102,111,114,119,97,114,100,40]⟩] ([102,111,114,119,97,114,100,40]) (by simp) (by simp [catB])) _ (v.alloc (.cells #[.int .u8 5,.string hd0,.string nm0,.int .u8 op,.int .i64 lw,.int .u64 lh,.int .u64 ll,.string hd9,.string nm,.int .i64 hi,.int .i64 lo,.slice ap an ac,.slice tp tn tc,.slice lp ln lc] 92)) h0 (by (try simp only [List.length_append]);omega)
 have q2:=Lib.hid (fun u (hu:Wr w0 b m1 m2 e1 e2 (t++(padB d++([102,111,114,119,97,114,100,40]))) (d:Int) u)=>(hE) _ u hu (by (try simp only [List.length_append]);omega))
 have q3:=Lib.hid (fun u (hu:Wr w0 b m1 m2 e1 e2 (t++(padB d++([102,111,114,119,97,114,100,40]))++(ET)) (d:Int) u)=>(@put_at w0 b m1 m2 e1 e2 (d:Int) [⟨#[41,59,10]⟩] ([41,59,10]) (by simp) (by simp [catB])) _ u hu (by (try simp only [List.length_append]);omega))
 rw [es0] at q1
 replace q1:=Lib.hid q1
 have hd9:=hd
 clear h hlen h0 hd hd9 es0 hE
 go_enter Tryz.func74,Tryz.ntmps74
 go_wp2_with fail
 refine q1.out.mono ?_
 rintro e u1 ⟨rfl,h1,f1⟩
 have hb1:=Lib.hid (f1.box hb0.out hne.out (show ¬ (92:TypeId) = 5 by decide))
 have y0:u1.cell? ⟨v.heap.size,0,none⟩ = some (.int .u8 5):=ch hb1.out
 have y1:u1.cell? ⟨v.heap.size,1,none⟩ = some (.string hd0):=ch hb1.out
 have y2:u1.cell? ⟨v.heap.size,2,none⟩ = some (.string nm0):=ch hb1.out
 have y3:u1.cell? ⟨v.heap.size,3,none⟩ = some (.int .u8 op):=ch hb1.out
 have y4:u1.cell? ⟨v.heap.size,4,none⟩ = some (.int .i64 lw):=ch hb1.out
 have y5:u1.cell? ⟨v.heap.size,5,none⟩ = some (.int .u64 lh):=ch hb1.out
 have y6:u1.cell? ⟨v.heap.size,6,none⟩ = some (.int .u64 ll):=ch hb1.out
 have y7:u1.cell? ⟨v.heap.size,7,none⟩ = some (.string hd9):=ch hb1.out
 have y8:u1.cell? ⟨v.heap.size,8,none⟩ = some (.string nm):=ch hb1.out
 have y9:u1.cell? ⟨v.heap.size,9,none⟩ = some (.int .i64 hi):=ch hb1.out
 have y10:u1.cell? ⟨v.heap.size,10,none⟩ = some (.int .i64 lo):=ch hb1.out
 have y11:u1.cell? ⟨v.heap.size,11,none⟩ = some (.slice ap an ac):=ch hb1.out
 have y12:u1.cell? ⟨v.heap.size,12,none⟩ = some (.slice tp tn tc):=ch hb1.out
 have y13:u1.cell? ⟨v.heap.size,13,none⟩ = some (.slice lp ln lc):=ch hb1.out
 replace q2:=Lib.hid (q2.out u1 h1)
 have f1':=Lib.hid f1
 clear h1 f1 q1
 go_wp2_with fail
 refine q2.out.mono ?_
 rintro e u2 ⟨rfl,h2,f2⟩
 have hb2:=Lib.hid (f2.box hb1.out hne.out (show ¬ (92:TypeId) = 5 by decide))
 have y0:u2.cell? ⟨v.heap.size,0,none⟩ = some (.int .u8 5):=ch hb2.out
 have y1:u2.cell? ⟨v.heap.size,1,none⟩ = some (.string hd0):=ch hb2.out
 have y2:u2.cell? ⟨v.heap.size,2,none⟩ = some (.string nm0):=ch hb2.out
 have y3:u2.cell? ⟨v.heap.size,3,none⟩ = some (.int .u8 op):=ch hb2.out
 have y4:u2.cell? ⟨v.heap.size,4,none⟩ = some (.int .i64 lw):=ch hb2.out
 have y5:u2.cell? ⟨v.heap.size,5,none⟩ = some (.int .u64 lh):=ch hb2.out
 have y6:u2.cell? ⟨v.heap.size,6,none⟩ = some (.int .u64 ll):=ch hb2.out
 have y7:u2.cell? ⟨v.heap.size,7,none⟩ = some (.string hd9):=ch hb2.out
 have y8:u2.cell? ⟨v.heap.size,8,none⟩ = some (.string nm):=ch hb2.out
 have y9:u2.cell? ⟨v.heap.size,9,none⟩ = some (.int .i64 hi):=ch hb2.out
 have y10:u2.cell? ⟨v.heap.size,10,none⟩ = some (.int .i64 lo):=ch hb2.out
 have y11:u2.cell? ⟨v.heap.size,11,none⟩ = some (.slice ap an ac):=ch hb2.out
 have y12:u2.cell? ⟨v.heap.size,12,none⟩ = some (.slice tp tn tc):=ch hb2.out
 have y13:u2.cell? ⟨v.heap.size,13,none⟩ = some (.slice lp ln lc):=ch hb2.out
 replace q3:=Lib.hid (q3.out u2 h2)
 have f2':=Lib.hid f2
 clear h2 f2 q2
 go_wp2_with fail
 refine q3.out.mono ?_
 rintro e u3 ⟨rfl,h3,f3⟩
 have h3':=Lib.hid h3
 have f3':=Lib.hid f3
 clear h3 f3 q3
 go_wp2
 go_end0
 exact ⟨rfl,by rw [← hXX.out];have:=h3'.out;(try simp only [List.append_assoc] at this ⊢);exact this,f0'.out.trans (f1'.out.trans (f2'.out.trans (f3'.out)))⟩
set_option maxHeartbeats 2000000 in
set_option maxRecDepth 100000 in
theorem wr_stmt_valid (w0:World) (b m1 m2:Nat) (e1 e2:Array MapEntry) (d:Nat) (hd:d ≤ 500) (hd0 nm0:ByteArray) (op lw lh ll:Int) (hd9 nm:ByteArray) (hi lo:Int) (ap:Option Addr) (an ac:Nat) (tp:Option Addr) (tn tc:Nat) (lp:Option Addr) (ln lc:Nat) :Wm w0 b m1 m2 e1 e2 74 (.agg #[.int .u8 6,.string hd0,.string nm0,.int .u8 op,.int .i64 lw,.int .u64 lh,.int .u64 ll,.string hd9,.string nm,.int .i64 hi,.int .i64 lo,.slice ap an ac,.slice tp tn tc,.slice lp ln lc]) (padB d++([118,97,108,105,100,32]++(hd0.data.toList++([59]++([10]))))) (d:Int):=by
 intro t v h hlen
 obtain ⟨XX,hXX⟩:∃ XX,t++(padB d++([118,97,108,105,100,32]++(hd0.data.toList++([59]++([10]))))) = XX:=⟨_,rfl⟩
 rw [hXX]
 replace hXX:=Lib.hid hXX
 try simp only [List.length_append] at hlen
 have h0:=h.alloc (.cells #[.int .u8 6,.string hd0,.string nm0,.int .u8 op,.int .i64 lw,.int .u64 lh,.int .u64 ll,.string hd9,.string nm,.int .i64 hi,.int .i64 lo,.slice ap an ac,.slice tp tn tc,.slice lp ln lc] 92)
 have f0':=Lib.hid (Fr.alloc b v (.cells #[.int .u8 6,.string hd0,.string nm0,.int .u8 op,.int .i64 lw,.int .u64 lh,.int .u64 ll,.string hd9,.string nm,.int .i64 hi,.int .i64 lo,.slice ap an ac,.slice tp tn tc,.slice lp ln lc] 92))
 have hne:=Lib.hid (show v.heap.size ≠ b by have:=h.lt;omega)
 have hb0:=Lib.hid (show (v.alloc (.cells #[.int .u8 6,.string hd0,.string nm0,.int .u8 op,.int .i64 lw,.int .u64 lh,.int .u64 ll,.string hd9,.string nm,.int .i64 hi,.int .i64 lo,.slice ap an ac,.slice tp tn tc,.slice lp ln lc] 92)).heap[v.heap.size]? = some (.cells #[.int .u8 6,.string hd0,.string nm0,.int .u8 op,.int .i64 lw,.int .u64 lh,.int .u64 ll,.string hd9,.string nm,.int .i64 hi,.int .i64 lo,.slice ap an ac,.slice tp tn tc,.slice lp ln lc] 92) from alloc_new v _)
 have es0:(v.alloc (.cells #[.int .u8 6,.string hd0,.string nm0,.int .u8 op,.int .i64 lw,.int .u64 lh,.int .u64 ll,.string hd9,.string nm,.int .i64 hi,.int .i64 lo,.slice ap an ac,.slice tp tn tc,.slice lp ln lc] 92)).heap.size = v.heap.size + 1:=by simp
 have q1:=(@line_at w0 b m1 m2 e1 e2 d (by omega) [⟨#[118,97,108,105,100,32]⟩,hd0,⟨#[59]⟩] ([118,97,108,105,100,32]++(hd0.data.toList++([59]++([10])))) (by simp) (by simp [catB])) _ (v.alloc (.cells #[.int .u8 6,.string hd0,.string nm0,.int .u8 op,.int .i64 lw,.int .u64 lh,.int .u64 ll,.string hd9,.string nm,.int .i64 hi,.int .i64 lo,.slice ap an ac,.slice tp tn tc,.slice lp ln lc] 92)) h0 (by (try simp only [List.length_append]);omega)
 rw [es0] at q1
 replace q1:=Lib.hid q1
 have hd9:=hd
 clear h hlen h0 hd hd9 es0 
 go_enter Tryz.func74,Tryz.ntmps74
 go_wp2_with fail
 refine q1.out.mono ?_
 rintro e u1 ⟨rfl,h1,f1⟩
 have h1':=Lib.hid h1
 have f1':=Lib.hid f1
 clear h1 f1 q1
 go_wp2
 go_end0
 exact ⟨rfl,by rw [← hXX.out];have:=h1'.out;(try simp only [List.append_assoc] at this ⊢);exact this,f0'.out.trans (f1'.out)⟩
set_option maxHeartbeats 2000000 in
set_option maxRecDepth 100000 in
theorem wr_stmt_invalid (w0:World) (b m1 m2:Nat) (e1 e2:Array MapEntry) (d:Nat) (hd:d ≤ 500) (hd0 nm0:ByteArray) (op lw lh ll:Int) (hd9 nm:ByteArray) (hi lo:Int) (ap:Option Addr) (an ac:Nat) (tp:Option Addr) (tn tc:Nat) (lp:Option Addr) (ln lc:Nat) :Wm w0 b m1 m2 e1 e2 74 (.agg #[.int .u8 7,.string hd0,.string nm0,.int .u8 op,.int .i64 lw,.int .u64 lh,.int .u64 ll,.string hd9,.string nm,.int .i64 hi,.int .i64 lo,.slice ap an ac,.slice tp tn tc,.slice lp ln lc]) (padB d++([105,110,118,97,108,105,100,32]++(hd0.data.toList++([59]++([10]))))) (d:Int):=by
 intro t v h hlen
 obtain ⟨XX,hXX⟩:∃ XX,t++(padB d++([105,110,118,97,108,105,100,32]++(hd0.data.toList++([59]++([10]))))) = XX:=⟨_,rfl⟩
 rw [hXX]
 replace hXX:=Lib.hid hXX
 try simp only [List.length_append] at hlen
 have h0:=h.alloc (.cells #[.int .u8 7,.string hd0,.string nm0,.int .u8 op,.int .i64 lw,.int .u64 lh,.int .u64 ll,.string hd9,.string nm,.int .i64 hi,.int .i64 lo,.slice ap an ac,.slice tp tn tc,.slice lp ln lc] 92)
 have f0':=Lib.hid (Fr.alloc b v (.cells #[.int .u8 7,.string hd0,.string nm0,.int .u8 op,.int .i64 lw,.int .u64 lh,.int .u64 ll,.string hd9,.string nm,.int .i64 hi,.int .i64 lo,.slice ap an ac,.slice tp tn tc,.slice lp ln lc] 92))
 have hne:=Lib.hid (show v.heap.size ≠ b by have:=h.lt;omega)
 have hb0:=Lib.hid (show (v.alloc (.cells #[.int .u8 7,.string hd0,.string nm0,.int .u8 op,.int .i64 lw,.int .u64 lh,.int .u64 ll,.string hd9,.string nm,.int .i64 hi,.int .i64 lo,.slice ap an ac,.slice tp tn tc,.slice lp ln lc] 92)).heap[v.heap.size]? = some (.cells #[.int .u8 7,.string hd0,.string nm0,.int .u8 op,.int .i64 lw,.int .u64 lh,.int .u64 ll,.string hd9,.string nm,.int .i64 hi,.int .i64 lo,.slice ap an ac,.slice tp tn tc,.slice lp ln lc] 92) from alloc_new v _)
 have es0:(v.alloc (.cells #[.int .u8 7,.string hd0,.string nm0,.int .u8 op,.int .i64 lw,.int .u64 lh,.int .u64 ll,.string hd9,.string nm,.int .i64 hi,.int .i64 lo,.slice ap an ac,.slice tp tn tc,.slice lp ln lc] 92)).heap.size = v.heap.size + 1:=by simp
 have q1:=(@line_at w0 b m1 m2 e1 e2 d (by omega) [⟨#[105,110,118,97,108,105,100,32]⟩,hd0,⟨#[59]⟩] ([105,110,118,97,108,105,100,32]++(hd0.data.toList++([59]++([10])))) (by simp) (by simp [catB])) _ (v.alloc (.cells #[.int .u8 7,.string hd0,.string nm0,.int .u8 op,.int .i64 lw,.int .u64 lh,.int .u64 ll,.string hd9,.string nm,.int .i64 hi,.int .i64 lo,.slice ap an ac,.slice tp tn tc,.slice lp ln lc] 92)) h0 (by (try simp only [List.length_append]);omega)
 rw [es0] at q1
 replace q1:=Lib.hid q1
 have hd9:=hd
 clear h hlen h0 hd hd9 es0 
 go_enter Tryz.func74,Tryz.ntmps74
 go_wp2_with fail
 refine q1.out.mono ?_
 rintro e u1 ⟨rfl,h1,f1⟩
 have h1':=Lib.hid h1
 have f1':=Lib.hid f1
 clear h1 f1 q1
 go_wp2
 go_end0
 exact ⟨rfl,by rw [← hXX.out];have:=h1'.out;(try simp only [List.append_assoc] at this ⊢);exact this,f0'.out.trans (f1'.out)⟩
set_option maxHeartbeats 2000000 in
set_option maxRecDepth 100000 in
theorem wr_assign_head (w0:World) (b m1 m2:Nat) (e1 e2:Array MapEntry) (d:Nat) (hd:d ≤ 500) (k:Int) (hd0 nm0:ByteArray) (op lw lh ll:Int) (hd9 nm:ByteArray) (hi lo:Int) (ap:Option Addr) (an ac:Nat) (tp:Option Addr) (tn tc:Nat) (lp:Option Addr) (ln lc:Nat) (ET:List UInt8) (hE:Wc w0 b m1 m2 e1 e2 22 #[.pointer (some ⟨b,0,none⟩),.agg #[.int .u8 op,.int .i64 lw,.int .u64 lh,.int .u64 ll,.string hd9,.string nm,.int .i64 hi,.int .i64 lo,.slice ap an ac]] ET (d:Int) (d:Int)) (ht:(hd0.toList == []) = false):Wm w0 b m1 m2 e1 e2 123 (.agg #[.int .u8 k,.string hd0,.string nm0,.int .u8 op,.int .i64 lw,.int .u64 lh,.int .u64 ll,.string hd9,.string nm,.int .i64 hi,.int .i64 lo,.slice ap an ac,.slice tp tn tc,.slice lp ln lc]) ((padB d++(hd0.data.toList++([46]++(nm0.data.toList++([32,61,32])))))++((ET)++([59,10]))) (d:Int):=by
 intro t v h hlen
 obtain ⟨XX,hXX⟩:∃ XX,t++((padB d++(hd0.data.toList++([46]++(nm0.data.toList++([32,61,32])))))++((ET)++([59,10]))) = XX:=⟨_,rfl⟩
 rw [hXX]
 replace hXX:=Lib.hid hXX
 try simp only [List.length_append] at hlen
 have h0:=h.alloc (.cells #[.int .u8 k,.string hd0,.string nm0,.int .u8 op,.int .i64 lw,.int .u64 lh,.int .u64 ll,.string hd9,.string nm,.int .i64 hi,.int .i64 lo,.slice ap an ac,.slice tp tn tc,.slice lp ln lc] 92)
 have f0':=Lib.hid (Fr.alloc b v (.cells #[.int .u8 k,.string hd0,.string nm0,.int .u8 op,.int .i64 lw,.int .u64 lh,.int .u64 ll,.string hd9,.string nm,.int .i64 hi,.int .i64 lo,.slice ap an ac,.slice tp tn tc,.slice lp ln lc] 92))
 have hne:=Lib.hid (show v.heap.size ≠ b by have:=h.lt;omega)
 have hb0:=Lib.hid (show (v.alloc (.cells #[.int .u8 k,.string hd0,.string nm0,.int .u8 op,.int .i64 lw,.int .u64 lh,.int .u64 ll,.string hd9,.string nm,.int .i64 hi,.int .i64 lo,.slice ap an ac,.slice tp tn tc,.slice lp ln lc] 92)).heap[v.heap.size]? = some (.cells #[.int .u8 k,.string hd0,.string nm0,.int .u8 op,.int .i64 lw,.int .u64 lh,.int .u64 ll,.string hd9,.string nm,.int .i64 hi,.int .i64 lo,.slice ap an ac,.slice tp tn tc,.slice lp ln lc] 92) from alloc_new v _)
 have es0:(v.alloc (.cells #[.int .u8 k,.string hd0,.string nm0,.int .u8 op,.int .i64 lw,.int .u64 lh,.int .u64 ll,.string hd9,.string nm,.int .i64 hi,.int .i64 lo,.slice ap an ac,.slice tp tn tc,.slice lp ln lc] 92)).heap.size = v.heap.size + 1:=by simp
 have q1:=(@begin_at w0 b m1 m2 e1 e2 d (by omega) [hd0,⟨#[46]⟩,nm0,⟨#[32,61,32]⟩] (hd0.data.toList++([46]++(nm0.data.toList++([32,61,32])))) (by simp) (by simp [catB])) _ (v.alloc (.cells #[.int .u8 k,.string hd0,.string nm0,.int .u8 op,.int .i64 lw,.int .u64 lh,.int .u64 ll,.string hd9,.string nm,.int .i64 hi,.int .i64 lo,.slice ap an ac,.slice tp tn tc,.slice lp ln lc] 92)) h0 (by (try simp only [List.length_append]);omega)
 have q2:=Lib.hid (fun u (hu:Wr w0 b m1 m2 e1 e2 (t++(padB d++(hd0.data.toList++([46]++(nm0.data.toList++([32,61,32])))))) (d:Int) u)=>(hE) _ u hu (by (try simp only [List.length_append]);omega))
 have q3:=Lib.hid (fun u (hu:Wr w0 b m1 m2 e1 e2 (t++(padB d++(hd0.data.toList++([46]++(nm0.data.toList++([32,61,32])))))++(ET)) (d:Int) u)=>(@put_at w0 b m1 m2 e1 e2 (d:Int) [⟨#[59,10]⟩] ([59,10]) (by simp) (by simp [catB])) _ u hu (by (try simp only [List.length_append]);omega))
 rw [es0] at q1
 replace q1:=Lib.hid q1
 have hd9:=hd
 clear h hlen h0 hd hd9 es0 hE
 go_enter Tryz.func123,Tryz.ntmps123
 go_wp2_with fail
 refine q1.out.mono ?_
 rintro e u1 ⟨rfl,h1,f1⟩
 have hb1:=Lib.hid (f1.box hb0.out hne.out (show ¬ (92:TypeId) = 5 by decide))
 have y0:u1.cell? ⟨v.heap.size,0,none⟩ = some (.int .u8 k):=ch hb1.out
 have y1:u1.cell? ⟨v.heap.size,1,none⟩ = some (.string hd0):=ch hb1.out
 have y2:u1.cell? ⟨v.heap.size,2,none⟩ = some (.string nm0):=ch hb1.out
 have y3:u1.cell? ⟨v.heap.size,3,none⟩ = some (.int .u8 op):=ch hb1.out
 have y4:u1.cell? ⟨v.heap.size,4,none⟩ = some (.int .i64 lw):=ch hb1.out
 have y5:u1.cell? ⟨v.heap.size,5,none⟩ = some (.int .u64 lh):=ch hb1.out
 have y6:u1.cell? ⟨v.heap.size,6,none⟩ = some (.int .u64 ll):=ch hb1.out
 have y7:u1.cell? ⟨v.heap.size,7,none⟩ = some (.string hd9):=ch hb1.out
 have y8:u1.cell? ⟨v.heap.size,8,none⟩ = some (.string nm):=ch hb1.out
 have y9:u1.cell? ⟨v.heap.size,9,none⟩ = some (.int .i64 hi):=ch hb1.out
 have y10:u1.cell? ⟨v.heap.size,10,none⟩ = some (.int .i64 lo):=ch hb1.out
 have y11:u1.cell? ⟨v.heap.size,11,none⟩ = some (.slice ap an ac):=ch hb1.out
 have y12:u1.cell? ⟨v.heap.size,12,none⟩ = some (.slice tp tn tc):=ch hb1.out
 have y13:u1.cell? ⟨v.heap.size,13,none⟩ = some (.slice lp ln lc):=ch hb1.out
 replace q2:=Lib.hid (q2.out u1 h1)
 have f1':=Lib.hid f1
 clear h1 f1 q1
 go_wp2_with fail
 refine q2.out.mono ?_
 rintro e u2 ⟨rfl,h2,f2⟩
 have hb2:=Lib.hid (f2.box hb1.out hne.out (show ¬ (92:TypeId) = 5 by decide))
 have y0:u2.cell? ⟨v.heap.size,0,none⟩ = some (.int .u8 k):=ch hb2.out
 have y1:u2.cell? ⟨v.heap.size,1,none⟩ = some (.string hd0):=ch hb2.out
 have y2:u2.cell? ⟨v.heap.size,2,none⟩ = some (.string nm0):=ch hb2.out
 have y3:u2.cell? ⟨v.heap.size,3,none⟩ = some (.int .u8 op):=ch hb2.out
 have y4:u2.cell? ⟨v.heap.size,4,none⟩ = some (.int .i64 lw):=ch hb2.out
 have y5:u2.cell? ⟨v.heap.size,5,none⟩ = some (.int .u64 lh):=ch hb2.out
 have y6:u2.cell? ⟨v.heap.size,6,none⟩ = some (.int .u64 ll):=ch hb2.out
 have y7:u2.cell? ⟨v.heap.size,7,none⟩ = some (.string hd9):=ch hb2.out
 have y8:u2.cell? ⟨v.heap.size,8,none⟩ = some (.string nm):=ch hb2.out
 have y9:u2.cell? ⟨v.heap.size,9,none⟩ = some (.int .i64 hi):=ch hb2.out
 have y10:u2.cell? ⟨v.heap.size,10,none⟩ = some (.int .i64 lo):=ch hb2.out
 have y11:u2.cell? ⟨v.heap.size,11,none⟩ = some (.slice ap an ac):=ch hb2.out
 have y12:u2.cell? ⟨v.heap.size,12,none⟩ = some (.slice tp tn tc):=ch hb2.out
 have y13:u2.cell? ⟨v.heap.size,13,none⟩ = some (.slice lp ln lc):=ch hb2.out
 replace q3:=Lib.hid (q3.out u2 h2)
 have f2':=Lib.hid f2
 clear h2 f2 q2
 go_wp2_with fail
 refine q3.out.mono ?_
 rintro e u3 ⟨rfl,h3,f3⟩
 have h3':=Lib.hid h3
 have f3':=Lib.hid f3
 clear h3 f3 q3
 go_wp2
 go_end0
 exact ⟨rfl,by rw [← hXX.out];have:=h3'.out;(try simp only [List.append_assoc] at this ⊢);exact this,f0'.out.trans (f1'.out.trans (f2'.out.trans (f3'.out)))⟩
set_option maxHeartbeats 2000000 in
set_option maxRecDepth 100000 in
theorem wr_assign_meta (w0:World) (b m1 m2:Nat) (e1 e2:Array MapEntry) (d:Nat) (hd:d ≤ 500) (k:Int) (hd0 nm0:ByteArray) (op lw lh ll:Int) (hd9 nm:ByteArray) (hi lo:Int) (ap:Option Addr) (an ac:Nat) (tp:Option Addr) (tn tc:Nat) (lp:Option Addr) (ln lc:Nat) (ET:List UInt8) (hE:Wc w0 b m1 m2 e1 e2 22 #[.pointer (some ⟨b,0,none⟩),.agg #[.int .u8 op,.int .i64 lw,.int .u64 lh,.int .u64 ll,.string hd9,.string nm,.int .i64 hi,.int .i64 lo,.slice ap an ac]] ET (d:Int) (d:Int)) (ht:(hd0.toList == []) = true):Wm w0 b m1 m2 e1 e2 123 (.agg #[.int .u8 k,.string hd0,.string nm0,.int .u8 op,.int .i64 lw,.int .u64 lh,.int .u64 ll,.string hd9,.string nm,.int .i64 hi,.int .i64 lo,.slice ap an ac,.slice tp tn tc,.slice lp ln lc]) ((padB d++([109,101,116,97]++([46]++(nm0.data.toList++([32,61,32])))))++((ET)++([59,10]))) (d:Int):=by
 intro t v h hlen
 obtain ⟨XX,hXX⟩:∃ XX,t++((padB d++([109,101,116,97]++([46]++(nm0.data.toList++([32,61,32])))))++((ET)++([59,10]))) = XX:=⟨_,rfl⟩
 rw [hXX]
 replace hXX:=Lib.hid hXX
 try simp only [List.length_append] at hlen
 have h0:=h.alloc (.cells #[.int .u8 k,.string hd0,.string nm0,.int .u8 op,.int .i64 lw,.int .u64 lh,.int .u64 ll,.string hd9,.string nm,.int .i64 hi,.int .i64 lo,.slice ap an ac,.slice tp tn tc,.slice lp ln lc] 92)
 have f0':=Lib.hid (Fr.alloc b v (.cells #[.int .u8 k,.string hd0,.string nm0,.int .u8 op,.int .i64 lw,.int .u64 lh,.int .u64 ll,.string hd9,.string nm,.int .i64 hi,.int .i64 lo,.slice ap an ac,.slice tp tn tc,.slice lp ln lc] 92))
 have hne:=Lib.hid (show v.heap.size ≠ b by have:=h.lt;omega)
 have hb0:=Lib.hid (show (v.alloc (.cells #[.int .u8 k,.string hd0,.string nm0,.int .u8 op,.int .i64 lw,.int .u64 lh,.int .u64 ll,.string hd9,.string nm,.int .i64 hi,.int .i64 lo,.slice ap an ac,.slice tp tn tc,.slice lp ln lc] 92)).heap[v.heap.size]? = some (.cells #[.int .u8 k,.string hd0,.string nm0,.int .u8 op,.int .i64 lw,.int .u64 lh,.int .u64 ll,.string hd9,.string nm,.int .i64 hi,.int .i64 lo,.slice ap an ac,.slice tp tn tc,.slice lp ln lc] 92) from alloc_new v _)
 have es0:(v.alloc (.cells #[.int .u8 k,.string hd0,.string nm0,.int .u8 op,.int .i64 lw,.int .u64 lh,.int .u64 ll,.string hd9,.string nm,.int .i64 hi,.int .i64 lo,.slice ap an ac,.slice tp tn tc,.slice lp ln lc] 92)).heap.size = v.heap.size + 1:=by simp
 have q1:=(@begin_at w0 b m1 m2 e1 e2 d (by omega) [⟨#[109,101,116,97]⟩,⟨#[46]⟩,nm0,⟨#[32,61,32]⟩] ([109,101,116,97]++([46]++(nm0.data.toList++([32,61,32])))) (by simp) (by simp [catB])) _ (v.alloc (.cells #[.int .u8 k,.string hd0,.string nm0,.int .u8 op,.int .i64 lw,.int .u64 lh,.int .u64 ll,.string hd9,.string nm,.int .i64 hi,.int .i64 lo,.slice ap an ac,.slice tp tn tc,.slice lp ln lc] 92)) h0 (by (try simp only [List.length_append]);omega)
 have q2:=Lib.hid (fun u (hu:Wr w0 b m1 m2 e1 e2 (t++(padB d++([109,101,116,97]++([46]++(nm0.data.toList++([32,61,32])))))) (d:Int) u)=>(hE) _ u hu (by (try simp only [List.length_append]);omega))
 have q3:=Lib.hid (fun u (hu:Wr w0 b m1 m2 e1 e2 (t++(padB d++([109,101,116,97]++([46]++(nm0.data.toList++([32,61,32])))))++(ET)) (d:Int) u)=>(@put_at w0 b m1 m2 e1 e2 (d:Int) [⟨#[59,10]⟩] ([59,10]) (by simp) (by simp [catB])) _ u hu (by (try simp only [List.length_append]);omega))
 rw [es0] at q1
 replace q1:=Lib.hid q1
 have hd9:=hd
 clear h hlen h0 hd hd9 es0 hE
 go_enter Tryz.func123,Tryz.ntmps123
 go_wp2_with fail
 refine q1.out.mono ?_
 rintro e u1 ⟨rfl,h1,f1⟩
 have hb1:=Lib.hid (f1.box hb0.out hne.out (show ¬ (92:TypeId) = 5 by decide))
 have y0:u1.cell? ⟨v.heap.size,0,none⟩ = some (.int .u8 k):=ch hb1.out
 have y1:u1.cell? ⟨v.heap.size,1,none⟩ = some (.string hd0):=ch hb1.out
 have y2:u1.cell? ⟨v.heap.size,2,none⟩ = some (.string nm0):=ch hb1.out
 have y3:u1.cell? ⟨v.heap.size,3,none⟩ = some (.int .u8 op):=ch hb1.out
 have y4:u1.cell? ⟨v.heap.size,4,none⟩ = some (.int .i64 lw):=ch hb1.out
 have y5:u1.cell? ⟨v.heap.size,5,none⟩ = some (.int .u64 lh):=ch hb1.out
 have y6:u1.cell? ⟨v.heap.size,6,none⟩ = some (.int .u64 ll):=ch hb1.out
 have y7:u1.cell? ⟨v.heap.size,7,none⟩ = some (.string hd9):=ch hb1.out
 have y8:u1.cell? ⟨v.heap.size,8,none⟩ = some (.string nm):=ch hb1.out
 have y9:u1.cell? ⟨v.heap.size,9,none⟩ = some (.int .i64 hi):=ch hb1.out
 have y10:u1.cell? ⟨v.heap.size,10,none⟩ = some (.int .i64 lo):=ch hb1.out
 have y11:u1.cell? ⟨v.heap.size,11,none⟩ = some (.slice ap an ac):=ch hb1.out
 have y12:u1.cell? ⟨v.heap.size,12,none⟩ = some (.slice tp tn tc):=ch hb1.out
 have y13:u1.cell? ⟨v.heap.size,13,none⟩ = some (.slice lp ln lc):=ch hb1.out
 replace q2:=Lib.hid (q2.out u1 h1)
 have f1':=Lib.hid f1
 clear h1 f1 q1
 go_wp2_with fail
 refine q2.out.mono ?_
 rintro e u2 ⟨rfl,h2,f2⟩
 have hb2:=Lib.hid (f2.box hb1.out hne.out (show ¬ (92:TypeId) = 5 by decide))
 have y0:u2.cell? ⟨v.heap.size,0,none⟩ = some (.int .u8 k):=ch hb2.out
 have y1:u2.cell? ⟨v.heap.size,1,none⟩ = some (.string hd0):=ch hb2.out
 have y2:u2.cell? ⟨v.heap.size,2,none⟩ = some (.string nm0):=ch hb2.out
 have y3:u2.cell? ⟨v.heap.size,3,none⟩ = some (.int .u8 op):=ch hb2.out
 have y4:u2.cell? ⟨v.heap.size,4,none⟩ = some (.int .i64 lw):=ch hb2.out
 have y5:u2.cell? ⟨v.heap.size,5,none⟩ = some (.int .u64 lh):=ch hb2.out
 have y6:u2.cell? ⟨v.heap.size,6,none⟩ = some (.int .u64 ll):=ch hb2.out
 have y7:u2.cell? ⟨v.heap.size,7,none⟩ = some (.string hd9):=ch hb2.out
 have y8:u2.cell? ⟨v.heap.size,8,none⟩ = some (.string nm):=ch hb2.out
 have y9:u2.cell? ⟨v.heap.size,9,none⟩ = some (.int .i64 hi):=ch hb2.out
 have y10:u2.cell? ⟨v.heap.size,10,none⟩ = some (.int .i64 lo):=ch hb2.out
 have y11:u2.cell? ⟨v.heap.size,11,none⟩ = some (.slice ap an ac):=ch hb2.out
 have y12:u2.cell? ⟨v.heap.size,12,none⟩ = some (.slice tp tn tc):=ch hb2.out
 have y13:u2.cell? ⟨v.heap.size,13,none⟩ = some (.slice lp ln lc):=ch hb2.out
 replace q3:=Lib.hid (q3.out u2 h2)
 have f2':=Lib.hid f2
 clear h2 f2 q2
 go_wp2_with fail
 refine q3.out.mono ?_
 rintro e u3 ⟨rfl,h3,f3⟩
 have h3':=Lib.hid h3
 have f3':=Lib.hid f3
 clear h3 f3 q3
 go_wp2
 go_end0
 exact ⟨rfl,by rw [← hXX.out];have:=h3'.out;(try simp only [List.append_assoc] at this ⊢);exact this,f0'.out.trans (f1'.out.trans (f2'.out.trans (f3'.out)))⟩
set_option maxHeartbeats 2000000 in
set_option maxRecDepth 100000 in
theorem wr_choice_then (w0:World) (b m1 m2:Nat) (e1 e2:Array MapEntry) (d:Nat) (hd:d ≤ 500) (k:Int) (hd0 nm0:ByteArray) (op lw lh ll:Int) (hd9 nm:ByteArray) (hi lo:Int) (ap:Option Addr) (an ac:Nat) (tp:Option Addr) (tn tc:Nat) (lp:Option Addr) (lc:Nat) (ET TT:List UInt8) (hE:Wc w0 b m1 m2 e1 e2 22 #[.pointer (some ⟨b,0,none⟩),.agg #[.int .u8 op,.int .i64 lw,.int .u64 lh,.int .u64 ll,.string hd9,.string nm,.int .i64 hi,.int .i64 lo,.slice ap an ac]] ET (d:Int) (d:Int)) (hT:Wc w0 b m1 m2 e1 e2 122 #[.slice tp tn tc,.func (.func 74) #[.pointer (some ⟨b,0,none⟩)] #[]] TT ((d + 1:Nat):Int) ((d + 1:Nat):Int)):Wm w0 b m1 m2 e1 e2 124 (.agg #[.int .u8 k,.string hd0,.string nm0,.int .u8 op,.int .i64 lw,.int .u64 lh,.int .u64 ll,.string hd9,.string nm,.int .i64 hi,.int .i64 lo,.slice ap an ac,.slice tp tn tc,.slice lp 0 lc]) ((padB d++([105,102,32,40]))++((ET)++(([41])++(([32,123,10])++((TT)++(padB d++(125 :: [10]))))))) (d:Int):=by
 intro t v h hlen
 obtain ⟨XX,hXX⟩:∃ XX,t++((padB d++([105,102,32,40]))++((ET)++(([41])++(([32,123,10])++((TT)++(padB d++(125 :: [10]))))))) = XX:=⟨_,rfl⟩
 rw [hXX]
 replace hXX:=Lib.hid hXX
 try simp only [List.length_append] at hlen
 have h0:=h.alloc (.cells #[.int .u8 k,.string hd0,.string nm0,.int .u8 op,.int .i64 lw,.int .u64 lh,.int .u64 ll,.string hd9,.string nm,.int .i64 hi,.int .i64 lo,.slice ap an ac,.slice tp tn tc,.slice lp 0 lc] 92)
 have f0':=Lib.hid (Fr.alloc b v (.cells #[.int .u8 k,.string hd0,.string nm0,.int .u8 op,.int .i64 lw,.int .u64 lh,.int .u64 ll,.string hd9,.string nm,.int .i64 hi,.int .i64 lo,.slice ap an ac,.slice tp tn tc,.slice lp 0 lc] 92))
 have hne:=Lib.hid (show v.heap.size ≠ b by have:=h.lt;omega)
 have hb0:=Lib.hid (show (v.alloc (.cells #[.int .u8 k,.string hd0,.string nm0,.int .u8 op,.int .i64 lw,.int .u64 lh,.int .u64 ll,.string hd9,.string nm,.int .i64 hi,.int .i64 lo,.slice ap an ac,.slice tp tn tc,.slice lp 0 lc] 92)).heap[v.heap.size]? = some (.cells #[.int .u8 k,.string hd0,.string nm0,.int .u8 op,.int .i64 lw,.int .u64 lh,.int .u64 ll,.string hd9,.string nm,.int .i64 hi,.int .i64 lo,.slice ap an ac,.slice tp tn tc,.slice lp 0 lc] 92) from alloc_new v _)
 have es0:(v.alloc (.cells #[.int .u8 k,.string hd0,.string nm0,.int .u8 op,.int .i64 lw,.int .u64 lh,.int .u64 ll,.string hd9,.string nm,.int .i64 hi,.int .i64 lo,.slice ap an ac,.slice tp tn tc,.slice lp 0 lc] 92)).heap.size = v.heap.size + 1:=by simp
 have q1:=(@begin_at w0 b m1 m2 e1 e2 d (by omega) [⟨#[105,102,32,40]⟩] ([105,102,32,40]) (by simp) (by simp [catB])) _ (v.alloc (.cells #[.int .u8 k,.string hd0,.string nm0,.int .u8 op,.int .i64 lw,.int .u64 lh,.int .u64 ll,.string hd9,.string nm,.int .i64 hi,.int .i64 lo,.slice ap an ac,.slice tp tn tc,.slice lp 0 lc] 92)) h0 (by (try simp only [List.length_append]);omega)
 have q2:=Lib.hid (fun u (hu:Wr w0 b m1 m2 e1 e2 (t++(padB d++([105,102,32,40]))) (d:Int) u)=>(hE) _ u hu (by (try simp only [List.length_append]);omega))
 have q3:=Lib.hid (fun u (hu:Wr w0 b m1 m2 e1 e2 (t++(padB d++([105,102,32,40]))++(ET)) (d:Int) u)=>(@put_at w0 b m1 m2 e1 e2 (d:Int) [⟨#[41]⟩] ([41]) (by simp) (by simp [catB])) _ u hu (by (try simp only [List.length_append]);omega))
 have q4:=Lib.hid (fun u (hu:Wr w0 b m1 m2 e1 e2 (t++(padB d++([105,102,32,40]))++(ET)++([41])) (d:Int) u)=>(@open_at w0 b m1 m2 e1 e2 d (by omega)) _ u hu (by (try simp only [List.length_append]);omega))
 have q5:=Lib.hid (fun u (hu:Wr w0 b m1 m2 e1 e2 (t++(padB d++([105,102,32,40]))++(ET)++([41])++([32,123,10])) ((d + 1:Nat):Int) u)=>(hT) _ u hu (by (try simp only [List.length_append]);omega))
 have q6:=Lib.hid (fun u (hu:Wr w0 b m1 m2 e1 e2 (t++(padB d++([105,102,32,40]))++(ET)++([41])++([32,123,10])++(TT)) ((d + 1:Nat):Int) u)=>(@shut_at w0 b m1 m2 e1 e2 d (by omega) ⟨#[10]⟩) _ u hu (by (try simp only [List.length_append]);omega))
 rw [es0] at q1
 replace q1:=Lib.hid q1
 have hd9:=hd
 clear h hlen h0 hd hd9 es0 hE hT
 go_enter Tryz.func124,Tryz.ntmps124
 go_wp2_with fail
 refine q1.out.mono ?_
 rintro e u1 ⟨rfl,h1,f1⟩
 have hb1:=Lib.hid (f1.box hb0.out hne.out (show ¬ (92:TypeId) = 5 by decide))
 have y0:u1.cell? ⟨v.heap.size,0,none⟩ = some (.int .u8 k):=ch hb1.out
 have y1:u1.cell? ⟨v.heap.size,1,none⟩ = some (.string hd0):=ch hb1.out
 have y2:u1.cell? ⟨v.heap.size,2,none⟩ = some (.string nm0):=ch hb1.out
 have y3:u1.cell? ⟨v.heap.size,3,none⟩ = some (.int .u8 op):=ch hb1.out
 have y4:u1.cell? ⟨v.heap.size,4,none⟩ = some (.int .i64 lw):=ch hb1.out
 have y5:u1.cell? ⟨v.heap.size,5,none⟩ = some (.int .u64 lh):=ch hb1.out
 have y6:u1.cell? ⟨v.heap.size,6,none⟩ = some (.int .u64 ll):=ch hb1.out
 have y7:u1.cell? ⟨v.heap.size,7,none⟩ = some (.string hd9):=ch hb1.out
 have y8:u1.cell? ⟨v.heap.size,8,none⟩ = some (.string nm):=ch hb1.out
 have y9:u1.cell? ⟨v.heap.size,9,none⟩ = some (.int .i64 hi):=ch hb1.out
 have y10:u1.cell? ⟨v.heap.size,10,none⟩ = some (.int .i64 lo):=ch hb1.out
 have y11:u1.cell? ⟨v.heap.size,11,none⟩ = some (.slice ap an ac):=ch hb1.out
 have y12:u1.cell? ⟨v.heap.size,12,none⟩ = some (.slice tp tn tc):=ch hb1.out
 have y13:u1.cell? ⟨v.heap.size,13,none⟩ = some (.slice lp 0 lc):=ch hb1.out
 replace q2:=Lib.hid (q2.out u1 h1)
 have f1':=Lib.hid f1
 clear h1 f1 q1
 go_wp2_with fail
 refine q2.out.mono ?_
 rintro e u2 ⟨rfl,h2,f2⟩
 have hb2:=Lib.hid (f2.box hb1.out hne.out (show ¬ (92:TypeId) = 5 by decide))
 have y0:u2.cell? ⟨v.heap.size,0,none⟩ = some (.int .u8 k):=ch hb2.out
 have y1:u2.cell? ⟨v.heap.size,1,none⟩ = some (.string hd0):=ch hb2.out
 have y2:u2.cell? ⟨v.heap.size,2,none⟩ = some (.string nm0):=ch hb2.out
 have y3:u2.cell? ⟨v.heap.size,3,none⟩ = some (.int .u8 op):=ch hb2.out
 have y4:u2.cell? ⟨v.heap.size,4,none⟩ = some (.int .i64 lw):=ch hb2.out
 have y5:u2.cell? ⟨v.heap.size,5,none⟩ = some (.int .u64 lh):=ch hb2.out
 have y6:u2.cell? ⟨v.heap.size,6,none⟩ = some (.int .u64 ll):=ch hb2.out
 have y7:u2.cell? ⟨v.heap.size,7,none⟩ = some (.string hd9):=ch hb2.out
 have y8:u2.cell? ⟨v.heap.size,8,none⟩ = some (.string nm):=ch hb2.out
 have y9:u2.cell? ⟨v.heap.size,9,none⟩ = some (.int .i64 hi):=ch hb2.out
 have y10:u2.cell? ⟨v.heap.size,10,none⟩ = some (.int .i64 lo):=ch hb2.out
 have y11:u2.cell? ⟨v.heap.size,11,none⟩ = some (.slice ap an ac):=ch hb2.out
 have y12:u2.cell? ⟨v.heap.size,12,none⟩ = some (.slice tp tn tc):=ch hb2.out
 have y13:u2.cell? ⟨v.heap.size,13,none⟩ = some (.slice lp 0 lc):=ch hb2.out
 replace q3:=Lib.hid (q3.out u2 h2)
 have f2':=Lib.hid f2
 clear h2 f2 q2
 go_wp2_with fail
 refine q3.out.mono ?_
 rintro e u3 ⟨rfl,h3,f3⟩
 have hb3:=Lib.hid (f3.box hb2.out hne.out (show ¬ (92:TypeId) = 5 by decide))
 have y0:u3.cell? ⟨v.heap.size,0,none⟩ = some (.int .u8 k):=ch hb3.out
 have y1:u3.cell? ⟨v.heap.size,1,none⟩ = some (.string hd0):=ch hb3.out
 have y2:u3.cell? ⟨v.heap.size,2,none⟩ = some (.string nm0):=ch hb3.out
 have y3:u3.cell? ⟨v.heap.size,3,none⟩ = some (.int .u8 op):=ch hb3.out
 have y4:u3.cell? ⟨v.heap.size,4,none⟩ = some (.int .i64 lw):=ch hb3.out
 have y5:u3.cell? ⟨v.heap.size,5,none⟩ = some (.int .u64 lh):=ch hb3.out
 have y6:u3.cell? ⟨v.heap.size,6,none⟩ = some (.int .u64 ll):=ch hb3.out
 have y7:u3.cell? ⟨v.heap.size,7,none⟩ = some (.string hd9):=ch hb3.out
 have y8:u3.cell? ⟨v.heap.size,8,none⟩ = some (.string nm):=ch hb3.out
 have y9:u3.cell? ⟨v.heap.size,9,none⟩ = some (.int .i64 hi):=ch hb3.out
 have y10:u3.cell? ⟨v.heap.size,10,none⟩ = some (.int .i64 lo):=ch hb3.out
 have y11:u3.cell? ⟨v.heap.size,11,none⟩ = some (.slice ap an ac):=ch hb3.out
 have y12:u3.cell? ⟨v.heap.size,12,none⟩ = some (.slice tp tn tc):=ch hb3.out
 have y13:u3.cell? ⟨v.heap.size,13,none⟩ = some (.slice lp 0 lc):=ch hb3.out
 replace q4:=Lib.hid (q4.out u3 h3)
 have f3':=Lib.hid f3
 clear h3 f3 q3
 go_wp2_with fail
 refine q4.out.mono ?_
 rintro e u4 ⟨rfl,h4,f4⟩
 have hb4:=Lib.hid (f4.box hb3.out hne.out (show ¬ (92:TypeId) = 5 by decide))
 have y0:u4.cell? ⟨v.heap.size,0,none⟩ = some (.int .u8 k):=ch hb4.out
 have y1:u4.cell? ⟨v.heap.size,1,none⟩ = some (.string hd0):=ch hb4.out
 have y2:u4.cell? ⟨v.heap.size,2,none⟩ = some (.string nm0):=ch hb4.out
 have y3:u4.cell? ⟨v.heap.size,3,none⟩ = some (.int .u8 op):=ch hb4.out
 have y4:u4.cell? ⟨v.heap.size,4,none⟩ = some (.int .i64 lw):=ch hb4.out
 have y5:u4.cell? ⟨v.heap.size,5,none⟩ = some (.int .u64 lh):=ch hb4.out
 have y6:u4.cell? ⟨v.heap.size,6,none⟩ = some (.int .u64 ll):=ch hb4.out
 have y7:u4.cell? ⟨v.heap.size,7,none⟩ = some (.string hd9):=ch hb4.out
 have y8:u4.cell? ⟨v.heap.size,8,none⟩ = some (.string nm):=ch hb4.out
 have y9:u4.cell? ⟨v.heap.size,9,none⟩ = some (.int .i64 hi):=ch hb4.out
 have y10:u4.cell? ⟨v.heap.size,10,none⟩ = some (.int .i64 lo):=ch hb4.out
 have y11:u4.cell? ⟨v.heap.size,11,none⟩ = some (.slice ap an ac):=ch hb4.out
 have y12:u4.cell? ⟨v.heap.size,12,none⟩ = some (.slice tp tn tc):=ch hb4.out
 have y13:u4.cell? ⟨v.heap.size,13,none⟩ = some (.slice lp 0 lc):=ch hb4.out
 replace q5:=Lib.hid (q5.out u4 h4)
 have f4':=Lib.hid f4
 clear h4 f4 q4
 go_wp2_with fail
 refine q5.out.mono ?_
 rintro e u5 ⟨rfl,h5,f5⟩
 have hb5:=Lib.hid (f5.box hb4.out hne.out (show ¬ (92:TypeId) = 5 by decide))
 have y0:u5.cell? ⟨v.heap.size,0,none⟩ = some (.int .u8 k):=ch hb5.out
 have y1:u5.cell? ⟨v.heap.size,1,none⟩ = some (.string hd0):=ch hb5.out
 have y2:u5.cell? ⟨v.heap.size,2,none⟩ = some (.string nm0):=ch hb5.out
 have y3:u5.cell? ⟨v.heap.size,3,none⟩ = some (.int .u8 op):=ch hb5.out
 have y4:u5.cell? ⟨v.heap.size,4,none⟩ = some (.int .i64 lw):=ch hb5.out
 have y5:u5.cell? ⟨v.heap.size,5,none⟩ = some (.int .u64 lh):=ch hb5.out
 have y6:u5.cell? ⟨v.heap.size,6,none⟩ = some (.int .u64 ll):=ch hb5.out
 have y7:u5.cell? ⟨v.heap.size,7,none⟩ = some (.string hd9):=ch hb5.out
 have y8:u5.cell? ⟨v.heap.size,8,none⟩ = some (.string nm):=ch hb5.out
 have y9:u5.cell? ⟨v.heap.size,9,none⟩ = some (.int .i64 hi):=ch hb5.out
 have y10:u5.cell? ⟨v.heap.size,10,none⟩ = some (.int .i64 lo):=ch hb5.out
 have y11:u5.cell? ⟨v.heap.size,11,none⟩ = some (.slice ap an ac):=ch hb5.out
 have y12:u5.cell? ⟨v.heap.size,12,none⟩ = some (.slice tp tn tc):=ch hb5.out
 have y13:u5.cell? ⟨v.heap.size,13,none⟩ = some (.slice lp 0 lc):=ch hb5.out
 replace q6:=Lib.hid (q6.out u5 h5)
 have f5':=Lib.hid f5
 clear h5 f5 q5
 go_wp2_with fail
 refine q6.out.mono ?_
 rintro e u6 ⟨rfl,h6,f6⟩
 have h6':=Lib.hid h6
 have f6':=Lib.hid f6
 clear h6 f6 q6
 go_wp2
 go_end0
 exact ⟨rfl,by rw [← hXX.out];have:=h6'.out;(try simp only [List.append_assoc] at this ⊢);exact this,f0'.out.trans (f1'.out.trans (f2'.out.trans (f3'.out.trans (f4'.out.trans (f5'.out.trans (f6'.out))))))⟩
set_option maxHeartbeats 2000000 in
set_option maxRecDepth 100000 in
theorem wr_choice_else (w0:World) (b m1 m2:Nat) (e1 e2:Array MapEntry) (d:Nat) (hd:d ≤ 500) (k:Int) (hd0 nm0:ByteArray) (op lw lh ll:Int) (hd9 nm:ByteArray) (hi lo:Int) (ap:Option Addr) (an ac:Nat) (tp:Option Addr) (tn tc:Nat) (lp:Option Addr) (ln lc:Nat) (ET TT LT:List UInt8) (hE:Wc w0 b m1 m2 e1 e2 22 #[.pointer (some ⟨b,0,none⟩),.agg #[.int .u8 op,.int .i64 lw,.int .u64 lh,.int .u64 ll,.string hd9,.string nm,.int .i64 hi,.int .i64 lo,.slice ap an ac]] ET (d:Int) (d:Int)) (hT:Wc w0 b m1 m2 e1 e2 122 #[.slice tp tn tc,.func (.func 74) #[.pointer (some ⟨b,0,none⟩)] #[]] TT ((d + 1:Nat):Int) ((d + 1:Nat):Int)) (hL:Wc w0 b m1 m2 e1 e2 122 #[.slice lp ln lc,.func (.func 74) #[.pointer (some ⟨b,0,none⟩)] #[]] LT ((d + 1:Nat):Int) ((d + 1:Nat):Int)) (hz:0 < ln):Wm w0 b m1 m2 e1 e2 124 (.agg #[.int .u8 k,.string hd0,.string nm0,.int .u8 op,.int .i64 lw,.int .u64 lh,.int .u64 ll,.string hd9,.string nm,.int .i64 hi,.int .i64 lo,.slice ap an ac,.slice tp tn tc,.slice lp ln lc]) ((padB d++([105,102,32,40]))++((ET)++(([41])++(([32,123,10])++((TT)++((padB d++(125 :: [32,101,108,115,101]))++(([32,123,10])++((LT)++(padB d++(125 :: [10])))))))))) (d:Int):=by
 intro t v h hlen
 obtain ⟨XX,hXX⟩:∃ XX,t++((padB d++([105,102,32,40]))++((ET)++(([41])++(([32,123,10])++((TT)++((padB d++(125 :: [32,101,108,115,101]))++(([32,123,10])++((LT)++(padB d++(125 :: [10])))))))))) = XX:=⟨_,rfl⟩
 rw [hXX]
 replace hXX:=Lib.hid hXX
 try simp only [List.length_append] at hlen
 have h0:=h.alloc (.cells #[.int .u8 k,.string hd0,.string nm0,.int .u8 op,.int .i64 lw,.int .u64 lh,.int .u64 ll,.string hd9,.string nm,.int .i64 hi,.int .i64 lo,.slice ap an ac,.slice tp tn tc,.slice lp ln lc] 92)
 have f0':=Lib.hid (Fr.alloc b v (.cells #[.int .u8 k,.string hd0,.string nm0,.int .u8 op,.int .i64 lw,.int .u64 lh,.int .u64 ll,.string hd9,.string nm,.int .i64 hi,.int .i64 lo,.slice ap an ac,.slice tp tn tc,.slice lp ln lc] 92))
 have hne:=Lib.hid (show v.heap.size ≠ b by have:=h.lt;omega)
 have hb0:=Lib.hid (show (v.alloc (.cells #[.int .u8 k,.string hd0,.string nm0,.int .u8 op,.int .i64 lw,.int .u64 lh,.int .u64 ll,.string hd9,.string nm,.int .i64 hi,.int .i64 lo,.slice ap an ac,.slice tp tn tc,.slice lp ln lc] 92)).heap[v.heap.size]? = some (.cells #[.int .u8 k,.string hd0,.string nm0,.int .u8 op,.int .i64 lw,.int .u64 lh,.int .u64 ll,.string hd9,.string nm,.int .i64 hi,.int .i64 lo,.slice ap an ac,.slice tp tn tc,.slice lp ln lc] 92) from alloc_new v _)
 have es0:(v.alloc (.cells #[.int .u8 k,.string hd0,.string nm0,.int .u8 op,.int .i64 lw,.int .u64 lh,.int .u64 ll,.string hd9,.string nm,.int .i64 hi,.int .i64 lo,.slice ap an ac,.slice tp tn tc,.slice lp ln lc] 92)).heap.size = v.heap.size + 1:=by simp
 have q1:=(@begin_at w0 b m1 m2 e1 e2 d (by omega) [⟨#[105,102,32,40]⟩] ([105,102,32,40]) (by simp) (by simp [catB])) _ (v.alloc (.cells #[.int .u8 k,.string hd0,.string nm0,.int .u8 op,.int .i64 lw,.int .u64 lh,.int .u64 ll,.string hd9,.string nm,.int .i64 hi,.int .i64 lo,.slice ap an ac,.slice tp tn tc,.slice lp ln lc] 92)) h0 (by (try simp only [List.length_append]);omega)
 have q2:=Lib.hid (fun u (hu:Wr w0 b m1 m2 e1 e2 (t++(padB d++([105,102,32,40]))) (d:Int) u)=>(hE) _ u hu (by (try simp only [List.length_append]);omega))
 have q3:=Lib.hid (fun u (hu:Wr w0 b m1 m2 e1 e2 (t++(padB d++([105,102,32,40]))++(ET)) (d:Int) u)=>(@put_at w0 b m1 m2 e1 e2 (d:Int) [⟨#[41]⟩] ([41]) (by simp) (by simp [catB])) _ u hu (by (try simp only [List.length_append]);omega))
 have q4:=Lib.hid (fun u (hu:Wr w0 b m1 m2 e1 e2 (t++(padB d++([105,102,32,40]))++(ET)++([41])) (d:Int) u)=>(@open_at w0 b m1 m2 e1 e2 d (by omega)) _ u hu (by (try simp only [List.length_append]);omega))
 have q5:=Lib.hid (fun u (hu:Wr w0 b m1 m2 e1 e2 (t++(padB d++([105,102,32,40]))++(ET)++([41])++([32,123,10])) ((d + 1:Nat):Int) u)=>(hT) _ u hu (by (try simp only [List.length_append]);omega))
 have q6:=Lib.hid (fun u (hu:Wr w0 b m1 m2 e1 e2 (t++(padB d++([105,102,32,40]))++(ET)++([41])++([32,123,10])++(TT)) ((d + 1:Nat):Int) u)=>(@shut_at w0 b m1 m2 e1 e2 d (by omega) ⟨#[32,101,108,115,101]⟩) _ u hu (by (try simp only [List.length_append]);omega))
 have q7:=Lib.hid (fun u (hu:Wr w0 b m1 m2 e1 e2 (t++(padB d++([105,102,32,40]))++(ET)++([41])++([32,123,10])++(TT)++(padB d++(125 :: [32,101,108,115,101]))) (d:Int) u)=>(@open_at w0 b m1 m2 e1 e2 d (by omega)) _ u hu (by (try simp only [List.length_append]);omega))
 have q8:=Lib.hid (fun u (hu:Wr w0 b m1 m2 e1 e2 (t++(padB d++([105,102,32,40]))++(ET)++([41])++([32,123,10])++(TT)++(padB d++(125 :: [32,101,108,115,101]))++([32,123,10])) ((d + 1:Nat):Int) u)=>(hL) _ u hu (by (try simp only [List.length_append]);omega))
 have q9:=Lib.hid (fun u (hu:Wr w0 b m1 m2 e1 e2 (t++(padB d++([105,102,32,40]))++(ET)++([41])++([32,123,10])++(TT)++(padB d++(125 :: [32,101,108,115,101]))++([32,123,10])++(LT)) ((d + 1:Nat):Int) u)=>(@shut_at w0 b m1 m2 e1 e2 d (by omega) ⟨#[10]⟩) _ u hu (by (try simp only [List.length_append]);omega))
 rw [es0] at q1
 replace q1:=Lib.hid q1
 have hd9:=hd
 clear h hlen h0 hd hd9 es0 hE hT hL
 go_enter Tryz.func124,Tryz.ntmps124
 go_wp2_with fail
 refine q1.out.mono ?_
 rintro e u1 ⟨rfl,h1,f1⟩
 have hb1:=Lib.hid (f1.box hb0.out hne.out (show ¬ (92:TypeId) = 5 by decide))
 have y0:u1.cell? ⟨v.heap.size,0,none⟩ = some (.int .u8 k):=ch hb1.out
 have y1:u1.cell? ⟨v.heap.size,1,none⟩ = some (.string hd0):=ch hb1.out
 have y2:u1.cell? ⟨v.heap.size,2,none⟩ = some (.string nm0):=ch hb1.out
 have y3:u1.cell? ⟨v.heap.size,3,none⟩ = some (.int .u8 op):=ch hb1.out
 have y4:u1.cell? ⟨v.heap.size,4,none⟩ = some (.int .i64 lw):=ch hb1.out
 have y5:u1.cell? ⟨v.heap.size,5,none⟩ = some (.int .u64 lh):=ch hb1.out
 have y6:u1.cell? ⟨v.heap.size,6,none⟩ = some (.int .u64 ll):=ch hb1.out
 have y7:u1.cell? ⟨v.heap.size,7,none⟩ = some (.string hd9):=ch hb1.out
 have y8:u1.cell? ⟨v.heap.size,8,none⟩ = some (.string nm):=ch hb1.out
 have y9:u1.cell? ⟨v.heap.size,9,none⟩ = some (.int .i64 hi):=ch hb1.out
 have y10:u1.cell? ⟨v.heap.size,10,none⟩ = some (.int .i64 lo):=ch hb1.out
 have y11:u1.cell? ⟨v.heap.size,11,none⟩ = some (.slice ap an ac):=ch hb1.out
 have y12:u1.cell? ⟨v.heap.size,12,none⟩ = some (.slice tp tn tc):=ch hb1.out
 have y13:u1.cell? ⟨v.heap.size,13,none⟩ = some (.slice lp ln lc):=ch hb1.out
 replace q2:=Lib.hid (q2.out u1 h1)
 have f1':=Lib.hid f1
 clear h1 f1 q1
 go_wp2_with fail
 refine q2.out.mono ?_
 rintro e u2 ⟨rfl,h2,f2⟩
 have hb2:=Lib.hid (f2.box hb1.out hne.out (show ¬ (92:TypeId) = 5 by decide))
 have y0:u2.cell? ⟨v.heap.size,0,none⟩ = some (.int .u8 k):=ch hb2.out
 have y1:u2.cell? ⟨v.heap.size,1,none⟩ = some (.string hd0):=ch hb2.out
 have y2:u2.cell? ⟨v.heap.size,2,none⟩ = some (.string nm0):=ch hb2.out
 have y3:u2.cell? ⟨v.heap.size,3,none⟩ = some (.int .u8 op):=ch hb2.out
 have y4:u2.cell? ⟨v.heap.size,4,none⟩ = some (.int .i64 lw):=ch hb2.out
 have y5:u2.cell? ⟨v.heap.size,5,none⟩ = some (.int .u64 lh):=ch hb2.out
 have y6:u2.cell? ⟨v.heap.size,6,none⟩ = some (.int .u64 ll):=ch hb2.out
 have y7:u2.cell? ⟨v.heap.size,7,none⟩ = some (.string hd9):=ch hb2.out
 have y8:u2.cell? ⟨v.heap.size,8,none⟩ = some (.string nm):=ch hb2.out
 have y9:u2.cell? ⟨v.heap.size,9,none⟩ = some (.int .i64 hi):=ch hb2.out
 have y10:u2.cell? ⟨v.heap.size,10,none⟩ = some (.int .i64 lo):=ch hb2.out
 have y11:u2.cell? ⟨v.heap.size,11,none⟩ = some (.slice ap an ac):=ch hb2.out
 have y12:u2.cell? ⟨v.heap.size,12,none⟩ = some (.slice tp tn tc):=ch hb2.out
 have y13:u2.cell? ⟨v.heap.size,13,none⟩ = some (.slice lp ln lc):=ch hb2.out
 replace q3:=Lib.hid (q3.out u2 h2)
 have f2':=Lib.hid f2
 clear h2 f2 q2
 go_wp2_with fail
 refine q3.out.mono ?_
 rintro e u3 ⟨rfl,h3,f3⟩
 have hb3:=Lib.hid (f3.box hb2.out hne.out (show ¬ (92:TypeId) = 5 by decide))
 have y0:u3.cell? ⟨v.heap.size,0,none⟩ = some (.int .u8 k):=ch hb3.out
 have y1:u3.cell? ⟨v.heap.size,1,none⟩ = some (.string hd0):=ch hb3.out
 have y2:u3.cell? ⟨v.heap.size,2,none⟩ = some (.string nm0):=ch hb3.out
 have y3:u3.cell? ⟨v.heap.size,3,none⟩ = some (.int .u8 op):=ch hb3.out
 have y4:u3.cell? ⟨v.heap.size,4,none⟩ = some (.int .i64 lw):=ch hb3.out
 have y5:u3.cell? ⟨v.heap.size,5,none⟩ = some (.int .u64 lh):=ch hb3.out
 have y6:u3.cell? ⟨v.heap.size,6,none⟩ = some (.int .u64 ll):=ch hb3.out
 have y7:u3.cell? ⟨v.heap.size,7,none⟩ = some (.string hd9):=ch hb3.out
 have y8:u3.cell? ⟨v.heap.size,8,none⟩ = some (.string nm):=ch hb3.out
 have y9:u3.cell? ⟨v.heap.size,9,none⟩ = some (.int .i64 hi):=ch hb3.out
 have y10:u3.cell? ⟨v.heap.size,10,none⟩ = some (.int .i64 lo):=ch hb3.out
 have y11:u3.cell? ⟨v.heap.size,11,none⟩ = some (.slice ap an ac):=ch hb3.out
 have y12:u3.cell? ⟨v.heap.size,12,none⟩ = some (.slice tp tn tc):=ch hb3.out
 have y13:u3.cell? ⟨v.heap.size,13,none⟩ = some (.slice lp ln lc):=ch hb3.out
 replace q4:=Lib.hid (q4.out u3 h3)
 have f3':=Lib.hid f3
 clear h3 f3 q3
 go_wp2_with fail
 refine q4.out.mono ?_
 rintro e u4 ⟨rfl,h4,f4⟩
 have hb4:=Lib.hid (f4.box hb3.out hne.out (show ¬ (92:TypeId) = 5 by decide))
 have y0:u4.cell? ⟨v.heap.size,0,none⟩ = some (.int .u8 k):=ch hb4.out
 have y1:u4.cell? ⟨v.heap.size,1,none⟩ = some (.string hd0):=ch hb4.out
 have y2:u4.cell? ⟨v.heap.size,2,none⟩ = some (.string nm0):=ch hb4.out
 have y3:u4.cell? ⟨v.heap.size,3,none⟩ = some (.int .u8 op):=ch hb4.out
 have y4:u4.cell? ⟨v.heap.size,4,none⟩ = some (.int .i64 lw):=ch hb4.out
 have y5:u4.cell? ⟨v.heap.size,5,none⟩ = some (.int .u64 lh):=ch hb4.out
 have y6:u4.cell? ⟨v.heap.size,6,none⟩ = some (.int .u64 ll):=ch hb4.out
 have y7:u4.cell? ⟨v.heap.size,7,none⟩ = some (.string hd9):=ch hb4.out
 have y8:u4.cell? ⟨v.heap.size,8,none⟩ = some (.string nm):=ch hb4.out
 have y9:u4.cell? ⟨v.heap.size,9,none⟩ = some (.int .i64 hi):=ch hb4.out
 have y10:u4.cell? ⟨v.heap.size,10,none⟩ = some (.int .i64 lo):=ch hb4.out
 have y11:u4.cell? ⟨v.heap.size,11,none⟩ = some (.slice ap an ac):=ch hb4.out
 have y12:u4.cell? ⟨v.heap.size,12,none⟩ = some (.slice tp tn tc):=ch hb4.out
 have y13:u4.cell? ⟨v.heap.size,13,none⟩ = some (.slice lp ln lc):=ch hb4.out
 replace q5:=Lib.hid (q5.out u4 h4)
 have f4':=Lib.hid f4
 clear h4 f4 q4
 go_wp2_with fail
 refine q5.out.mono ?_
 rintro e u5 ⟨rfl,h5,f5⟩
 have hb5:=Lib.hid (f5.box hb4.out hne.out (show ¬ (92:TypeId) = 5 by decide))
 have y0:u5.cell? ⟨v.heap.size,0,none⟩ = some (.int .u8 k):=ch hb5.out
 have y1:u5.cell? ⟨v.heap.size,1,none⟩ = some (.string hd0):=ch hb5.out
 have y2:u5.cell? ⟨v.heap.size,2,none⟩ = some (.string nm0):=ch hb5.out
 have y3:u5.cell? ⟨v.heap.size,3,none⟩ = some (.int .u8 op):=ch hb5.out
 have y4:u5.cell? ⟨v.heap.size,4,none⟩ = some (.int .i64 lw):=ch hb5.out
 have y5:u5.cell? ⟨v.heap.size,5,none⟩ = some (.int .u64 lh):=ch hb5.out
 have y6:u5.cell? ⟨v.heap.size,6,none⟩ = some (.int .u64 ll):=ch hb5.out
 have y7:u5.cell? ⟨v.heap.size,7,none⟩ = some (.string hd9):=ch hb5.out
 have y8:u5.cell? ⟨v.heap.size,8,none⟩ = some (.string nm):=ch hb5.out
 have y9:u5.cell? ⟨v.heap.size,9,none⟩ = some (.int .i64 hi):=ch hb5.out
 have y10:u5.cell? ⟨v.heap.size,10,none⟩ = some (.int .i64 lo):=ch hb5.out
 have y11:u5.cell? ⟨v.heap.size,11,none⟩ = some (.slice ap an ac):=ch hb5.out
 have y12:u5.cell? ⟨v.heap.size,12,none⟩ = some (.slice tp tn tc):=ch hb5.out
 have y13:u5.cell? ⟨v.heap.size,13,none⟩ = some (.slice lp ln lc):=ch hb5.out
 replace q6:=Lib.hid (q6.out u5 h5)
 have f5':=Lib.hid f5
 clear h5 f5 q5
 go_wp2_with fail
 refine q6.out.mono ?_
 rintro e u6 ⟨rfl,h6,f6⟩
 have hb6:=Lib.hid (f6.box hb5.out hne.out (show ¬ (92:TypeId) = 5 by decide))
 have y0:u6.cell? ⟨v.heap.size,0,none⟩ = some (.int .u8 k):=ch hb6.out
 have y1:u6.cell? ⟨v.heap.size,1,none⟩ = some (.string hd0):=ch hb6.out
 have y2:u6.cell? ⟨v.heap.size,2,none⟩ = some (.string nm0):=ch hb6.out
 have y3:u6.cell? ⟨v.heap.size,3,none⟩ = some (.int .u8 op):=ch hb6.out
 have y4:u6.cell? ⟨v.heap.size,4,none⟩ = some (.int .i64 lw):=ch hb6.out
 have y5:u6.cell? ⟨v.heap.size,5,none⟩ = some (.int .u64 lh):=ch hb6.out
 have y6:u6.cell? ⟨v.heap.size,6,none⟩ = some (.int .u64 ll):=ch hb6.out
 have y7:u6.cell? ⟨v.heap.size,7,none⟩ = some (.string hd9):=ch hb6.out
 have y8:u6.cell? ⟨v.heap.size,8,none⟩ = some (.string nm):=ch hb6.out
 have y9:u6.cell? ⟨v.heap.size,9,none⟩ = some (.int .i64 hi):=ch hb6.out
 have y10:u6.cell? ⟨v.heap.size,10,none⟩ = some (.int .i64 lo):=ch hb6.out
 have y11:u6.cell? ⟨v.heap.size,11,none⟩ = some (.slice ap an ac):=ch hb6.out
 have y12:u6.cell? ⟨v.heap.size,12,none⟩ = some (.slice tp tn tc):=ch hb6.out
 have y13:u6.cell? ⟨v.heap.size,13,none⟩ = some (.slice lp ln lc):=ch hb6.out
 replace q7:=Lib.hid (q7.out u6 h6)
 have f6':=Lib.hid f6
 clear h6 f6 q6
 go_wp2_with fail
 refine q7.out.mono ?_
 rintro e u7 ⟨rfl,h7,f7⟩
 have hb7:=Lib.hid (f7.box hb6.out hne.out (show ¬ (92:TypeId) = 5 by decide))
 have y0:u7.cell? ⟨v.heap.size,0,none⟩ = some (.int .u8 k):=ch hb7.out
 have y1:u7.cell? ⟨v.heap.size,1,none⟩ = some (.string hd0):=ch hb7.out
 have y2:u7.cell? ⟨v.heap.size,2,none⟩ = some (.string nm0):=ch hb7.out
 have y3:u7.cell? ⟨v.heap.size,3,none⟩ = some (.int .u8 op):=ch hb7.out
 have y4:u7.cell? ⟨v.heap.size,4,none⟩ = some (.int .i64 lw):=ch hb7.out
 have y5:u7.cell? ⟨v.heap.size,5,none⟩ = some (.int .u64 lh):=ch hb7.out
 have y6:u7.cell? ⟨v.heap.size,6,none⟩ = some (.int .u64 ll):=ch hb7.out
 have y7:u7.cell? ⟨v.heap.size,7,none⟩ = some (.string hd9):=ch hb7.out
 have y8:u7.cell? ⟨v.heap.size,8,none⟩ = some (.string nm):=ch hb7.out
 have y9:u7.cell? ⟨v.heap.size,9,none⟩ = some (.int .i64 hi):=ch hb7.out
 have y10:u7.cell? ⟨v.heap.size,10,none⟩ = some (.int .i64 lo):=ch hb7.out
 have y11:u7.cell? ⟨v.heap.size,11,none⟩ = some (.slice ap an ac):=ch hb7.out
 have y12:u7.cell? ⟨v.heap.size,12,none⟩ = some (.slice tp tn tc):=ch hb7.out
 have y13:u7.cell? ⟨v.heap.size,13,none⟩ = some (.slice lp ln lc):=ch hb7.out
 replace q8:=Lib.hid (q8.out u7 h7)
 have f7':=Lib.hid f7
 clear h7 f7 q7
 go_wp2_with fail
 refine q8.out.mono ?_
 rintro e u8 ⟨rfl,h8,f8⟩
 have hb8:=Lib.hid (f8.box hb7.out hne.out (show ¬ (92:TypeId) = 5 by decide))
 have y0:u8.cell? ⟨v.heap.size,0,none⟩ = some (.int .u8 k):=ch hb8.out
 have y1:u8.cell? ⟨v.heap.size,1,none⟩ = some (.string hd0):=ch hb8.out
 have y2:u8.cell? ⟨v.heap.size,2,none⟩ = some (.string nm0):=ch hb8.out
 have y3:u8.cell? ⟨v.heap.size,3,none⟩ = some (.int .u8 op):=ch hb8.out
 have y4:u8.cell? ⟨v.heap.size,4,none⟩ = some (.int .i64 lw):=ch hb8.out
 have y5:u8.cell? ⟨v.heap.size,5,none⟩ = some (.int .u64 lh):=ch hb8.out
 have y6:u8.cell? ⟨v.heap.size,6,none⟩ = some (.int .u64 ll):=ch hb8.out
 have y7:u8.cell? ⟨v.heap.size,7,none⟩ = some (.string hd9):=ch hb8.out
 have y8:u8.cell? ⟨v.heap.size,8,none⟩ = some (.string nm):=ch hb8.out
 have y9:u8.cell? ⟨v.heap.size,9,none⟩ = some (.int .i64 hi):=ch hb8.out
 have y10:u8.cell? ⟨v.heap.size,10,none⟩ = some (.int .i64 lo):=ch hb8.out
 have y11:u8.cell? ⟨v.heap.size,11,none⟩ = some (.slice ap an ac):=ch hb8.out
 have y12:u8.cell? ⟨v.heap.size,12,none⟩ = some (.slice tp tn tc):=ch hb8.out
 have y13:u8.cell? ⟨v.heap.size,13,none⟩ = some (.slice lp ln lc):=ch hb8.out
 replace q9:=Lib.hid (q9.out u8 h8)
 have f8':=Lib.hid f8
 clear h8 f8 q8
 go_wp2_with fail
 refine q9.out.mono ?_
 rintro e u9 ⟨rfl,h9,f9⟩
 have h9':=Lib.hid h9
 have f9':=Lib.hid f9
 clear h9 f9 q9
 go_wp2
 go_end0
 exact ⟨rfl,by rw [← hXX.out];have:=h9'.out;(try simp only [List.append_assoc] at this ⊢);exact this,f0'.out.trans (f1'.out.trans (f2'.out.trans (f3'.out.trans (f4'.out.trans (f5'.out.trans (f6'.out.trans (f7'.out.trans (f8'.out.trans (f9'.out)))))))))⟩
set_option maxHeartbeats 2000000 in
set_option maxRecDepth 100000 in
theorem wr_atom_leaf (w0:World) (b m1 m2:Nat) (e1 e2:Array MapEntry) (d:Nat) (hd:d ≤ 500) (op lw lh ll:Int) (hd9 nm:ByteArray) (hi lo:Int) (ap:Option Addr) (ac:Nat) (ET:List UInt8) (hE:Wc w0 b m1 m2 e1 e2 22 #[.pointer (some ⟨b,0,none⟩),.agg #[.int .u8 op,.int .i64 lw,.int .u64 lh,.int .u64 ll,.string hd9,.string nm,.int .i64 hi,.int .i64 lo,.slice ap 0 ac]] ET (d:Int) (d:Int)):Wm w0 b m1 m2 e1 e2 42 (.agg #[.int .u8 op,.int .i64 lw,.int .u64 lh,.int .u64 ll,.string hd9,.string nm,.int .i64 hi,.int .i64 lo,.slice ap 0 ac]) (ET) (d:Int):=by
 intro t v h hlen
 obtain ⟨XX,hXX⟩:∃ XX,t++(ET) = XX:=⟨_,rfl⟩
 rw [hXX]
 replace hXX:=Lib.hid hXX
 try simp only [List.length_append] at hlen
 have h0:=h.alloc (.cells #[.int .u8 op,.int .i64 lw,.int .u64 lh,.int .u64 ll,.string hd9,.string nm,.int .i64 hi,.int .i64 lo,.slice ap 0 ac] 29)
 have f0':=Lib.hid (Fr.alloc b v (.cells #[.int .u8 op,.int .i64 lw,.int .u64 lh,.int .u64 ll,.string hd9,.string nm,.int .i64 hi,.int .i64 lo,.slice ap 0 ac] 29))
 have hne:=Lib.hid (show v.heap.size ≠ b by have:=h.lt;omega)
 have hb0:=Lib.hid (show (v.alloc (.cells #[.int .u8 op,.int .i64 lw,.int .u64 lh,.int .u64 ll,.string hd9,.string nm,.int .i64 hi,.int .i64 lo,.slice ap 0 ac] 29)).heap[v.heap.size]? = some (.cells #[.int .u8 op,.int .i64 lw,.int .u64 lh,.int .u64 ll,.string hd9,.string nm,.int .i64 hi,.int .i64 lo,.slice ap 0 ac] 29) from alloc_new v _)
 have es0:(v.alloc (.cells #[.int .u8 op,.int .i64 lw,.int .u64 lh,.int .u64 ll,.string hd9,.string nm,.int .i64 hi,.int .i64 lo,.slice ap 0 ac] 29)).heap.size = v.heap.size + 1:=by simp
 have q1:=(hE) _ (v.alloc (.cells #[.int .u8 op,.int .i64 lw,.int .u64 lh,.int .u64 ll,.string hd9,.string nm,.int .i64 hi,.int .i64 lo,.slice ap 0 ac] 29)) h0 (by (try simp only [List.length_append]);omega)
 replace q1:=Lib.hid q1
 have hd9:=hd
 clear h hlen h0 hd hd9 es0 hE
 go_enter Tryz.func42,Tryz.ntmps42
 go_wp2_with fail
 refine q1.out.mono ?_
 rintro e u1 ⟨rfl,h1,f1⟩
 have h1':=Lib.hid h1
 have f1':=Lib.hid f1
 clear h1 f1 q1
 go_wp2
 (try simp only [Exit.inBlock,Exit.then])
 refine bodyPost_ret (results_none rfl _ _ _) rfl ?_
 exact ⟨rfl,by rw [← hXX.out];have:=h1'.out;(try simp only [List.append_assoc] at this ⊢);exact this,f0'.out.trans (f1'.out)⟩
set_option maxHeartbeats 2000000 in
set_option maxRecDepth 100000 in
theorem wr_atom_kids (w0:World) (b m1 m2:Nat) (e1 e2:Array MapEntry) (d:Nat) (hd:d ≤ 500) (op lw lh ll:Int) (hd9 nm:ByteArray) (hi lo:Int) (ap:Option Addr) (an ac:Nat) (ET:List UInt8) (hE:Wc w0 b m1 m2 e1 e2 22 #[.pointer (some ⟨b,0,none⟩),.agg #[.int .u8 op,.int .i64 lw,.int .u64 lh,.int .u64 ll,.string hd9,.string nm,.int .i64 hi,.int .i64 lo,.slice ap an ac]] ET (d:Int) (d:Int)) (hz:0 < an):Wm w0 b m1 m2 e1 e2 42 (.agg #[.int .u8 op,.int .i64 lw,.int .u64 lh,.int .u64 ll,.string hd9,.string nm,.int .i64 hi,.int .i64 lo,.slice ap an ac]) (([40])++((ET)++([41]))) (d:Int):=by
 intro t v h hlen
 obtain ⟨XX,hXX⟩:∃ XX,t++(([40])++((ET)++([41]))) = XX:=⟨_,rfl⟩
 rw [hXX]
 replace hXX:=Lib.hid hXX
 try simp only [List.length_append] at hlen
 have h0:=h.alloc (.cells #[.int .u8 op,.int .i64 lw,.int .u64 lh,.int .u64 ll,.string hd9,.string nm,.int .i64 hi,.int .i64 lo,.slice ap an ac] 29)
 have f0':=Lib.hid (Fr.alloc b v (.cells #[.int .u8 op,.int .i64 lw,.int .u64 lh,.int .u64 ll,.string hd9,.string nm,.int .i64 hi,.int .i64 lo,.slice ap an ac] 29))
 have hne:=Lib.hid (show v.heap.size ≠ b by have:=h.lt;omega)
 have hb0:=Lib.hid (show (v.alloc (.cells #[.int .u8 op,.int .i64 lw,.int .u64 lh,.int .u64 ll,.string hd9,.string nm,.int .i64 hi,.int .i64 lo,.slice ap an ac] 29)).heap[v.heap.size]? = some (.cells #[.int .u8 op,.int .i64 lw,.int .u64 lh,.int .u64 ll,.string hd9,.string nm,.int .i64 hi,.int .i64 lo,.slice ap an ac] 29) from alloc_new v _)
 have es0:(v.alloc (.cells #[.int .u8 op,.int .i64 lw,.int .u64 lh,.int .u64 ll,.string hd9,.string nm,.int .i64 hi,.int .i64 lo,.slice ap an ac] 29)).heap.size = v.heap.size + 1:=by simp
 have q1:=(@put_at w0 b m1 m2 e1 e2 (d:Int) [⟨#[40]⟩] ([40]) (by simp) (by simp [catB])) _ (v.alloc (.cells #[.int .u8 op,.int .i64 lw,.int .u64 lh,.int .u64 ll,.string hd9,.string nm,.int .i64 hi,.int .i64 lo,.slice ap an ac] 29)) h0 (by (try simp only [List.length_append]);omega)
 have q2:=Lib.hid (fun u (hu:Wr w0 b m1 m2 e1 e2 (t++([40])) (d:Int) u)=>(hE) _ u hu (by (try simp only [List.length_append]);omega))
 have q3:=Lib.hid (fun u (hu:Wr w0 b m1 m2 e1 e2 (t++([40])++(ET)) (d:Int) u)=>(@put_at w0 b m1 m2 e1 e2 (d:Int) [⟨#[41]⟩] ([41]) (by simp) (by simp [catB])) _ u hu (by (try simp only [List.length_append]);omega))
 rw [es0] at q1
 replace q1:=Lib.hid q1
 have hd9:=hd
 clear h hlen h0 hd hd9 es0 hE
 go_enter Tryz.func42,Tryz.ntmps42
 go_wp2_with fail
 refine q1.out.mono ?_
 rintro e u1 ⟨rfl,h1,f1⟩
 have hb1:=Lib.hid (f1.box hb0.out hne.out (show ¬ (29:TypeId) = 5 by decide))
 have y0:u1.cell? ⟨v.heap.size,0,none⟩ = some (.int .u8 op):=ch hb1.out
 have y1:u1.cell? ⟨v.heap.size,1,none⟩ = some (.int .i64 lw):=ch hb1.out
 have y2:u1.cell? ⟨v.heap.size,2,none⟩ = some (.int .u64 lh):=ch hb1.out
 have y3:u1.cell? ⟨v.heap.size,3,none⟩ = some (.int .u64 ll):=ch hb1.out
 have y4:u1.cell? ⟨v.heap.size,4,none⟩ = some (.string hd9):=ch hb1.out
 have y5:u1.cell? ⟨v.heap.size,5,none⟩ = some (.string nm):=ch hb1.out
 have y6:u1.cell? ⟨v.heap.size,6,none⟩ = some (.int .i64 hi):=ch hb1.out
 have y7:u1.cell? ⟨v.heap.size,7,none⟩ = some (.int .i64 lo):=ch hb1.out
 have y8:u1.cell? ⟨v.heap.size,8,none⟩ = some (.slice ap an ac):=ch hb1.out
 replace q2:=Lib.hid (q2.out u1 h1)
 have f1':=Lib.hid f1
 clear h1 f1 q1
 go_wp2_with fail
 refine q2.out.mono ?_
 rintro e u2 ⟨rfl,h2,f2⟩
 have hb2:=Lib.hid (f2.box hb1.out hne.out (show ¬ (29:TypeId) = 5 by decide))
 have y0:u2.cell? ⟨v.heap.size,0,none⟩ = some (.int .u8 op):=ch hb2.out
 have y1:u2.cell? ⟨v.heap.size,1,none⟩ = some (.int .i64 lw):=ch hb2.out
 have y2:u2.cell? ⟨v.heap.size,2,none⟩ = some (.int .u64 lh):=ch hb2.out
 have y3:u2.cell? ⟨v.heap.size,3,none⟩ = some (.int .u64 ll):=ch hb2.out
 have y4:u2.cell? ⟨v.heap.size,4,none⟩ = some (.string hd9):=ch hb2.out
 have y5:u2.cell? ⟨v.heap.size,5,none⟩ = some (.string nm):=ch hb2.out
 have y6:u2.cell? ⟨v.heap.size,6,none⟩ = some (.int .i64 hi):=ch hb2.out
 have y7:u2.cell? ⟨v.heap.size,7,none⟩ = some (.int .i64 lo):=ch hb2.out
 have y8:u2.cell? ⟨v.heap.size,8,none⟩ = some (.slice ap an ac):=ch hb2.out
 replace q3:=Lib.hid (q3.out u2 h2)
 have f2':=Lib.hid f2
 clear h2 f2 q2
 go_wp2_with fail
 refine q3.out.mono ?_
 rintro e u3 ⟨rfl,h3,f3⟩
 have h3':=Lib.hid h3
 have f3':=Lib.hid f3
 clear h3 f3 q3
 go_wp2
 go_end0
 exact ⟨rfl,by rw [← hXX.out];have:=h3'.out;(try simp only [List.append_assoc] at this ⊢);exact this,f0'.out.trans (f1'.out.trans (f2'.out.trans (f3'.out)))⟩
set_option maxHeartbeats 2000000 in
set_option maxRecDepth 100000 in
theorem wr_expr_lit (w0:World) (b m1 m2:Nat) (e1 e2:Array MapEntry) (d:Nat) (hd:d ≤ 500) (lw lh ll:Int) (hd9 nm:ByteArray) (hi lo:Int) (ap:Option Addr) (an ac:Nat) (VT:List UInt8) (hV:Wc w0 b m1 m2 e1 e2 40 #[.pointer (some ⟨b,0,none⟩),.agg #[.int .i64 lw,.int .u64 lh,.int .u64 ll]] VT (d:Int) (d:Int)):Wm w0 b m1 m2 e1 e2 22 (.agg #[.int .u8 1,.int .i64 lw,.int .u64 lh,.int .u64 ll,.string hd9,.string nm,.int .i64 hi,.int .i64 lo,.slice ap an ac]) (VT) (d:Int):=by
 intro t v h hlen
 obtain ⟨XX,hXX⟩:∃ XX,t++(VT) = XX:=⟨_,rfl⟩
 rw [hXX]
 replace hXX:=Lib.hid hXX
 try simp only [List.length_append] at hlen
 have h0:=h.alloc (.cells #[.int .u8 1,.int .i64 lw,.int .u64 lh,.int .u64 ll,.string hd9,.string nm,.int .i64 hi,.int .i64 lo,.slice ap an ac] 29)
 have f0':=Lib.hid (Fr.alloc b v (.cells #[.int .u8 1,.int .i64 lw,.int .u64 lh,.int .u64 ll,.string hd9,.string nm,.int .i64 hi,.int .i64 lo,.slice ap an ac] 29))
 have hne:=Lib.hid (show v.heap.size ≠ b by have:=h.lt;omega)
 have hb0:=Lib.hid (show (v.alloc (.cells #[.int .u8 1,.int .i64 lw,.int .u64 lh,.int .u64 ll,.string hd9,.string nm,.int .i64 hi,.int .i64 lo,.slice ap an ac] 29)).heap[v.heap.size]? = some (.cells #[.int .u8 1,.int .i64 lw,.int .u64 lh,.int .u64 ll,.string hd9,.string nm,.int .i64 hi,.int .i64 lo,.slice ap an ac] 29) from alloc_new v _)
 have es0:(v.alloc (.cells #[.int .u8 1,.int .i64 lw,.int .u64 lh,.int .u64 ll,.string hd9,.string nm,.int .i64 hi,.int .i64 lo,.slice ap an ac] 29)).heap.size = v.heap.size + 1:=by simp
 have q1:=(hV) _ (v.alloc (.cells #[.int .u8 1,.int .i64 lw,.int .u64 lh,.int .u64 ll,.string hd9,.string nm,.int .i64 hi,.int .i64 lo,.slice ap an ac] 29)) h0 (by (try simp only [List.length_append]);omega)
 replace q1:=Lib.hid q1
 have hd9:=hd
 clear h hlen h0 hd hd9 es0 hV
 go_enter Tryz.func22,Tryz.ntmps22
 go_wp2_with fail
 refine q1.out.mono ?_
 rintro e u1 ⟨rfl,h1,f1⟩
 have h1':=Lib.hid h1
 have f1':=Lib.hid f1
 clear h1 f1 q1
 go_wp2
 go_end0
 exact ⟨rfl,by rw [← hXX.out];have:=h1'.out;(try simp only [List.append_assoc] at this ⊢);exact this,f0'.out.trans (f1'.out)⟩
set_option maxHeartbeats 2000000 in
set_option maxRecDepth 100000 in
theorem wr_expr_field (w0:World) (b m1 m2:Nat) (e1 e2:Array MapEntry) (d:Nat) (hd:d ≤ 500) (lw lh ll:Int) (hd9 nm:ByteArray) (hi lo:Int) (ap:Option Addr) (an ac:Nat) :Wm w0 b m1 m2 e1 e2 22 (.agg #[.int .u8 2,.int .i64 lw,.int .u64 lh,.int .u64 ll,.string hd9,.string nm,.int .i64 hi,.int .i64 lo,.slice ap an ac]) (hd9.data.toList++([46]++(nm.data.toList))) (d:Int):=by
 intro t v h hlen
 obtain ⟨XX,hXX⟩:∃ XX,t++(hd9.data.toList++([46]++(nm.data.toList))) = XX:=⟨_,rfl⟩
 rw [hXX]
 replace hXX:=Lib.hid hXX
 try simp only [List.length_append] at hlen
 have h0:=h.alloc (.cells #[.int .u8 2,.int .i64 lw,.int .u64 lh,.int .u64 ll,.string hd9,.string nm,.int .i64 hi,.int .i64 lo,.slice ap an ac] 29)
 have f0':=Lib.hid (Fr.alloc b v (.cells #[.int .u8 2,.int .i64 lw,.int .u64 lh,.int .u64 ll,.string hd9,.string nm,.int .i64 hi,.int .i64 lo,.slice ap an ac] 29))
 have hne:=Lib.hid (show v.heap.size ≠ b by have:=h.lt;omega)
 have hb0:=Lib.hid (show (v.alloc (.cells #[.int .u8 2,.int .i64 lw,.int .u64 lh,.int .u64 ll,.string hd9,.string nm,.int .i64 hi,.int .i64 lo,.slice ap an ac] 29)).heap[v.heap.size]? = some (.cells #[.int .u8 2,.int .i64 lw,.int .u64 lh,.int .u64 ll,.string hd9,.string nm,.int .i64 hi,.int .i64 lo,.slice ap an ac] 29) from alloc_new v _)
 have es0:(v.alloc (.cells #[.int .u8 2,.int .i64 lw,.int .u64 lh,.int .u64 ll,.string hd9,.string nm,.int .i64 hi,.int .i64 lo,.slice ap an ac] 29)).heap.size = v.heap.size + 1:=by simp
 have q1:=(@put_at w0 b m1 m2 e1 e2 (d:Int) [hd9,⟨#[46]⟩,nm] (hd9.data.toList++([46]++(nm.data.toList))) (by simp) (by simp [catB])) _ (v.alloc (.cells #[.int .u8 2,.int .i64 lw,.int .u64 lh,.int .u64 ll,.string hd9,.string nm,.int .i64 hi,.int .i64 lo,.slice ap an ac] 29)) h0 (by (try simp only [List.length_append]);omega)
 rw [es0] at q1
 replace q1:=Lib.hid q1
 have hd9:=hd
 clear h hlen h0 hd hd9 es0 
 go_enter Tryz.func22,Tryz.ntmps22
 go_wp2_with fail
 refine q1.out.mono ?_
 rintro e u1 ⟨rfl,h1,f1⟩
 have h1':=Lib.hid h1
 have f1':=Lib.hid f1
 clear h1 f1 q1
 go_wp2
 go_end0
 exact ⟨rfl,by rw [← hXX.out];have:=h1'.out;(try simp only [List.append_assoc] at this ⊢);exact this,f0'.out.trans (f1'.out)⟩
set_option maxHeartbeats 2000000 in
set_option maxRecDepth 100000 in
theorem wr_expr_meta (w0:World) (b m1 m2:Nat) (e1 e2:Array MapEntry) (d:Nat) (hd:d ≤ 500) (lw lh ll:Int) (hd9 nm:ByteArray) (hi lo:Int) (ap:Option Addr) (an ac:Nat) :Wm w0 b m1 m2 e1 e2 22 (.agg #[.int .u8 3,.int .i64 lw,.int .u64 lh,.int .u64 ll,.string hd9,.string nm,.int .i64 hi,.int .i64 lo,.slice ap an ac]) ([109,101,116,97,46]++(nm.data.toList)) (d:Int):=by
 intro t v h hlen
 obtain ⟨XX,hXX⟩:∃ XX,t++([109,101,116,97,46]++(nm.data.toList)) = XX:=⟨_,rfl⟩
 rw [hXX]
 replace hXX:=Lib.hid hXX
 try simp only [List.length_append] at hlen
 have h0:=h.alloc (.cells #[.int .u8 3,.int .i64 lw,.int .u64 lh,.int .u64 ll,.string hd9,.string nm,.int .i64 hi,.int .i64 lo,.slice ap an ac] 29)
 have f0':=Lib.hid (Fr.alloc b v (.cells #[.int .u8 3,.int .i64 lw,.int .u64 lh,.int .u64 ll,.string hd9,.string nm,.int .i64 hi,.int .i64 lo,.slice ap an ac] 29))
 have hne:=Lib.hid (show v.heap.size ≠ b by have:=h.lt;omega)
 have hb0:=Lib.hid (show (v.alloc (.cells #[.int .u8 3,.int .i64 lw,.int .u64 lh,.int .u64 ll,.string hd9,.string nm,.int .i64 hi,.int .i64 lo,.slice ap an ac] 29)).heap[v.heap.size]? = some (.cells #[.int .u8 3,.int .i64 lw,.int .u64 lh,.int .u64 ll,.string hd9,.string nm,.int .i64 hi,.int .i64 lo,.slice ap an ac] 29) from alloc_new v _)
 have es0:(v.alloc (.cells #[.int .u8 3,.int .i64 lw,.int .u64 lh,.int .u64 ll,.string hd9,.string nm,.int .i64 hi,.int .i64 lo,.slice ap an ac] 29)).heap.size = v.heap.size + 1:=by simp
 have q1:=(@put_at w0 b m1 m2 e1 e2 (d:Int) [⟨#[109,101,116,97,46]⟩,nm] ([109,101,116,97,46]++(nm.data.toList)) (by simp) (by simp [catB])) _ (v.alloc (.cells #[.int .u8 3,.int .i64 lw,.int .u64 lh,.int .u64 ll,.string hd9,.string nm,.int .i64 hi,.int .i64 lo,.slice ap an ac] 29)) h0 (by (try simp only [List.length_append]);omega)
 rw [es0] at q1
 replace q1:=Lib.hid q1
 have hd9:=hd
 clear h hlen h0 hd hd9 es0 
 go_enter Tryz.func22,Tryz.ntmps22
 go_wp2_with fail
 refine q1.out.mono ?_
 rintro e u1 ⟨rfl,h1,f1⟩
 have h1':=Lib.hid h1
 have f1':=Lib.hid f1
 clear h1 f1 q1
 go_wp2
 go_end0
 exact ⟨rfl,by rw [← hXX.out];have:=h1'.out;(try simp only [List.append_assoc] at this ⊢);exact this,f0'.out.trans (f1'.out)⟩
set_option maxHeartbeats 2000000 in
set_option maxRecDepth 100000 in
theorem wr_expr_param (w0:World) (b m1 m2:Nat) (e1 e2:Array MapEntry) (d:Nat) (hd:d ≤ 500) (lw lh ll:Int) (hd9 nm:ByteArray) (hi lo:Int) (ap:Option Addr) (an ac:Nat) :Wm w0 b m1 m2 e1 e2 22 (.agg #[.int .u8 4,.int .i64 lw,.int .u64 lh,.int .u64 ll,.string hd9,.string nm,.int .i64 hi,.int .i64 lo,.slice ap an ac]) (nm.data.toList) (d:Int):=by
 intro t v h hlen
 obtain ⟨XX,hXX⟩:∃ XX,t++(nm.data.toList) = XX:=⟨_,rfl⟩
 rw [hXX]
 replace hXX:=Lib.hid hXX
 try simp only [List.length_append] at hlen
 have h0:=h.alloc (.cells #[.int .u8 4,.int .i64 lw,.int .u64 lh,.int .u64 ll,.string hd9,.string nm,.int .i64 hi,.int .i64 lo,.slice ap an ac] 29)
 have f0':=Lib.hid (Fr.alloc b v (.cells #[.int .u8 4,.int .i64 lw,.int .u64 lh,.int .u64 ll,.string hd9,.string nm,.int .i64 hi,.int .i64 lo,.slice ap an ac] 29))
 have hne:=Lib.hid (show v.heap.size ≠ b by have:=h.lt;omega)
 have hb0:=Lib.hid (show (v.alloc (.cells #[.int .u8 4,.int .i64 lw,.int .u64 lh,.int .u64 ll,.string hd9,.string nm,.int .i64 hi,.int .i64 lo,.slice ap an ac] 29)).heap[v.heap.size]? = some (.cells #[.int .u8 4,.int .i64 lw,.int .u64 lh,.int .u64 ll,.string hd9,.string nm,.int .i64 hi,.int .i64 lo,.slice ap an ac] 29) from alloc_new v _)
 have es0:(v.alloc (.cells #[.int .u8 4,.int .i64 lw,.int .u64 lh,.int .u64 ll,.string hd9,.string nm,.int .i64 hi,.int .i64 lo,.slice ap an ac] 29)).heap.size = v.heap.size + 1:=by simp
 have q1:=(@put_at w0 b m1 m2 e1 e2 (d:Int) [nm] (nm.data.toList) (by simp) (by simp [catB])) _ (v.alloc (.cells #[.int .u8 4,.int .i64 lw,.int .u64 lh,.int .u64 ll,.string hd9,.string nm,.int .i64 hi,.int .i64 lo,.slice ap an ac] 29)) h0 (by (try simp only [List.length_append]);omega)
 rw [es0] at q1
 replace q1:=Lib.hid q1
 have hd9:=hd
 clear h hlen h0 hd hd9 es0 
 go_enter Tryz.func22,Tryz.ntmps22
 go_wp2_with fail
 refine q1.out.mono ?_
 rintro e u1 ⟨rfl,h1,f1⟩
 have h1':=Lib.hid h1
 have f1':=Lib.hid f1
 clear h1 f1 q1
 go_wp2
 go_end0
 exact ⟨rfl,by rw [← hXX.out];have:=h1'.out;(try simp only [List.append_assoc] at this ⊢);exact this,f0'.out.trans (f1'.out)⟩
set_option maxHeartbeats 2000000 in
set_option maxRecDepth 100000 in
theorem wr_expr_port (w0:World) (b m1 m2:Nat) (e1 e2:Array MapEntry) (d:Nat) (hd:d ≤ 500) (lw lh ll:Int) (hd9 nm:ByteArray) (hi lo:Int) (ap:Option Addr) (an ac:Nat) :Wm w0 b m1 m2 e1 e2 22 (.agg #[.int .u8 5,.int .i64 lw,.int .u64 lh,.int .u64 ll,.string hd9,.string nm,.int .i64 hi,.int .i64 lo,.slice ap an ac]) ([112,111,114,116]) (d:Int):=by
 intro t v h hlen
 obtain ⟨XX,hXX⟩:∃ XX,t++([112,111,114,116]) = XX:=⟨_,rfl⟩
 rw [hXX]
 replace hXX:=Lib.hid hXX
 try simp only [List.length_append] at hlen
 have h0:=h.alloc (.cells #[.int .u8 5,.int .i64 lw,.int .u64 lh,.int .u64 ll,.string hd9,.string nm,.int .i64 hi,.int .i64 lo,.slice ap an ac] 29)
 have f0':=Lib.hid (Fr.alloc b v (.cells #[.int .u8 5,.int .i64 lw,.int .u64 lh,.int .u64 ll,.string hd9,.string nm,.int .i64 hi,.int .i64 lo,.slice ap an ac] 29))
 have hne:=Lib.hid (show v.heap.size ≠ b by have:=h.lt;omega)
 have hb0:=Lib.hid (show (v.alloc (.cells #[.int .u8 5,.int .i64 lw,.int .u64 lh,.int .u64 ll,.string hd9,.string nm,.int .i64 hi,.int .i64 lo,.slice ap an ac] 29)).heap[v.heap.size]? = some (.cells #[.int .u8 5,.int .i64 lw,.int .u64 lh,.int .u64 ll,.string hd9,.string nm,.int .i64 hi,.int .i64 lo,.slice ap an ac] 29) from alloc_new v _)
 have es0:(v.alloc (.cells #[.int .u8 5,.int .i64 lw,.int .u64 lh,.int .u64 ll,.string hd9,.string nm,.int .i64 hi,.int .i64 lo,.slice ap an ac] 29)).heap.size = v.heap.size + 1:=by simp
 have q1:=(@put_at w0 b m1 m2 e1 e2 (d:Int) [⟨#[112,111,114,116]⟩] ([112,111,114,116]) (by simp) (by simp [catB])) _ (v.alloc (.cells #[.int .u8 5,.int .i64 lw,.int .u64 lh,.int .u64 ll,.string hd9,.string nm,.int .i64 hi,.int .i64 lo,.slice ap an ac] 29)) h0 (by (try simp only [List.length_append]);omega)
 rw [es0] at q1
 replace q1:=Lib.hid q1
 have hd9:=hd
 clear h hlen h0 hd hd9 es0 
 go_enter Tryz.func22,Tryz.ntmps22
 go_wp2_with fail
 refine q1.out.mono ?_
 rintro e u1 ⟨rfl,h1,f1⟩
 have h1':=Lib.hid h1
 have f1':=Lib.hid f1
 clear h1 f1 q1
 go_wp2
 go_end0
 exact ⟨rfl,by rw [← hXX.out];have:=h1'.out;(try simp only [List.append_assoc] at this ⊢);exact this,f0'.out.trans (f1'.out)⟩
set_option maxHeartbeats 2000000 in
set_option maxRecDepth 100000 in
theorem wr_expr_valid (w0:World) (b m1 m2:Nat) (e1 e2:Array MapEntry) (d:Nat) (hd:d ≤ 500) (lw lh ll:Int) (hd9 nm:ByteArray) (hi lo:Int) (ap:Option Addr) (an ac:Nat) :Wm w0 b m1 m2 e1 e2 22 (.agg #[.int .u8 6,.int .i64 lw,.int .u64 lh,.int .u64 ll,.string hd9,.string nm,.int .i64 hi,.int .i64 lo,.slice ap an ac]) ([105,115,86,97,108,105,100,40]++(hd9.data.toList++([41]))) (d:Int):=by
 intro t v h hlen
 obtain ⟨XX,hXX⟩:∃ XX,t++([105,115,86,97,108,105,100,40]++(hd9.data.toList++([41]))) = XX:=⟨_,rfl⟩
 rw [hXX]
 replace hXX:=Lib.hid hXX
 try simp only [List.length_append] at hlen
 have h0:=h.alloc (.cells #[.int .u8 6,.int .i64 lw,.int .u64 lh,.int .u64 ll,.string hd9,.string nm,.int .i64 hi,.int .i64 lo,.slice ap an ac] 29)
 have f0':=Lib.hid (Fr.alloc b v (.cells #[.int .u8 6,.int .i64 lw,.int .u64 lh,.int .u64 ll,.string hd9,.string nm,.int .i64 hi,.int .i64 lo,.slice ap an ac] 29))
 have hne:=Lib.hid (show v.heap.size ≠ b by have:=h.lt;omega)
 have hb0:=Lib.hid (show (v.alloc (.cells #[.int .u8 6,.int .i64 lw,.int .u64 lh,.int .u64 ll,.string hd9,.string nm,.int .i64 hi,.int .i64 lo,.slice ap an ac] 29)).heap[v.heap.size]? = some (.cells #[.int .u8 6,.int .i64 lw,.int .u64 lh,.int .u64 ll,.string hd9,.string nm,.int .i64 hi,.int .i64 lo,.slice ap an ac] 29) from alloc_new v _)
 have es0:(v.alloc (.cells #[.int .u8 6,.int .i64 lw,.int .u64 lh,.int .u64 ll,.string hd9,.string nm,.int .i64 hi,.int .i64 lo,.slice ap an ac] 29)).heap.size = v.heap.size + 1:=by simp
 have q1:=(@put_at w0 b m1 m2 e1 e2 (d:Int) [⟨#[105,115,86,97,108,105,100,40]⟩,hd9,⟨#[41]⟩] ([105,115,86,97,108,105,100,40]++(hd9.data.toList++([41]))) (by simp) (by simp [catB])) _ (v.alloc (.cells #[.int .u8 6,.int .i64 lw,.int .u64 lh,.int .u64 ll,.string hd9,.string nm,.int .i64 hi,.int .i64 lo,.slice ap an ac] 29)) h0 (by (try simp only [List.length_append]);omega)
 rw [es0] at q1
 replace q1:=Lib.hid q1
 have hd9:=hd
 clear h hlen h0 hd hd9 es0 
 go_enter Tryz.func22,Tryz.ntmps22
 go_wp2_with fail
 refine q1.out.mono ?_
 rintro e u1 ⟨rfl,h1,f1⟩
 have h1':=Lib.hid h1
 have f1':=Lib.hid f1
 clear h1 f1 q1
 go_wp2
 go_end0
 exact ⟨rfl,by rw [← hXX.out];have:=h1'.out;(try simp only [List.append_assoc] at this ⊢);exact this,f0'.out.trans (f1'.out)⟩
set_option maxHeartbeats 2000000 in
set_option maxRecDepth 100000 in
theorem wr_expr_signed (w0:World) (b m1 m2:Nat) (e1 e2:Array MapEntry) (d:Nat) (hd:d ≤ 500) (op lw lh ll:Int) (hd9 nm:ByteArray) (hi lo:Int) (ap:Option Addr) (an ac:Nat) (ST:List UInt8) (hS:Wc w0 b m1 m2 e1 e2 44 #[.pointer (some ⟨b,0,none⟩),.agg #[.int .u8 op,.int .i64 lw,.int .u64 lh,.int .u64 ll,.string hd9,.string nm,.int .i64 hi,.int .i64 lo,.slice ap an ac]] ST (d:Int) (d:Int)) (hx:7 ≤ op) (hy:op ≠ 10):Wm w0 b m1 m2 e1 e2 22 (.agg #[.int .u8 op,.int .i64 lw,.int .u64 lh,.int .u64 ll,.string hd9,.string nm,.int .i64 hi,.int .i64 lo,.slice ap an ac]) (ST) (d:Int):=by
 intro t v h hlen
 obtain ⟨XX,hXX⟩:∃ XX,t++(ST) = XX:=⟨_,rfl⟩
 rw [hXX]
 replace hXX:=Lib.hid hXX
 try simp only [List.length_append] at hlen
 have h0:=h.alloc (.cells #[.int .u8 op,.int .i64 lw,.int .u64 lh,.int .u64 ll,.string hd9,.string nm,.int .i64 hi,.int .i64 lo,.slice ap an ac] 29)
 have f0':=Lib.hid (Fr.alloc b v (.cells #[.int .u8 op,.int .i64 lw,.int .u64 lh,.int .u64 ll,.string hd9,.string nm,.int .i64 hi,.int .i64 lo,.slice ap an ac] 29))
 have hne:=Lib.hid (show v.heap.size ≠ b by have:=h.lt;omega)
 have hb0:=Lib.hid (show (v.alloc (.cells #[.int .u8 op,.int .i64 lw,.int .u64 lh,.int .u64 ll,.string hd9,.string nm,.int .i64 hi,.int .i64 lo,.slice ap an ac] 29)).heap[v.heap.size]? = some (.cells #[.int .u8 op,.int .i64 lw,.int .u64 lh,.int .u64 ll,.string hd9,.string nm,.int .i64 hi,.int .i64 lo,.slice ap an ac] 29) from alloc_new v _)
 have es0:(v.alloc (.cells #[.int .u8 op,.int .i64 lw,.int .u64 lh,.int .u64 ll,.string hd9,.string nm,.int .i64 hi,.int .i64 lo,.slice ap an ac] 29)).heap.size = v.heap.size + 1:=by simp
 have q1:=(hS) _ (v.alloc (.cells #[.int .u8 op,.int .i64 lw,.int .u64 lh,.int .u64 ll,.string hd9,.string nm,.int .i64 hi,.int .i64 lo,.slice ap an ac] 29)) h0 (by (try simp only [List.length_append]);omega)
 replace q1:=Lib.hid q1
 have hd9:=hd
 clear h hlen h0 hd hd9 es0 hS
 go_enter Tryz.func22,Tryz.ntmps22
 go_wp2_with fail
 refine q1.out.mono ?_
 rintro e u1 ⟨rfl,h1,f1⟩
 have h1':=Lib.hid h1
 have f1':=Lib.hid f1
 clear h1 f1 q1
 go_wp2
 go_end0
 exact ⟨rfl,by rw [← hXX.out];have:=h1'.out;(try simp only [List.append_assoc] at this ⊢);exact this,f0'.out.trans (f1'.out)⟩
end Go.Proofs.YtbelaghcmgefaaaGreatDoor
