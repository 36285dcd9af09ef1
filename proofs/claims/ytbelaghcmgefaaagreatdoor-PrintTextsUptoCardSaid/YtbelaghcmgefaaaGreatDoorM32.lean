/-
  WHAT IS PROVED HERE: a part of the proof (made narrower and merged by program; the parts: Pi2).
-/
import Derived.Test.YtbelaghcmgefaaaGreatDoorRows
import Derived.WalkKit
import Derived.Lib.Hide
import Derived.WalkSpells
import Derived.WalkLawsBesides
import Derived.Test.YtbelaghcmgefaaaGreatDoorM31
namespace Go.Proofs.YtbelaghcmgefaaaGreatDoor
open Go.RowKit
set_option maxHeartbeats 2000000 in
set_option maxRecDepth 100000 in
theorem wr_table_of (w0:World) (b m1 m2:Nat) (e1 e2:Array MapEntry) (d:Nat) (hd:d ≤ 500) (n dn:ByteArray) (kp:Option Addr) (kn kc:Nat) (ap:Option Addr) (an ac:Nat) (gp:Option Addr) (gn gc:Nat) (KT LT GT:List UInt8) (hK:Wc w0 b m1 m2 e1 e2 118 #[.pointer (some ⟨b,0,none⟩),.slice kp kn kc,.func (.func 119) #[.pointer (some ⟨b,0,none⟩)] #[]] KT ((d + 1:Nat):Int) ((d + 1:Nat):Int)) (hL:Wc w0 b m1 m2 e1 e2 75 #[.pointer (some ⟨b,0,none⟩),.slice ap an ac,.func (.func 120) #[.pointer (some ⟨b,0,none⟩)] #[]] LT ((d + 1:Nat):Int) ((d + 1:Nat):Int)) (hG:Wc w0 b m1 m2 e1 e2 121 #[.pointer (some ⟨b,0,none⟩),.slice gp gn gc,.func (.func 40) #[.pointer (some ⟨b,0,none⟩)] #[]] GT ((d + 1:Nat):Int) ((d + 1:Nat):Int)):Wm w0 b m1 m2 e1 e2 72 (.agg #[.string n,.slice kp kn kc,.slice ap an ac,.string dn,.slice gp gn gc]) ((padB d++([116,97,98,108,101,32]++(n.data.toList)))++(([32,123,10])++((padB (d + 1)++([107,101,121]))++((KT)++((padB (d + 1)++([97,99,116,105,111,110,115]))++((LT)++((padB (d + 1)++([100,101,102,97,117,108,116,32]++(dn.data.toList++([40]))))++((GT)++(([41,59,10])++(padB d++(125 :: [10]))))))))))) (d:Int):=by
 intro t v h hlen
 obtain ⟨XX,hXX⟩:∃ XX,t++((padB d++([116,97,98,108,101,32]++(n.data.toList)))++(([32,123,10])++((padB (d + 1)++([107,101,121]))++((KT)++((padB (d + 1)++([97,99,116,105,111,110,115]))++((LT)++((padB (d + 1)++([100,101,102,97,117,108,116,32]++(dn.data.toList++([40]))))++((GT)++(([41,59,10])++(padB d++(125 :: [10]))))))))))) = XX:=⟨_,rfl⟩
 rw [hXX]
 replace hXX:=Lib.hid hXX
 try simp only [List.length_append] at hlen
 have h0:=h.alloc (.cells #[.string n,.slice kp kn kc,.slice ap an ac,.string dn,.slice gp gn gc] 65)
 have f0':=Lib.hid (Fr.alloc b v (.cells #[.string n,.slice kp kn kc,.slice ap an ac,.string dn,.slice gp gn gc] 65))
 have hne:=Lib.hid (show v.heap.size ≠ b by have:=h.lt;omega)
 have hb0:=Lib.hid (show (v.alloc (.cells #[.string n,.slice kp kn kc,.slice ap an ac,.string dn,.slice gp gn gc] 65)).heap[v.heap.size]? = some (.cells #[.string n,.slice kp kn kc,.slice ap an ac,.string dn,.slice gp gn gc] 65) from alloc_new v _)
 have es0:(v.alloc (.cells #[.string n,.slice kp kn kc,.slice ap an ac,.string dn,.slice gp gn gc] 65)).heap.size = v.heap.size + 1:=by simp
 have q1:=(@begin_at w0 b m1 m2 e1 e2 d (by omega) [⟨#[116,97,98,108,101,32]⟩,n] ([116,97,98,108,101,32]++(n.data.toList)) (by simp) (by simp [catB])) _ (v.alloc (.cells #[.string n,.slice kp kn kc,.slice ap an ac,.string dn,.slice gp gn gc] 65)) h0 (by (try simp only [List.length_append]);omega)
 have q2:=Lib.hid (fun u (hu:Wr w0 b m1 m2 e1 e2 (t++(padB d++([116,97,98,108,101,32]++(n.data.toList)))) (d:Int) u)=>(@open_at w0 b m1 m2 e1 e2 d (by omega)) _ u hu (by (try simp only [List.length_append]);omega))
 have q3:=Lib.hid (fun u (hu:Wr w0 b m1 m2 e1 e2 (t++(padB d++([116,97,98,108,101,32]++(n.data.toList)))++([32,123,10])) ((d + 1:Nat):Int) u)=>(@begin_at w0 b m1 m2 e1 e2 (d + 1) (by omega) [⟨#[107,101,121]⟩] ([107,101,121]) (by simp) (by simp [catB])) _ u hu (by (try simp only [List.length_append]);omega))
 have q4:=Lib.hid (fun u (hu:Wr w0 b m1 m2 e1 e2 (t++(padB d++([116,97,98,108,101,32]++(n.data.toList)))++([32,123,10])++(padB (d + 1)++([107,101,121]))) ((d + 1:Nat):Int) u)=>(hK) _ u hu (by (try simp only [List.length_append]);omega))
 have q5:=Lib.hid (fun u (hu:Wr w0 b m1 m2 e1 e2 (t++(padB d++([116,97,98,108,101,32]++(n.data.toList)))++([32,123,10])++(padB (d + 1)++([107,101,121]))++(KT)) ((d + 1:Nat):Int) u)=>(@begin_at w0 b m1 m2 e1 e2 (d + 1) (by omega) [⟨#[97,99,116,105,111,110,115]⟩] ([97,99,116,105,111,110,115]) (by simp) (by simp [catB])) _ u hu (by (try simp only [List.length_append]);omega))
 have q6:=Lib.hid (fun u (hu:Wr w0 b m1 m2 e1 e2 (t++(padB d++([116,97,98,108,101,32]++(n.data.toList)))++([32,123,10])++(padB (d + 1)++([107,101,121]))++(KT)++(padB (d + 1)++([97,99,116,105,111,110,115]))) ((d + 1:Nat):Int) u)=>(hL) _ u hu (by (try simp only [List.length_append]);omega))
 have q7:=Lib.hid (fun u (hu:Wr w0 b m1 m2 e1 e2 (t++(padB d++([116,97,98,108,101,32]++(n.data.toList)))++([32,123,10])++(padB (d + 1)++([107,101,121]))++(KT)++(padB (d + 1)++([97,99,116,105,111,110,115]))++(LT)) ((d + 1:Nat):Int) u)=>(@begin_at w0 b m1 m2 e1 e2 (d + 1) (by omega) [⟨#[100,101,102,97,117,108,116,32]⟩,dn,⟨#[40]⟩] ([100,101,102,97,117,108,116,32]++(dn.data.toList++([40]))) (by simp) (by simp [catB])) _ u hu (by (try simp only [List.length_append]);omega))
 have q8:=Lib.hid (fun u (hu:Wr w0 b m1 m2 e1 e2 (t++(padB d++([116,97,98,108,101,32]++(n.data.toList)))++([32,123,10])++(padB (d + 1)++([107,101,121]))++(KT)++(padB (d + 1)++([97,99,116,105,111,110,115]))++(LT)++(padB (d + 1)++([100,101,102,97,117,108,116,32]++(dn.data.toList++([40]))))) ((d + 1:Nat):Int) u)=>(hG) _ u hu (by (try simp only [List.length_append]);omega))
 have q9:=Lib.hid (fun u (hu:Wr w0 b m1 m2 e1 e2 (t++(padB d++([116,97,98,108,101,32]++(n.data.toList)))++([32,123,10])++(padB (d + 1)++([107,101,121]))++(KT)++(padB (d + 1)++([97,99,116,105,111,110,115]))++(LT)++(padB (d + 1)++([100,101,102,97,117,108,116,32]++(dn.data.toList++([40]))))++(GT)) ((d + 1:Nat):Int) u)=>(@put_at w0 b m1 m2 e1 e2 (d + 1:Int) [⟨#[41,59,10]⟩] ([41,59,10]) (by simp) (by simp [catB])) _ u hu (by (try simp only [List.length_append]);omega))
 have q10:=Lib.hid (fun u (hu:Wr w0 b m1 m2 e1 e2 (t++(padB d++([116,97,98,108,101,32]++(n.data.toList)))++([32,123,10])++(padB (d + 1)++([107,101,121]))++(KT)++(padB (d + 1)++([97,99,116,105,111,110,115]))++(LT)++(padB (d + 1)++([100,101,102,97,117,108,116,32]++(dn.data.toList++([40]))))++(GT)++([41,59,10])) ((d + 1:Nat):Int) u)=>(@shut_at w0 b m1 m2 e1 e2 d (by omega) ⟨#[10]⟩) _ u hu (by (try simp only [List.length_append]);omega))
 rw [es0] at q1
 replace q1:=Lib.hid q1
 have hd9:=hd
 clear h hlen h0 hd hd9 es0 hK hL hG
 go_enter Tryz.func72,Tryz.ntmps72
 go_wp2_with fail
 refine q1.out.mono ?_
 rintro e u1 ⟨rfl,h1,f1⟩
 have hb1:=Lib.hid (f1.box hb0.out hne.out (show ¬ (65:TypeId) = 5 by decide))
 have y0:u1.cell? ⟨v.heap.size,0,none⟩ = some (.string n):=ch hb1.out
 have y1:u1.cell? ⟨v.heap.size,1,none⟩ = some (.slice kp kn kc):=ch hb1.out
 have y2:u1.cell? ⟨v.heap.size,2,none⟩ = some (.slice ap an ac):=ch hb1.out
 have y3:u1.cell? ⟨v.heap.size,3,none⟩ = some (.string dn):=ch hb1.out
 have y4:u1.cell? ⟨v.heap.size,4,none⟩ = some (.slice gp gn gc):=ch hb1.out
 replace q2:=Lib.hid (q2.out u1 h1)
 have f1':=Lib.hid f1
 clear h1 f1 q1
 go_wp2_with fail
 refine q2.out.mono ?_
 rintro e u2 ⟨rfl,h2,f2⟩
 have hb2:=Lib.hid (f2.box hb1.out hne.out (show ¬ (65:TypeId) = 5 by decide))
 have y0:u2.cell? ⟨v.heap.size,0,none⟩ = some (.string n):=ch hb2.out
 have y1:u2.cell? ⟨v.heap.size,1,none⟩ = some (.slice kp kn kc):=ch hb2.out
 have y2:u2.cell? ⟨v.heap.size,2,none⟩ = some (.slice ap an ac):=ch hb2.out
 have y3:u2.cell? ⟨v.heap.size,3,none⟩ = some (.string dn):=ch hb2.out
 have y4:u2.cell? ⟨v.heap.size,4,none⟩ = some (.slice gp gn gc):=ch hb2.out
 replace q3:=Lib.hid (q3.out u2 h2)
 have f2':=Lib.hid f2
 clear h2 f2 q2
 go_wp2_with fail
 refine q3.out.mono ?_
 rintro e u3 ⟨rfl,h3,f3⟩
 have hb3:=Lib.hid (f3.box hb2.out hne.out (show ¬ (65:TypeId) = 5 by decide))
 have y0:u3.cell? ⟨v.heap.size,0,none⟩ = some (.string n):=ch hb3.out
 have y1:u3.cell? ⟨v.heap.size,1,none⟩ = some (.slice kp kn kc):=ch hb3.out
 have y2:u3.cell? ⟨v.heap.size,2,none⟩ = some (.slice ap an ac):=ch hb3.out
 have y3:u3.cell? ⟨v.heap.size,3,none⟩ = some (.string dn):=ch hb3.out
 have y4:u3.cell? ⟨v.heap.size,4,none⟩ = some (.slice gp gn gc):=ch hb3.out
 replace q4:=Lib.hid (q4.out u3 h3)
 have f3':=Lib.hid f3
 clear h3 f3 q3
 go_wp2_with fail
 refine q4.out.mono ?_
 rintro e u4 ⟨rfl,h4,f4⟩
 have hb4:=Lib.hid (f4.box hb3.out hne.out (show ¬ (65:TypeId) = 5 by decide))
 have y0:u4.cell? ⟨v.heap.size,0,none⟩ = some (.string n):=ch hb4.out
 have y1:u4.cell? ⟨v.heap.size,1,none⟩ = some (.slice kp kn kc):=ch hb4.out
 have y2:u4.cell? ⟨v.heap.size,2,none⟩ = some (.slice ap an ac):=ch hb4.out
 have y3:u4.cell? ⟨v.heap.size,3,none⟩ = some (.string dn):=ch hb4.out
 have y4:u4.cell? ⟨v.heap.size,4,none⟩ = some (.slice gp gn gc):=ch hb4.out
 replace q5:=Lib.hid (q5.out u4 h4)
 have f4':=Lib.hid f4
 clear h4 f4 q4
 go_wp2_with fail
 refine q5.out.mono ?_
 rintro e u5 ⟨rfl,h5,f5⟩
 have hb5:=Lib.hid (f5.box hb4.out hne.out (show ¬ (65:TypeId) = 5 by decide))
 have y0:u5.cell? ⟨v.heap.size,0,none⟩ = some (.string n):=ch hb5.out
 have y1:u5.cell? ⟨v.heap.size,1,none⟩ = some (.slice kp kn kc):=ch hb5.out
 have y2:u5.cell? ⟨v.heap.size,2,none⟩ = some (.slice ap an ac):=ch hb5.out
 have y3:u5.cell? ⟨v.heap.size,3,none⟩ = some (.string dn):=ch hb5.out
 have y4:u5.cell? ⟨v.heap.size,4,none⟩ = some (.slice gp gn gc):=ch hb5.out
 replace q6:=Lib.hid (q6.out u5 h5)
 have f5':=Lib.hid f5
 clear h5 f5 q5
 go_wp2_with fail
 refine q6.out.mono ?_
 rintro e u6 ⟨rfl,h6,f6⟩
 have hb6:=Lib.hid (f6.box hb5.out hne.out (show ¬ (65:TypeId) = 5 by decide))
 have y0:u6.cell? ⟨v.heap.size,0,none⟩ = some (.string n):=ch hb6.out
 have y1:u6.cell? ⟨v.heap.size,1,none⟩ = some (.slice kp kn kc):=ch hb6.out
 have y2:u6.cell? ⟨v.heap.size,2,none⟩ = some (.slice ap an ac):=ch hb6.out
 have y3:u6.cell? ⟨v.heap.size,3,none⟩ = some (.string dn):=ch hb6.out
 have y4:u6.cell? ⟨v.heap.size,4,none⟩ = some (.slice gp gn gc):=ch hb6.out
 replace q7:=Lib.hid (q7.out u6 h6)
 have f6':=Lib.hid f6
 clear h6 f6 q6
 go_wp2_with fail
 refine q7.out.mono ?_
 rintro e u7 ⟨rfl,h7,f7⟩
 have hb7:=Lib.hid (f7.box hb6.out hne.out (show ¬ (65:TypeId) = 5 by decide))
 have y0:u7.cell? ⟨v.heap.size,0,none⟩ = some (.string n):=ch hb7.out
 have y1:u7.cell? ⟨v.heap.size,1,none⟩ = some (.slice kp kn kc):=ch hb7.out
 have y2:u7.cell? ⟨v.heap.size,2,none⟩ = some (.slice ap an ac):=ch hb7.out
 have y3:u7.cell? ⟨v.heap.size,3,none⟩ = some (.string dn):=ch hb7.out
 have y4:u7.cell? ⟨v.heap.size,4,none⟩ = some (.slice gp gn gc):=ch hb7.out
 replace q8:=Lib.hid (q8.out u7 h7)
 have f7':=Lib.hid f7
 clear h7 f7 q7
 go_wp2_with fail
 refine q8.out.mono ?_
 rintro e u8 ⟨rfl,h8,f8⟩
 have hb8:=Lib.hid (f8.box hb7.out hne.out (show ¬ (65:TypeId) = 5 by decide))
 have y0:u8.cell? ⟨v.heap.size,0,none⟩ = some (.string n):=ch hb8.out
 have y1:u8.cell? ⟨v.heap.size,1,none⟩ = some (.slice kp kn kc):=ch hb8.out
 have y2:u8.cell? ⟨v.heap.size,2,none⟩ = some (.slice ap an ac):=ch hb8.out
 have y3:u8.cell? ⟨v.heap.size,3,none⟩ = some (.string dn):=ch hb8.out
 have y4:u8.cell? ⟨v.heap.size,4,none⟩ = some (.slice gp gn gc):=ch hb8.out
 replace q9:=Lib.hid (q9.out u8 h8)
 have f8':=Lib.hid f8
 clear h8 f8 q8
 go_wp2_with fail
 refine q9.out.mono ?_
 rintro e u9 ⟨rfl,h9,f9⟩
 have hb9:=Lib.hid (f9.box hb8.out hne.out (show ¬ (65:TypeId) = 5 by decide))
 have y0:u9.cell? ⟨v.heap.size,0,none⟩ = some (.string n):=ch hb9.out
 have y1:u9.cell? ⟨v.heap.size,1,none⟩ = some (.slice kp kn kc):=ch hb9.out
 have y2:u9.cell? ⟨v.heap.size,2,none⟩ = some (.slice ap an ac):=ch hb9.out
 have y3:u9.cell? ⟨v.heap.size,3,none⟩ = some (.string dn):=ch hb9.out
 have y4:u9.cell? ⟨v.heap.size,4,none⟩ = some (.slice gp gn gc):=ch hb9.out
 replace q10:=Lib.hid (q10.out u9 h9)
 have f9':=Lib.hid f9
 clear h9 f9 q9
 go_wp2_with fail
 refine q10.out.mono ?_
 rintro e u10 ⟨rfl,h10,f10⟩
 have h10':=Lib.hid h10
 have f10':=Lib.hid f10
 clear h10 f10 q10
 go_wp2
 go_end0
 exact ⟨rfl,by rw [← hXX.out];have:=h10'.out;(try simp only [List.append_assoc] at this ⊢);exact this,f0'.out.trans (f1'.out.trans (f2'.out.trans (f3'.out.trans (f4'.out.trans (f5'.out.trans (f6'.out.trans (f7'.out.trans (f8'.out.trans (f9'.out.trans (f10'.out))))))))))⟩
set_option maxHeartbeats 2000000 in
set_option maxRecDepth 100000 in
theorem wr_program_of (w0:World) (b m1 m2:Nat) (e1 e2:Array MapEntry) (d:Nat) (hd:d ≤ 500) (hyp:Option Addr) (hyn hyc:Nat) (myp:Option Addr) (myn myc:Nat) (syp:Option Addr) (syn syc:Nat) (ayp:Option Addr) (ayn ayc:Nat) (typ:Option Addr) (tyn tyc:Nat) (cyp:Option Addr) (cyn cyc:Nat) (eyp:Option Addr) (eyn eyc:Nat) (T1 T2 T3 T4 T5 T6 T7:List UInt8) (g1:Wc w0 b m1 m2 e1 e2 62 #[.slice hyp hyn hyc,.func (.func 63) #[.pointer (some ⟨b,0,none⟩)] #[]] T1 (d:Int) (d:Int)) (g2:Wc w0 b m1 m2 e1 e2 65 #[.pointer (some ⟨b,0,none⟩),.slice myp myn myc,.func (.func 66) #[.pointer (some ⟨b,0,none⟩)] #[]] T2 (d:Int) (d:Int)) (g3:Wc w0 b m1 m2 e1 e2 67 #[.pointer (some ⟨b,0,none⟩),.slice syp syn syc,.func (.func 68) #[.pointer (some ⟨b,0,none⟩)] #[]] T3 (d:Int) (d:Int)) (g4:Wc w0 b m1 m2 e1 e2 69 #[.slice ayp ayn ayc,.func (.func 70) #[.pointer (some ⟨b,0,none⟩)] #[]] T4 (d:Int) (d:Int)) (g5:Wc w0 b m1 m2 e1 e2 71 #[.slice typ tyn tyc,.func (.func 72) #[.pointer (some ⟨b,0,none⟩)] #[]] T5 (d:Int) (d:Int)) (g6:Wc w0 b m1 m2 e1 e2 73 #[.pointer (some ⟨b,0,none⟩),.slice cyp cyn cyc,.func (.func 74) #[.pointer (some ⟨b,0,none⟩)] #[]] T6 (d:Int) (d:Int)) (g7:Wc w0 b m1 m2 e1 e2 75 #[.pointer (some ⟨b,0,none⟩),.slice eyp eyn eyc,.func (.func 76) #[.pointer (some ⟨b,0,none⟩)] #[]] T7 (d:Int) (d:Int)):Wm w0 b m1 m2 e1 e2 27 (.agg #[.slice hyp hyn hyc,.slice myp myn myc,.slice syp syn syc,.slice ayp ayn ayc,.slice typ tyn tyc,.slice cyp cyn cyc,.slice eyp eyn eyc]) ((T1)++((padB d++([109,101,116,97,100,97,116,97]))++((T2)++((padB d++([112,97,114,115,101,114]))++((T3)++((T4)++((T5)++((padB d++([99,111,110,116,114,111,108]))++((T6)++((padB d++([100,101,112,97,114,115,101,114]))++(T7))))))))))) (d:Int):=by
 intro t v h hlen
 obtain ⟨XX,hXX⟩:∃ XX,t++((T1)++((padB d++([109,101,116,97,100,97,116,97]))++((T2)++((padB d++([112,97,114,115,101,114]))++((T3)++((T4)++((T5)++((padB d++([99,111,110,116,114,111,108]))++((T6)++((padB d++([100,101,112,97,114,115,101,114]))++(T7))))))))))) = XX:=⟨_,rfl⟩
 rw [hXX]
 replace hXX:=Lib.hid hXX
 try simp only [List.length_append] at hlen
 have h0:=h.alloc (.cells #[.slice hyp hyn hyc,.slice myp myn myc,.slice syp syn syc,.slice ayp ayn ayc,.slice typ tyn tyc,.slice cyp cyn cyc,.slice eyp eyn eyc] 38)
 have f0':=Lib.hid (Fr.alloc b v (.cells #[.slice hyp hyn hyc,.slice myp myn myc,.slice syp syn syc,.slice ayp ayn ayc,.slice typ tyn tyc,.slice cyp cyn cyc,.slice eyp eyn eyc] 38))
 have hne:=Lib.hid (show v.heap.size ≠ b by have:=h.lt;omega)
 have hb0:=Lib.hid (show (v.alloc (.cells #[.slice hyp hyn hyc,.slice myp myn myc,.slice syp syn syc,.slice ayp ayn ayc,.slice typ tyn tyc,.slice cyp cyn cyc,.slice eyp eyn eyc] 38)).heap[v.heap.size]? = some (.cells #[.slice hyp hyn hyc,.slice myp myn myc,.slice syp syn syc,.slice ayp ayn ayc,.slice typ tyn tyc,.slice cyp cyn cyc,.slice eyp eyn eyc] 38) from alloc_new v _)
 have es0:(v.alloc (.cells #[.slice hyp hyn hyc,.slice myp myn myc,.slice syp syn syc,.slice ayp ayn ayc,.slice typ tyn tyc,.slice cyp cyn cyc,.slice eyp eyn eyc] 38)).heap.size = v.heap.size + 1:=by simp
 have q1:=(g1) _ (v.alloc (.cells #[.slice hyp hyn hyc,.slice myp myn myc,.slice syp syn syc,.slice ayp ayn ayc,.slice typ tyn tyc,.slice cyp cyn cyc,.slice eyp eyn eyc] 38)) h0 (by (try simp only [List.length_append]);omega)
 have q2:=Lib.hid (fun u (hu:Wr w0 b m1 m2 e1 e2 (t++(T1)) (d:Int) u)=>(@begin_at w0 b m1 m2 e1 e2 d (by omega) [⟨#[109,101,116,97,100,97,116,97]⟩] ([109,101,116,97,100,97,116,97]) (by simp) (by simp [catB])) _ u hu (by (try simp only [List.length_append]);omega))
 have q3:=Lib.hid (fun u (hu:Wr w0 b m1 m2 e1 e2 (t++(T1)++(padB d++([109,101,116,97,100,97,116,97]))) (d:Int) u)=>(g2) _ u hu (by (try simp only [List.length_append]);omega))
 have q4:=Lib.hid (fun u (hu:Wr w0 b m1 m2 e1 e2 (t++(T1)++(padB d++([109,101,116,97,100,97,116,97]))++(T2)) (d:Int) u)=>(@begin_at w0 b m1 m2 e1 e2 d (by omega) [⟨#[112,97,114,115,101,114]⟩] ([112,97,114,115,101,114]) (by simp) (by simp [catB])) _ u hu (by (try simp only [List.length_append]);omega))
 have q5:=Lib.hid (fun u (hu:Wr w0 b m1 m2 e1 e2 (t++(T1)++(padB d++([109,101,116,97,100,97,116,97]))++(T2)++(padB d++([112,97,114,115,101,114]))) (d:Int) u)=>(g3) _ u hu (by (try simp only [List.length_append]);omega))
 have q6:=Lib.hid (fun u (hu:Wr w0 b m1 m2 e1 e2 (t++(T1)++(padB d++([109,101,116,97,100,97,116,97]))++(T2)++(padB d++([112,97,114,115,101,114]))++(T3)) (d:Int) u)=>(g4) _ u hu (by (try simp only [List.length_append]);omega))
 have q7:=Lib.hid (fun u (hu:Wr w0 b m1 m2 e1 e2 (t++(T1)++(padB d++([109,101,116,97,100,97,116,97]))++(T2)++(padB d++([112,97,114,115,101,114]))++(T3)++(T4)) (d:Int) u)=>(g5) _ u hu (by (try simp only [List.length_append]);omega))
 have q8:=Lib.hid (fun u (hu:Wr w0 b m1 m2 e1 e2 (t++(T1)++(padB d++([109,101,116,97,100,97,116,97]))++(T2)++(padB d++([112,97,114,115,101,114]))++(T3)++(T4)++(T5)) (d:Int) u)=>(@begin_at w0 b m1 m2 e1 e2 d (by omega) [⟨#[99,111,110,116,114,111,108]⟩] ([99,111,110,116,114,111,108]) (by simp) (by simp [catB])) _ u hu (by (try simp only [List.length_append]);omega))
 have q9:=Lib.hid (fun u (hu:Wr w0 b m1 m2 e1 e2 (t++(T1)++(padB d++([109,101,116,97,100,97,116,97]))++(T2)++(padB d++([112,97,114,115,101,114]))++(T3)++(T4)++(T5)++(padB d++([99,111,110,116,114,111,108]))) (d:Int) u)=>(g6) _ u hu (by (try simp only [List.length_append]);omega))
 have q10:=Lib.hid (fun u (hu:Wr w0 b m1 m2 e1 e2 (t++(T1)++(padB d++([109,101,116,97,100,97,116,97]))++(T2)++(padB d++([112,97,114,115,101,114]))++(T3)++(T4)++(T5)++(padB d++([99,111,110,116,114,111,108]))++(T6)) (d:Int) u)=>(@begin_at w0 b m1 m2 e1 e2 d (by omega) [⟨#[100,101,112,97,114,115,101,114]⟩] ([100,101,112,97,114,115,101,114]) (by simp) (by simp [catB])) _ u hu (by (try simp only [List.length_append]);omega))
 have q11:=Lib.hid (fun u (hu:Wr w0 b m1 m2 e1 e2 (t++(T1)++(padB d++([109,101,116,97,100,97,116,97]))++(T2)++(padB d++([112,97,114,115,101,114]))++(T3)++(T4)++(T5)++(padB d++([99,111,110,116,114,111,108]))++(T6)++(padB d++([100,101,112,97,114,115,101,114]))) (d:Int) u)=>(g7) _ u hu (by (try simp only [List.length_append]);omega))
 replace q1:=Lib.hid q1
 have hd9:=hd
 clear h hlen h0 hd hd9 es0 g1 g2 g3 g4 g5 g6 g7
 go_enter Tryz.func27,Tryz.ntmps27
 go_wp2_with fail
 refine q1.out.mono ?_
 rintro e u1 ⟨rfl,h1,f1⟩
 have hb1:=Lib.hid (f1.box hb0.out hne.out (show ¬ (38:TypeId) = 5 by decide))
 have y0:u1.cell? ⟨v.heap.size,0,none⟩ = some (.slice hyp hyn hyc):=ch hb1.out
 have y1:u1.cell? ⟨v.heap.size,1,none⟩ = some (.slice myp myn myc):=ch hb1.out
 have y2:u1.cell? ⟨v.heap.size,2,none⟩ = some (.slice syp syn syc):=ch hb1.out
 have y3:u1.cell? ⟨v.heap.size,3,none⟩ = some (.slice ayp ayn ayc):=ch hb1.out
 have y4:u1.cell? ⟨v.heap.size,4,none⟩ = some (.slice typ tyn tyc):=ch hb1.out
 have y5:u1.cell? ⟨v.heap.size,5,none⟩ = some (.slice cyp cyn cyc):=ch hb1.out
 have y6:u1.cell? ⟨v.heap.size,6,none⟩ = some (.slice eyp eyn eyc):=ch hb1.out
 replace q2:=Lib.hid (q2.out u1 h1)
 have f1':=Lib.hid f1
 clear h1 f1 q1
 go_wp2_with fail
 refine q2.out.mono ?_
 rintro e u2 ⟨rfl,h2,f2⟩
 have hb2:=Lib.hid (f2.box hb1.out hne.out (show ¬ (38:TypeId) = 5 by decide))
 have y0:u2.cell? ⟨v.heap.size,0,none⟩ = some (.slice hyp hyn hyc):=ch hb2.out
 have y1:u2.cell? ⟨v.heap.size,1,none⟩ = some (.slice myp myn myc):=ch hb2.out
 have y2:u2.cell? ⟨v.heap.size,2,none⟩ = some (.slice syp syn syc):=ch hb2.out
 have y3:u2.cell? ⟨v.heap.size,3,none⟩ = some (.slice ayp ayn ayc):=ch hb2.out
 have y4:u2.cell? ⟨v.heap.size,4,none⟩ = some (.slice typ tyn tyc):=ch hb2.out
 have y5:u2.cell? ⟨v.heap.size,5,none⟩ = some (.slice cyp cyn cyc):=ch hb2.out
 have y6:u2.cell? ⟨v.heap.size,6,none⟩ = some (.slice eyp eyn eyc):=ch hb2.out
 replace q3:=Lib.hid (q3.out u2 h2)
 have f2':=Lib.hid f2
 clear h2 f2 q2
 go_wp2_with fail
 refine q3.out.mono ?_
 rintro e u3 ⟨rfl,h3,f3⟩
 have hb3:=Lib.hid (f3.box hb2.out hne.out (show ¬ (38:TypeId) = 5 by decide))
 have y0:u3.cell? ⟨v.heap.size,0,none⟩ = some (.slice hyp hyn hyc):=ch hb3.out
 have y1:u3.cell? ⟨v.heap.size,1,none⟩ = some (.slice myp myn myc):=ch hb3.out
 have y2:u3.cell? ⟨v.heap.size,2,none⟩ = some (.slice syp syn syc):=ch hb3.out
 have y3:u3.cell? ⟨v.heap.size,3,none⟩ = some (.slice ayp ayn ayc):=ch hb3.out
 have y4:u3.cell? ⟨v.heap.size,4,none⟩ = some (.slice typ tyn tyc):=ch hb3.out
 have y5:u3.cell? ⟨v.heap.size,5,none⟩ = some (.slice cyp cyn cyc):=ch hb3.out
 have y6:u3.cell? ⟨v.heap.size,6,none⟩ = some (.slice eyp eyn eyc):=ch hb3.out
 replace q4:=Lib.hid (q4.out u3 h3)
 have f3':=Lib.hid f3
 clear h3 f3 q3
 go_wp2_with fail
 refine q4.out.mono ?_
 rintro e u4 ⟨rfl,h4,f4⟩
 have hb4:=Lib.hid (f4.box hb3.out hne.out (show ¬ (38:TypeId) = 5 by decide))
 have y0:u4.cell? ⟨v.heap.size,0,none⟩ = some (.slice hyp hyn hyc):=ch hb4.out
 have y1:u4.cell? ⟨v.heap.size,1,none⟩ = some (.slice myp myn myc):=ch hb4.out
 have y2:u4.cell? ⟨v.heap.size,2,none⟩ = some (.slice syp syn syc):=ch hb4.out
 have y3:u4.cell? ⟨v.heap.size,3,none⟩ = some (.slice ayp ayn ayc):=ch hb4.out
 have y4:u4.cell? ⟨v.heap.size,4,none⟩ = some (.slice typ tyn tyc):=ch hb4.out
 have y5:u4.cell? ⟨v.heap.size,5,none⟩ = some (.slice cyp cyn cyc):=ch hb4.out
 have y6:u4.cell? ⟨v.heap.size,6,none⟩ = some (.slice eyp eyn eyc):=ch hb4.out
 replace q5:=Lib.hid (q5.out u4 h4)
 have f4':=Lib.hid f4
 clear h4 f4 q4
 go_wp2_with fail
 refine q5.out.mono ?_
 rintro e u5 ⟨rfl,h5,f5⟩
 have hb5:=Lib.hid (f5.box hb4.out hne.out (show ¬ (38:TypeId) = 5 by decide))
 have y0:u5.cell? ⟨v.heap.size,0,none⟩ = some (.slice hyp hyn hyc):=ch hb5.out
 have y1:u5.cell? ⟨v.heap.size,1,none⟩ = some (.slice myp myn myc):=ch hb5.out
 have y2:u5.cell? ⟨v.heap.size,2,none⟩ = some (.slice syp syn syc):=ch hb5.out
 have y3:u5.cell? ⟨v.heap.size,3,none⟩ = some (.slice ayp ayn ayc):=ch hb5.out
 have y4:u5.cell? ⟨v.heap.size,4,none⟩ = some (.slice typ tyn tyc):=ch hb5.out
 have y5:u5.cell? ⟨v.heap.size,5,none⟩ = some (.slice cyp cyn cyc):=ch hb5.out
 have y6:u5.cell? ⟨v.heap.size,6,none⟩ = some (.slice eyp eyn eyc):=ch hb5.out
 replace q6:=Lib.hid (q6.out u5 h5)
 have f5':=Lib.hid f5
 clear h5 f5 q5
 go_wp2_with fail
 refine q6.out.mono ?_
 rintro e u6 ⟨rfl,h6,f6⟩
 have hb6:=Lib.hid (f6.box hb5.out hne.out (show ¬ (38:TypeId) = 5 by decide))
 have y0:u6.cell? ⟨v.heap.size,0,none⟩ = some (.slice hyp hyn hyc):=ch hb6.out
 have y1:u6.cell? ⟨v.heap.size,1,none⟩ = some (.slice myp myn myc):=ch hb6.out
 have y2:u6.cell? ⟨v.heap.size,2,none⟩ = some (.slice syp syn syc):=ch hb6.out
 have y3:u6.cell? ⟨v.heap.size,3,none⟩ = some (.slice ayp ayn ayc):=ch hb6.out
 have y4:u6.cell? ⟨v.heap.size,4,none⟩ = some (.slice typ tyn tyc):=ch hb6.out
 have y5:u6.cell? ⟨v.heap.size,5,none⟩ = some (.slice cyp cyn cyc):=ch hb6.out
 have y6:u6.cell? ⟨v.heap.size,6,none⟩ = some (.slice eyp eyn eyc):=ch hb6.out
 replace q7:=Lib.hid (q7.out u6 h6)
 have f6':=Lib.hid f6
 clear h6 f6 q6
 go_wp2_with fail
 refine q7.out.mono ?_
 rintro e u7 ⟨rfl,h7,f7⟩
 have hb7:=Lib.hid (f7.box hb6.out hne.out (show ¬ (38:TypeId) = 5 by decide))
 have y0:u7.cell? ⟨v.heap.size,0,none⟩ = some (.slice hyp hyn hyc):=ch hb7.out
 have y1:u7.cell? ⟨v.heap.size,1,none⟩ = some (.slice myp myn myc):=ch hb7.out
 have y2:u7.cell? ⟨v.heap.size,2,none⟩ = some (.slice syp syn syc):=ch hb7.out
 have y3:u7.cell? ⟨v.heap.size,3,none⟩ = some (.slice ayp ayn ayc):=ch hb7.out
 have y4:u7.cell? ⟨v.heap.size,4,none⟩ = some (.slice typ tyn tyc):=ch hb7.out
 have y5:u7.cell? ⟨v.heap.size,5,none⟩ = some (.slice cyp cyn cyc):=ch hb7.out
 have y6:u7.cell? ⟨v.heap.size,6,none⟩ = some (.slice eyp eyn eyc):=ch hb7.out
 replace q8:=Lib.hid (q8.out u7 h7)
 have f7':=Lib.hid f7
 clear h7 f7 q7
 go_wp2_with fail
 refine q8.out.mono ?_
 rintro e u8 ⟨rfl,h8,f8⟩
 have hb8:=Lib.hid (f8.box hb7.out hne.out (show ¬ (38:TypeId) = 5 by decide))
 have y0:u8.cell? ⟨v.heap.size,0,none⟩ = some (.slice hyp hyn hyc):=ch hb8.out
 have y1:u8.cell? ⟨v.heap.size,1,none⟩ = some (.slice myp myn myc):=ch hb8.out
 have y2:u8.cell? ⟨v.heap.size,2,none⟩ = some (.slice syp syn syc):=ch hb8.out
 have y3:u8.cell? ⟨v.heap.size,3,none⟩ = some (.slice ayp ayn ayc):=ch hb8.out
 have y4:u8.cell? ⟨v.heap.size,4,none⟩ = some (.slice typ tyn tyc):=ch hb8.out
 have y5:u8.cell? ⟨v.heap.size,5,none⟩ = some (.slice cyp cyn cyc):=ch hb8.out
 have y6:u8.cell? ⟨v.heap.size,6,none⟩ = some (.slice eyp eyn eyc):=ch hb8.out
 replace q9:=Lib.hid (q9.out u8 h8)
 have f8':=Lib.hid f8
 clear h8 f8 q8
 go_wp2_with fail
 refine q9.out.mono ?_
 rintro e u9 ⟨rfl,h9,f9⟩
 have hb9:=Lib.hid (f9.box hb8.out hne.out (show ¬ (38:TypeId) = 5 by decide))
 have y0:u9.cell? ⟨v.heap.size,0,none⟩ = some (.slice hyp hyn hyc):=ch hb9.out
 have y1:u9.cell? ⟨v.heap.size,1,none⟩ = some (.slice myp myn myc):=ch hb9.out
 have y2:u9.cell? ⟨v.heap.size,2,none⟩ = some (.slice syp syn syc):=ch hb9.out
 have y3:u9.cell? ⟨v.heap.size,3,none⟩ = some (.slice ayp ayn ayc):=ch hb9.out
 have y4:u9.cell? ⟨v.heap.size,4,none⟩ = some (.slice typ tyn tyc):=ch hb9.out
 have y5:u9.cell? ⟨v.heap.size,5,none⟩ = some (.slice cyp cyn cyc):=ch hb9.out
 have y6:u9.cell? ⟨v.heap.size,6,none⟩ = some (.slice eyp eyn eyc):=ch hb9.out
 replace q10:=Lib.hid (q10.out u9 h9)
 have f9':=Lib.hid f9
 clear h9 f9 q9
 go_wp2_with fail
 refine q10.out.mono ?_
 rintro e u10 ⟨rfl,h10,f10⟩
 have hb10:=Lib.hid (f10.box hb9.out hne.out (show ¬ (38:TypeId) = 5 by decide))
 have y0:u10.cell? ⟨v.heap.size,0,none⟩ = some (.slice hyp hyn hyc):=ch hb10.out
 have y1:u10.cell? ⟨v.heap.size,1,none⟩ = some (.slice myp myn myc):=ch hb10.out
 have y2:u10.cell? ⟨v.heap.size,2,none⟩ = some (.slice syp syn syc):=ch hb10.out
 have y3:u10.cell? ⟨v.heap.size,3,none⟩ = some (.slice ayp ayn ayc):=ch hb10.out
 have y4:u10.cell? ⟨v.heap.size,4,none⟩ = some (.slice typ tyn tyc):=ch hb10.out
 have y5:u10.cell? ⟨v.heap.size,5,none⟩ = some (.slice cyp cyn cyc):=ch hb10.out
 have y6:u10.cell? ⟨v.heap.size,6,none⟩ = some (.slice eyp eyn eyc):=ch hb10.out
 replace q11:=Lib.hid (q11.out u10 h10)
 have f10':=Lib.hid f10
 clear h10 f10 q10
 go_wp2_with fail
 refine q11.out.mono ?_
 rintro e u11 ⟨rfl,h11,f11⟩
 have h11':=Lib.hid h11
 have f11':=Lib.hid f11
 clear h11 f11 q11
 go_wp2
 go_end0
 exact ⟨rfl,by rw [← hXX.out];have:=h11'.out;(try simp only [List.append_assoc] at this ⊢);exact this,f0'.out.trans (f1'.out.trans (f2'.out.trans (f3'.out.trans (f4'.out.trans (f5'.out.trans (f6'.out.trans (f7'.out.trans (f8'.out.trans (f9'.out.trans (f10'.out.trans (f11'.out)))))))))))⟩
end Go.Proofs.YtbelaghcmgefaaaGreatDoor
