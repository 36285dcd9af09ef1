/-
  WHAT IS PROVED HERE: a part of the proof (made narrower and merged by program; the parts: Pi1).
-/
import Derived.Test.YtbelaghcmgefaaaGreatDoorRows
import Derived.WalkKit
import Derived.Lib.Hide
import Derived.WalkSpells
import Derived.WalkLawsBesides
import Derived.Test.YtbelaghcmgefaaaGreatDoorM30
namespace Go.Proofs.YtbelaghcmgefaaaGreatDoor
open Go.RowKit
/-- A call of put, as a step. -/
theorem put_at {w0:World} {b m1 m2:Nat} {e1 e2:Array MapEntry} {d:Int} {l:List ByteArray} {T:List UInt8} (hn:l.length ≤ 1048576) (hT:catB l = T):∀ t v,Wr w0 b m1 m2 e1 e2 t d v → t.length + T.length ≤ 140737488355328 →
  Calls Tryz.prog 41 #[.pointer (some ⟨b,0,none⟩),.slice (some ⟨v.heap.size,0,none⟩) l.length l.length] (v.alloc (.cells (l.map Value.string).toArray 9)) fun e v'=>e = .returned (.tuple #[]) ∧ Wr w0 b m1 m2 e1 e2 (t++T) d v' ∧ Fr b v v':=by
 subst hT
 exact fun t v h hl=>put_new w0 b m1 m2 e1 e2 t d l v h hn hl
theorem begin_at {w0:World} {b m1 m2:Nat} {e1 e2:Array MapEntry} {d:Nat} (hd:d ≤ 1000) {l:List ByteArray} {T:List UInt8} (hn:l.length ≤ 1048576) (hT:catB l = T):∀ t v,Wr w0 b m1 m2 e1 e2 t (d:Int) v → t.length + (padB d++T).length ≤ 140737488355328 →
  Calls Tryz.prog 64 #[.pointer (some ⟨b,0,none⟩),.slice (some ⟨v.heap.size,0,none⟩) l.length l.length] (v.alloc (.cells (l.map Value.string).toArray 9)) fun e v'=>e = .returned (.tuple #[]) ∧ Wr w0 b m1 m2 e1 e2 (t++(padB d++T)) (d:Int) v' ∧ Fr b v v':=by
 subst hT
 exact fun t v h hl=>begin_new w0 b m1 m2 e1 e2 t d l v h (by omega) hn (by rw [List.length_append,padB_length] at hl;omega)
theorem beginnil_at {w0:World} {b m1 m2:Nat} {e1 e2:Array MapEntry} {d:Nat} (hd:d ≤ 1000):∀ t v,Wr w0 b m1 m2 e1 e2 t (d:Int) v → t.length + (padB d).length ≤ 140737488355328 →
  Calls Tryz.prog 64 #[.pointer (some ⟨b,0,none⟩),.slice none 0 0] v fun e v'=>e = .returned (.tuple #[]) ∧ Wr w0 b m1 m2 e1 e2 (t++padB d) (d:Int) v' ∧ Fr b v v' :=
 fun t v h hl=>begin_nil w0 b m1 m2 e1 e2 t d v h (by omega) (by rw [padB_length] at hl;omega)
theorem line_at {w0:World} {b m1 m2:Nat} {e1 e2:Array MapEntry} {d:Nat} (hd:d ≤ 1000) {l:List ByteArray} {T:List UInt8} (hn:l.length ≤ 1048576) (hT:catB l++[10] = T):∀ t v,Wr w0 b m1 m2 e1 e2 t (d:Int) v → t.length + (padB d++T).length ≤ 140737488355328 →
  Calls Tryz.prog 125 #[.pointer (some ⟨b,0,none⟩),.slice (some ⟨v.heap.size,0,none⟩) l.length l.length] (v.alloc (.cells (l.map Value.string).toArray 9)) fun e v'=>e = .returned (.tuple #[]) ∧ Wr w0 b m1 m2 e1 e2 (t++(padB d++T)) (d:Int) v' ∧ Fr b v v':=by
 subst hT
 exact fun t v h hl=>line_new w0 b m1 m2 e1 e2 t d l v h (by omega) hn (by simp only [List.length_append,padB_length,List.length_cons,List.length_nil] at hl;omega)
theorem open_at {w0:World} {b m1 m2:Nat} {e1 e2:Array MapEntry} {d:Nat} (hd:d ≤ 1000):∀ t v,Wr w0 b m1 m2 e1 e2 t (d:Int) v → t.length + ([32,123,10]:List UInt8).length ≤ 140737488355328 →
  Calls Tryz.prog 109 #[.pointer (some ⟨b,0,none⟩)] v fun e v'=>e = .returned (.tuple #[]) ∧ Wr w0 b m1 m2 e1 e2 (t++[32,123,10]) ((d + 1:Nat):Int) v' ∧ Fr b v v' :=
 fun t v h hl=>wr_open w0 b m1 m2 e1 e2 t d v h (by omega) hl
theorem shut_at {w0:World} {b m1 m2:Nat} {e1 e2:Array MapEntry} {d:Nat} (hd:d ≤ 1000) (s:ByteArray):∀ t v,Wr w0 b m1 m2 e1 e2 t ((d + 1:Nat):Int) v → t.length + (padB d++(125 :: s.data.toList)).length ≤ 140737488355328 →
  Calls Tryz.prog 111 #[.pointer (some ⟨b,0,none⟩),.string s] v fun e v'=>e = .returned (.tuple #[]) ∧ Wr w0 b m1 m2 e1 e2 (t++(padB d++(125 :: s.data.toList))) (d:Int) v' ∧ Fr b v v' :=
 fun t v h hl=>wr_shut w0 b m1 m2 e1 e2 t d s v h (by omega) (by
  have e3:s.data.toList.length = s.size:=by rw [Array.length_toList];rfl
  simp only [List.length_append,padB_length,List.length_cons,e3] at hl
  omega)
/-- A call on the writer that writes this, at any text. -/
abbrev Wc (w0:World) (b m1 m2:Nat) (e1 e2:Array MapEntry) (f:FuncId) (args:Array Value) (T:List UInt8) (d d':Int):Prop :=
 ∀ t v,Wr w0 b m1 m2 e1 e2 t d v → t.length + T.length ≤ 140737488355328 → Calls Tryz.prog f args v fun e v'=>e = .returned (.tuple #[]) ∧ Wr w0 b m1 m2 e1 e2 (t++T) d' v' ∧ Fr b v v'
set_option maxHeartbeats 2000000 in
set_option maxRecDepth 100000 in
theorem wr_header_of (w0:World) (b m1 m2:Nat) (e1 e2:Array MapEntry) (d:Nat) (hd:d ≤ 500) (n:ByteArray) (fp:Option Addr) (fn fc:Nat) (FT:List UInt8) (hF:Wc w0 b m1 m2 e1 e2 65 #[.pointer (some ⟨b,0,none⟩),.slice fp fn fc,.func (.func 66) #[.pointer (some ⟨b,0,none⟩)] #[]] FT (d:Int) (d:Int)):Wm w0 b m1 m2 e1 e2 63 (.agg #[.string n,.slice fp fn fc]) ((padB d++([104,101,97,100,101,114,32]++(n.data.toList)))++(FT)) (d:Int):=by
 intro t v h hlen
 obtain ⟨XX,hXX⟩:∃ XX,t++((padB d++([104,101,97,100,101,114,32]++(n.data.toList)))++(FT)) = XX:=⟨_,rfl⟩
 rw [hXX]
 replace hXX:=Lib.hid hXX
 try simp only [List.length_append] at hlen
 have h0:=h.alloc (.cells #[.string n,.slice fp fn fc] 50)
 have f0':=Lib.hid (Fr.alloc b v (.cells #[.string n,.slice fp fn fc] 50))
 have hne:=Lib.hid (show v.heap.size ≠ b by have:=h.lt;omega)
 have hb0:=Lib.hid (show (v.alloc (.cells #[.string n,.slice fp fn fc] 50)).heap[v.heap.size]? = some (.cells #[.string n,.slice fp fn fc] 50) from alloc_new v _)
 have es0:(v.alloc (.cells #[.string n,.slice fp fn fc] 50)).heap.size = v.heap.size + 1:=by simp
 have q1:=(@begin_at w0 b m1 m2 e1 e2 d (by omega) [⟨#[104,101,97,100,101,114,32]⟩,n] ([104,101,97,100,101,114,32]++(n.data.toList)) (by simp) (by simp [catB])) _ (v.alloc (.cells #[.string n,.slice fp fn fc] 50)) h0 (by (try simp only [List.length_append]);omega)
 have q2:=Lib.hid (fun u (hu:Wr w0 b m1 m2 e1 e2 (t++(padB d++([104,101,97,100,101,114,32]++(n.data.toList)))) (d:Int) u)=>(hF) _ u hu (by (try simp only [List.length_append]);omega))
 rw [es0] at q1
 replace q1:=Lib.hid q1
 have hd9:=hd
 clear h hlen h0 hd hd9 es0 hF
 go_enter Tryz.func63,Tryz.ntmps63
 go_wp2_with fail
 refine q1.out.mono ?_
 rintro e u1 ⟨rfl,h1,f1⟩
 have hb1:=Lib.hid (f1.box hb0.out hne.out (show ¬ (50:TypeId) = 5 by decide))
 have y0:u1.cell? ⟨v.heap.size,0,none⟩ = some (.string n):=ch hb1.out
 have y1:u1.cell? ⟨v.heap.size,1,none⟩ = some (.slice fp fn fc):=ch hb1.out
 replace q2:=Lib.hid (q2.out u1 h1)
 have f1':=Lib.hid f1
 clear h1 f1 q1
 go_wp2_with fail
 refine q2.out.mono ?_
 rintro e u2 ⟨rfl,h2,f2⟩
 have h2':=Lib.hid h2
 have f2':=Lib.hid f2
 clear h2 f2 q2
 go_wp2
 go_end0
 exact ⟨rfl,by rw [← hXX.out];have:=h2'.out;(try simp only [List.append_assoc] at this ⊢);exact this,f0'.out.trans (f1'.out.trans (f2'.out))⟩
set_option maxHeartbeats 2000000 in
set_option maxRecDepth 100000 in
theorem wr_state_of (w0:World) (b m1 m2:Nat) (e1 e2:Array MapEntry) (d:Nat) (hd:d ≤ 500) (n tgt:ByteArray) (tp:Option Addr) (tn tc:Nat) (kp:Option Addr) (kn kc:Nat) (cp:Option Addr) (cn cc:Nat) (TT XT:List UInt8) (hT:Wc w0 b m1 m2 e1 e2 114 #[.slice tp tn tc,.func (.func 115) #[.pointer (some ⟨b,0,none⟩)] #[]] TT ((d + 1:Nat):Int) ((d + 1:Nat):Int)) (hX:Wc w0 b m1 m2 e1 e2 116 #[.pointer (some ⟨b,0,none⟩),.agg #[.string n,.slice tp tn tc,.string tgt,.slice kp kn kc,.slice cp cn cc]] XT ((d + 1:Nat):Int) ((d + 1:Nat):Int)):Wm w0 b m1 m2 e1 e2 68 (.agg #[.string n,.slice tp tn tc,.string tgt,.slice kp kn kc,.slice cp cn cc]) ((padB d++([115,116,97,116,101,32]++(n.data.toList)))++(([32,123,10])++((TT)++((XT)++(padB d++(125 :: [10])))))) (d:Int):=by
 intro t v h hlen
 obtain ⟨XX,hXX⟩:∃ XX,t++((padB d++([115,116,97,116,101,32]++(n.data.toList)))++(([32,123,10])++((TT)++((XT)++(padB d++(125 :: [10])))))) = XX:=⟨_,rfl⟩
 rw [hXX]
 replace hXX:=Lib.hid hXX
 try simp only [List.length_append] at hlen
 have h0:=h.alloc (.cells #[.string n,.slice tp tn tc,.string tgt,.slice kp kn kc,.slice cp cn cc] 53)
 have f0':=Lib.hid (Fr.alloc b v (.cells #[.string n,.slice tp tn tc,.string tgt,.slice kp kn kc,.slice cp cn cc] 53))
 have hne:=Lib.hid (show v.heap.size ≠ b by have:=h.lt;omega)
 have hb0:=Lib.hid (show (v.alloc (.cells #[.string n,.slice tp tn tc,.string tgt,.slice kp kn kc,.slice cp cn cc] 53)).heap[v.heap.size]? = some (.cells #[.string n,.slice tp tn tc,.string tgt,.slice kp kn kc,.slice cp cn cc] 53) from alloc_new v _)
 have es0:(v.alloc (.cells #[.string n,.slice tp tn tc,.string tgt,.slice kp kn kc,.slice cp cn cc] 53)).heap.size = v.heap.size + 1:=by simp
 have q1:=(@begin_at w0 b m1 m2 e1 e2 d (by omega) [⟨#[115,116,97,116,101,32]⟩,n] ([115,116,97,116,101,32]++(n.data.toList)) (by simp) (by simp [catB])) _ (v.alloc (.cells #[.string n,.slice tp tn tc,.string tgt,.slice kp kn kc,.slice cp cn cc] 53)) h0 (by (try simp only [List.length_append]);omega)
 have q2:=Lib.hid (fun u (hu:Wr w0 b m1 m2 e1 e2 (t++(padB d++([115,116,97,116,101,32]++(n.data.toList)))) (d:Int) u)=>(@open_at w0 b m1 m2 e1 e2 d (by omega)) _ u hu (by (try simp only [List.length_append]);omega))
 have q3:=Lib.hid (fun u (hu:Wr w0 b m1 m2 e1 e2 (t++(padB d++([115,116,97,116,101,32]++(n.data.toList)))++([32,123,10])) ((d + 1:Nat):Int) u)=>(hT) _ u hu (by (try simp only [List.length_append]);omega))
 have q4:=Lib.hid (fun u (hu:Wr w0 b m1 m2 e1 e2 (t++(padB d++([115,116,97,116,101,32]++(n.data.toList)))++([32,123,10])++(TT)) ((d + 1:Nat):Int) u)=>(hX) _ u hu (by (try simp only [List.length_append]);omega))
 have q5:=Lib.hid (fun u (hu:Wr w0 b m1 m2 e1 e2 (t++(padB d++([115,116,97,116,101,32]++(n.data.toList)))++([32,123,10])++(TT)++(XT)) ((d + 1:Nat):Int) u)=>(@shut_at w0 b m1 m2 e1 e2 d (by omega) ⟨#[10]⟩) _ u hu (by (try simp only [List.length_append]);omega))
 rw [es0] at q1
 replace q1:=Lib.hid q1
 have hd9:=hd
 clear h hlen h0 hd hd9 es0 hT hX
 go_enter Tryz.func68,Tryz.ntmps68
 go_wp2_with fail
 refine q1.out.mono ?_
 rintro e u1 ⟨rfl,h1,f1⟩
 have hb1:=Lib.hid (f1.box hb0.out hne.out (show ¬ (53:TypeId) = 5 by decide))
 have y0:u1.cell? ⟨v.heap.size,0,none⟩ = some (.string n):=ch hb1.out
 have y1:u1.cell? ⟨v.heap.size,1,none⟩ = some (.slice tp tn tc):=ch hb1.out
 have y2:u1.cell? ⟨v.heap.size,2,none⟩ = some (.string tgt):=ch hb1.out
 have y3:u1.cell? ⟨v.heap.size,3,none⟩ = some (.slice kp kn kc):=ch hb1.out
 have y4:u1.cell? ⟨v.heap.size,4,none⟩ = some (.slice cp cn cc):=ch hb1.out
 replace q2:=Lib.hid (q2.out u1 h1)
 have f1':=Lib.hid f1
 clear h1 f1 q1
 go_wp2_with fail
 refine q2.out.mono ?_
 rintro e u2 ⟨rfl,h2,f2⟩
 have hb2:=Lib.hid (f2.box hb1.out hne.out (show ¬ (53:TypeId) = 5 by decide))
 have y0:u2.cell? ⟨v.heap.size,0,none⟩ = some (.string n):=ch hb2.out
 have y1:u2.cell? ⟨v.heap.size,1,none⟩ = some (.slice tp tn tc):=ch hb2.out
 have y2:u2.cell? ⟨v.heap.size,2,none⟩ = some (.string tgt):=ch hb2.out
 have y3:u2.cell? ⟨v.heap.size,3,none⟩ = some (.slice kp kn kc):=ch hb2.out
 have y4:u2.cell? ⟨v.heap.size,4,none⟩ = some (.slice cp cn cc):=ch hb2.out
 replace q3:=Lib.hid (q3.out u2 h2)
 have f2':=Lib.hid f2
 clear h2 f2 q2
 go_wp2_with fail
 refine q3.out.mono ?_
 rintro e u3 ⟨rfl,h3,f3⟩
 have hb3:=Lib.hid (f3.box hb2.out hne.out (show ¬ (53:TypeId) = 5 by decide))
 have y0:u3.cell? ⟨v.heap.size,0,none⟩ = some (.string n):=ch hb3.out
 have y1:u3.cell? ⟨v.heap.size,1,none⟩ = some (.slice tp tn tc):=ch hb3.out
 have y2:u3.cell? ⟨v.heap.size,2,none⟩ = some (.string tgt):=ch hb3.out
 have y3:u3.cell? ⟨v.heap.size,3,none⟩ = some (.slice kp kn kc):=ch hb3.out
 have y4:u3.cell? ⟨v.heap.size,4,none⟩ = some (.slice cp cn cc):=ch hb3.out
 replace q4:=Lib.hid (q4.out u3 h3)
 have f3':=Lib.hid f3
 clear h3 f3 q3
 go_wp2_with fail
 refine q4.out.mono ?_
 rintro e u4 ⟨rfl,h4,f4⟩
 have hb4:=Lib.hid (f4.box hb3.out hne.out (show ¬ (53:TypeId) = 5 by decide))
 have y0:u4.cell? ⟨v.heap.size,0,none⟩ = some (.string n):=ch hb4.out
 have y1:u4.cell? ⟨v.heap.size,1,none⟩ = some (.slice tp tn tc):=ch hb4.out
 have y2:u4.cell? ⟨v.heap.size,2,none⟩ = some (.string tgt):=ch hb4.out
 have y3:u4.cell? ⟨v.heap.size,3,none⟩ = some (.slice kp kn kc):=ch hb4.out
 have y4:u4.cell? ⟨v.heap.size,4,none⟩ = some (.slice cp cn cc):=ch hb4.out
 replace q5:=Lib.hid (q5.out u4 h4)
 have f4':=Lib.hid f4
 clear h4 f4 q4
 go_wp2_with fail
 refine q5.out.mono ?_
 rintro e u5 ⟨rfl,h5,f5⟩
 have h5':=Lib.hid h5
 have f5':=Lib.hid f5
 clear h5 f5 q5
 go_wp2
 go_end0
 exact ⟨rfl,by rw [← hXX.out];have:=h5'.out;(try simp only [List.append_assoc] at this ⊢);exact this,f0'.out.trans (f1'.out.trans (f2'.out.trans (f3'.out.trans (f4'.out.trans (f5'.out)))))⟩
set_option maxHeartbeats 2000000 in
set_option maxRecDepth 100000 in
theorem wr_trans_to (w0:World) (b m1 m2:Nat) (e1 e2:Array MapEntry) (d:Nat) (hd:d ≤ 500) (n tgt:ByteArray) (tp:Option Addr) (tn tc:Nat) (kp:Option Addr) (kn kc:Nat) (cp:Option Addr) (cn cc:Nat) (ht:(tgt.toList == []) = false):Wm w0 b m1 m2 e1 e2 116 (.agg #[.string n,.slice tp tn tc,.string tgt,.slice kp kn kc,.slice cp cn cc]) (padB d++([116,114,97,110,115,105,116,105,111,110,32]++(tgt.data.toList++([59]++([10]))))) (d:Int):=by
 intro t v h hlen
 obtain ⟨XX,hXX⟩:∃ XX,t++(padB d++([116,114,97,110,115,105,116,105,111,110,32]++(tgt.data.toList++([59]++([10]))))) = XX:=⟨_,rfl⟩
 rw [hXX]
 replace hXX:=Lib.hid hXX
 try simp only [List.length_append] at hlen
 have h0:=h.alloc (.cells #[.string n,.slice tp tn tc,.string tgt,.slice kp kn kc,.slice cp cn cc] 53)
 have f0':=Lib.hid (Fr.alloc b v (.cells #[.string n,.slice tp tn tc,.string tgt,.slice kp kn kc,.slice cp cn cc] 53))
 have hne:=Lib.hid (show v.heap.size ≠ b by have:=h.lt;omega)
 have hb0:=Lib.hid (show (v.alloc (.cells #[.string n,.slice tp tn tc,.string tgt,.slice kp kn kc,.slice cp cn cc] 53)).heap[v.heap.size]? = some (.cells #[.string n,.slice tp tn tc,.string tgt,.slice kp kn kc,.slice cp cn cc] 53) from alloc_new v _)
 have es0:(v.alloc (.cells #[.string n,.slice tp tn tc,.string tgt,.slice kp kn kc,.slice cp cn cc] 53)).heap.size = v.heap.size + 1:=by simp
 have q1:=(@line_at w0 b m1 m2 e1 e2 d (by omega) [⟨#[116,114,97,110,115,105,116,105,111,110,32]⟩,tgt,⟨#[59]⟩] ([116,114,97,110,115,105,116,105,111,110,32]++(tgt.data.toList++([59]++([10])))) (by simp) (by simp [catB])) _ (v.alloc (.cells #[.string n,.slice tp tn tc,.string tgt,.slice kp kn kc,.slice cp cn cc] 53)) h0 (by (try simp only [List.length_append]);omega)
 rw [es0] at q1
 replace q1:=Lib.hid q1
 have hd9:=hd
 clear h hlen h0 hd hd9 es0 
 go_enter Tryz.func116,Tryz.ntmps116
 go_wp2_with fail
 refine q1.out.mono ?_
 rintro e u1 ⟨rfl,h1,f1⟩
 have h1':=Lib.hid h1
 have f1':=Lib.hid f1
 clear h1 f1 q1
 go_wp2
 (try simp only [Exit.inBlock,Exit.then])
 refine bodyPost_ret (results_none rfl _ _ _) rfl ?_
 exact ⟨rfl,by rw [← hXX.out];have:=h1'.out;(try simp only [List.append_assoc] at this ⊢);exact this,f0'.out.trans (f1'.out)⟩
set_option maxHeartbeats 2000000 in
set_option maxRecDepth 100000 in
theorem wr_trans_select (w0:World) (b m1 m2:Nat) (e1 e2:Array MapEntry) (d:Nat) (hd:d ≤ 500) (n tgt:ByteArray) (tp:Option Addr) (tn tc:Nat) (kp:Option Addr) (kn kc:Nat) (cp:Option Addr) (cn cc:Nat) (KT CT:List UInt8) (hK:Wc w0 b m1 m2 e1 e2 150 #[.pointer (some ⟨b,0,none⟩),.slice kp kn kc,.func (.func 22) #[.pointer (some ⟨b,0,none⟩)] #[]] KT (d:Int) (d:Int)) (hC:Wc w0 b m1 m2 e1 e2 151 #[.pointer (some ⟨b,0,none⟩),.slice cp cn cc,.func (.func 152) #[.pointer (some ⟨b,0,none⟩)] #[]] CT (d:Int) (d:Int)) (ht:(tgt.toList == []) = true):Wm w0 b m1 m2 e1 e2 116 (.agg #[.string n,.slice tp tn tc,.string tgt,.slice kp kn kc,.slice cp cn cc]) ((padB d++([116,114,97,110,115,105,116,105,111,110,32,115,101,108,101,99,116,40]))++((KT)++(([41])++(CT)))) (d:Int):=by
 intro t v h hlen
 obtain ⟨XX,hXX⟩:∃ XX,t++((padB d++([116,114,97,110,115,105,116,105,111,110,32,115,101,108,101,99,116,40]))++((KT)++(([41])++(CT)))) = XX:=⟨_,rfl⟩
 rw [hXX]
 replace hXX:=Lib.hid hXX
 try simp only [List.length_append] at hlen
 have h0:=h.alloc (.cells #[.string n,.slice tp tn tc,.string tgt,.slice kp kn kc,.slice cp cn cc] 53)
 have f0':=Lib.hid (Fr.alloc b v (.cells #[.string n,.slice tp tn tc,.string tgt,.slice kp kn kc,.slice cp cn cc] 53))
 have hne:=Lib.hid (show v.heap.size ≠ b by have:=h.lt;omega)
 have hb0:=Lib.hid (show (v.alloc (.cells #[.string n,.slice tp tn tc,.string tgt,.slice kp kn kc,.slice cp cn cc] 53)).heap[v.heap.size]? = some (.cells #[.string n,.slice tp tn tc,.string tgt,.slice kp kn kc,.slice cp cn cc] 53) from alloc_new v _)
 have es0:(v.alloc (.cells #[.string n,.slice tp tn tc,.string tgt,.slice kp kn kc,.slice cp cn cc] 53)).heap.size = v.heap.size + 1:=by simp
 have q1:=(@begin_at w0 b m1 m2 e1 e2 d (by omega) [⟨#[116,114,97,110,115,105,116,105,111,110,32,115,101,108,101,99,116,40]⟩] ([116,114,97,110,115,105,116,105,111,110,32,115,101,108,101,99,116,40]) (by simp) (by simp [catB])) _ (v.alloc (.cells #[.string n,.slice tp tn tc,.string tgt,.slice kp kn kc,.slice cp cn cc] 53)) h0 (by (try simp only [List.length_append]);omega)
 have q2:=Lib.hid (fun u (hu:Wr w0 b m1 m2 e1 e2 (t++(padB d++([116,114,97,110,115,105,116,105,111,110,32,115,101,108,101,99,116,40]))) (d:Int) u)=>(hK) _ u hu (by (try simp only [List.length_append]);omega))
 have q3:=Lib.hid (fun u (hu:Wr w0 b m1 m2 e1 e2 (t++(padB d++([116,114,97,110,115,105,116,105,111,110,32,115,101,108,101,99,116,40]))++(KT)) (d:Int) u)=>(@put_at w0 b m1 m2 e1 e2 (d:Int) [⟨#[41]⟩] ([41]) (by simp) (by simp [catB])) _ u hu (by (try simp only [List.length_append]);omega))
 have q4:=Lib.hid (fun u (hu:Wr w0 b m1 m2 e1 e2 (t++(padB d++([116,114,97,110,115,105,116,105,111,110,32,115,101,108,101,99,116,40]))++(KT)++([41])) (d:Int) u)=>(hC) _ u hu (by (try simp only [List.length_append]);omega))
 rw [es0] at q1
 replace q1:=Lib.hid q1
 have hd9:=hd
 clear h hlen h0 hd hd9 es0 hK hC
 go_enter Tryz.func116,Tryz.ntmps116
 go_wp2_with fail
 refine q1.out.mono ?_
 rintro e u1 ⟨rfl,h1,f1⟩
 have hb1:=Lib.hid (f1.box hb0.out hne.out (show ¬ (53:TypeId) = 5 by decide))
 have y0:u1.cell? ⟨v.heap.size,0,none⟩ = some (.string n):=ch hb1.out
 have y1:u1.cell? ⟨v.heap.size,1,none⟩ = some (.slice tp tn tc):=ch hb1.out
 have y2:u1.cell? ⟨v.heap.size,2,none⟩ = some (.string tgt):=ch hb1.out
 have y3:u1.cell? ⟨v.heap.size,3,none⟩ = some (.slice kp kn kc):=ch hb1.out
 have y4:u1.cell? ⟨v.heap.size,4,none⟩ = some (.slice cp cn cc):=ch hb1.out
 replace q2:=Lib.hid (q2.out u1 h1)
 have f1':=Lib.hid f1
 clear h1 f1 q1
 go_wp2_with fail
 refine q2.out.mono ?_
 rintro e u2 ⟨rfl,h2,f2⟩
 have hb2:=Lib.hid (f2.box hb1.out hne.out (show ¬ (53:TypeId) = 5 by decide))
 have y0:u2.cell? ⟨v.heap.size,0,none⟩ = some (.string n):=ch hb2.out
 have y1:u2.cell? ⟨v.heap.size,1,none⟩ = some (.slice tp tn tc):=ch hb2.out
 have y2:u2.cell? ⟨v.heap.size,2,none⟩ = some (.string tgt):=ch hb2.out
 have y3:u2.cell? ⟨v.heap.size,3,none⟩ = some (.slice kp kn kc):=ch hb2.out
 have y4:u2.cell? ⟨v.heap.size,4,none⟩ = some (.slice cp cn cc):=ch hb2.out
 replace q3:=Lib.hid (q3.out u2 h2)
 have f2':=Lib.hid f2
 clear h2 f2 q2
 go_wp2_with fail
 refine q3.out.mono ?_
 rintro e u3 ⟨rfl,h3,f3⟩
 have hb3:=Lib.hid (f3.box hb2.out hne.out (show ¬ (53:TypeId) = 5 by decide))
 have y0:u3.cell? ⟨v.heap.size,0,none⟩ = some (.string n):=ch hb3.out
 have y1:u3.cell? ⟨v.heap.size,1,none⟩ = some (.slice tp tn tc):=ch hb3.out
 have y2:u3.cell? ⟨v.heap.size,2,none⟩ = some (.string tgt):=ch hb3.out
 have y3:u3.cell? ⟨v.heap.size,3,none⟩ = some (.slice kp kn kc):=ch hb3.out
 have y4:u3.cell? ⟨v.heap.size,4,none⟩ = some (.slice cp cn cc):=ch hb3.out
 replace q4:=Lib.hid (q4.out u3 h3)
 have f3':=Lib.hid f3
 clear h3 f3 q3
 go_wp2_with fail
 refine q4.out.mono ?_
 rintro e u4 ⟨rfl,h4,f4⟩
 have h4':=Lib.hid h4
 have f4':=Lib.hid f4
 clear h4 f4 q4
 go_wp2
 go_end0
 exact ⟨rfl,by rw [← hXX.out];have:=h4'.out;(try simp only [List.append_assoc] at this ⊢);exact this,f0'.out.trans (f1'.out.trans (f2'.out.trans (f3'.out.trans (f4'.out))))⟩
set_option maxHeartbeats 2000000 in
set_option maxRecDepth 100000 in
theorem wr_branch_default (w0:World) (b m1 m2:Nat) (e1 e2:Array MapEntry) (d:Nat) (hd:d ≤ 500) (tgt:ByteArray) (sp:Option Addr) (sn sc:Nat) :Wm w0 b m1 m2 e1 e2 152 (.agg #[.bool true,.slice sp sn sc,.string tgt]) ((padB d)++(([100,101,102,97,117,108,116])++([58,32]++(tgt.data.toList++([59,10]))))) (d:Int):=by
 intro t v h hlen
 obtain ⟨XX,hXX⟩:∃ XX,t++((padB d)++(([100,101,102,97,117,108,116])++([58,32]++(tgt.data.toList++([59,10]))))) = XX:=⟨_,rfl⟩
 rw [hXX]
 replace hXX:=Lib.hid hXX
 try simp only [List.length_append] at hlen
 have h0:=h.alloc (.cells #[.bool true,.slice sp sn sc,.string tgt] 57)
 have f0':=Lib.hid (Fr.alloc b v (.cells #[.bool true,.slice sp sn sc,.string tgt] 57))
 have hne:=Lib.hid (show v.heap.size ≠ b by have:=h.lt;omega)
 have hb0:=Lib.hid (show (v.alloc (.cells #[.bool true,.slice sp sn sc,.string tgt] 57)).heap[v.heap.size]? = some (.cells #[.bool true,.slice sp sn sc,.string tgt] 57) from alloc_new v _)
 have es0:(v.alloc (.cells #[.bool true,.slice sp sn sc,.string tgt] 57)).heap.size = v.heap.size + 1:=by simp
 have q1:=(@beginnil_at w0 b m1 m2 e1 e2 d (by omega)) _ (v.alloc (.cells #[.bool true,.slice sp sn sc,.string tgt] 57)) h0 (by (try simp only [List.length_append]);omega)
 have q2:=Lib.hid (fun u (hu:Wr w0 b m1 m2 e1 e2 (t++(padB d)) (d:Int) u)=>(@put_at w0 b m1 m2 e1 e2 (d:Int) [⟨#[100,101,102,97,117,108,116]⟩] ([100,101,102,97,117,108,116]) (by simp) (by simp [catB])) _ u hu (by (try simp only [List.length_append]);omega))
 have q3:=Lib.hid (fun u (hu:Wr w0 b m1 m2 e1 e2 (t++(padB d)++([100,101,102,97,117,108,116])) (d:Int) u)=>(@put_at w0 b m1 m2 e1 e2 (d:Int) [⟨#[58,32]⟩,tgt,⟨#[59,10]⟩] ([58,32]++(tgt.data.toList++([59,10]))) (by simp) (by simp [catB])) _ u hu (by (try simp only [List.length_append]);omega))
 replace q1:=Lib.hid q1
 have hd9:=hd
 clear h hlen h0 hd hd9 es0 
 go_enter Tryz.func152,Tryz.ntmps152
 go_wp2_with fail
 refine q1.out.mono ?_
 rintro e u1 ⟨rfl,h1,f1⟩
 have hb1:=Lib.hid (f1.box hb0.out hne.out (show ¬ (57:TypeId) = 5 by decide))
 have y0:u1.cell? ⟨v.heap.size,0,none⟩ = some (.bool true):=ch hb1.out
 have y1:u1.cell? ⟨v.heap.size,1,none⟩ = some (.slice sp sn sc):=ch hb1.out
 have y2:u1.cell? ⟨v.heap.size,2,none⟩ = some (.string tgt):=ch hb1.out
 replace q2:=Lib.hid (q2.out u1 h1)
 have f1':=Lib.hid f1
 clear h1 f1 q1
 go_wp2_with fail
 refine q2.out.mono ?_
 rintro e u2 ⟨rfl,h2,f2⟩
 have hb2:=Lib.hid (f2.box hb1.out hne.out (show ¬ (57:TypeId) = 5 by decide))
 have y0:u2.cell? ⟨v.heap.size,0,none⟩ = some (.bool true):=ch hb2.out
 have y1:u2.cell? ⟨v.heap.size,1,none⟩ = some (.slice sp sn sc):=ch hb2.out
 have y2:u2.cell? ⟨v.heap.size,2,none⟩ = some (.string tgt):=ch hb2.out
 replace q3:=Lib.hid (q3.out u2 h2)
 have f2':=Lib.hid f2
 clear h2 f2 q2
 go_wp2_with fail
 refine q3.out.mono ?_
 rintro e u3 ⟨rfl,h3,f3⟩
 have h3':=Lib.hid h3
 have f3':=Lib.hid f3
 clear h3 f3 q3
 go_wp2
 go_end0
 exact ⟨rfl,by rw [← hXX.out];have:=h3'.out;(try simp only [List.append_assoc] at this ⊢);exact this,f0'.out.trans (f1'.out.trans (f2'.out.trans (f3'.out)))⟩
set_option maxHeartbeats 2000000 in
set_option maxRecDepth 100000 in
theorem wr_branch_sets (w0:World) (b m1 m2:Nat) (e1 e2:Array MapEntry) (d:Nat) (hd:d ≤ 500) (tgt:ByteArray) (sp:Option Addr) (sn sc:Nat) (ST:List UInt8) (hS:Wc w0 b m1 m2 e1 e2 168 #[.pointer (some ⟨b,0,none⟩),.slice sp sn sc,.func (.func 169) #[.pointer (some ⟨b,0,none⟩)] #[]] ST (d:Int) (d:Int)):Wm w0 b m1 m2 e1 e2 152 (.agg #[.bool false,.slice sp sn sc,.string tgt]) ((padB d)++((ST)++([58,32]++(tgt.data.toList++([59,10]))))) (d:Int):=by
 intro t v h hlen
 obtain ⟨XX,hXX⟩:∃ XX,t++((padB d)++((ST)++([58,32]++(tgt.data.toList++([59,10]))))) = XX:=⟨_,rfl⟩
 rw [hXX]
 replace hXX:=Lib.hid hXX
 try simp only [List.length_append] at hlen
 have h0:=h.alloc (.cells #[.bool false,.slice sp sn sc,.string tgt] 57)
 have f0':=Lib.hid (Fr.alloc b v (.cells #[.bool false,.slice sp sn sc,.string tgt] 57))
 have hne:=Lib.hid (show v.heap.size ≠ b by have:=h.lt;omega)
 have hb0:=Lib.hid (show (v.alloc (.cells #[.bool false,.slice sp sn sc,.string tgt] 57)).heap[v.heap.size]? = some (.cells #[.bool false,.slice sp sn sc,.string tgt] 57) from alloc_new v _)
 have es0:(v.alloc (.cells #[.bool false,.slice sp sn sc,.string tgt] 57)).heap.size = v.heap.size + 1:=by simp
 have q1:=(@beginnil_at w0 b m1 m2 e1 e2 d (by omega)) _ (v.alloc (.cells #[.bool false,.slice sp sn sc,.string tgt] 57)) h0 (by (try simp only [List.length_append]);omega)
 have q2:=Lib.hid (fun u (hu:Wr w0 b m1 m2 e1 e2 (t++(padB d)) (d:Int) u)=>(hS) _ u hu (by (try simp only [List.length_append]);omega))
 have q3:=Lib.hid (fun u (hu:Wr w0 b m1 m2 e1 e2 (t++(padB d)++(ST)) (d:Int) u)=>(@put_at w0 b m1 m2 e1 e2 (d:Int) [⟨#[58,32]⟩,tgt,⟨#[59,10]⟩] ([58,32]++(tgt.data.toList++([59,10]))) (by simp) (by simp [catB])) _ u hu (by (try simp only [List.length_append]);omega))
 replace q1:=Lib.hid q1
 have hd9:=hd
 clear h hlen h0 hd hd9 es0 hS
 go_enter Tryz.func152,Tryz.ntmps152
 go_wp2_with fail
 refine q1.out.mono ?_
 rintro e u1 ⟨rfl,h1,f1⟩
 have hb1:=Lib.hid (f1.box hb0.out hne.out (show ¬ (57:TypeId) = 5 by decide))
 have y0:u1.cell? ⟨v.heap.size,0,none⟩ = some (.bool false):=ch hb1.out
 have y1:u1.cell? ⟨v.heap.size,1,none⟩ = some (.slice sp sn sc):=ch hb1.out
 have y2:u1.cell? ⟨v.heap.size,2,none⟩ = some (.string tgt):=ch hb1.out
 replace q2:=Lib.hid (q2.out u1 h1)
 have f1':=Lib.hid f1
 clear h1 f1 q1
 go_wp2_with fail
 refine q2.out.mono ?_
 rintro e u2 ⟨rfl,h2,f2⟩
 have hb2:=Lib.hid (f2.box hb1.out hne.out (show ¬ (57:TypeId) = 5 by decide))
 have y0:u2.cell? ⟨v.heap.size,0,none⟩ = some (.bool false):=ch hb2.out
 have y1:u2.cell? ⟨v.heap.size,1,none⟩ = some (.slice sp sn sc):=ch hb2.out
 have y2:u2.cell? ⟨v.heap.size,2,none⟩ = some (.string tgt):=ch hb2.out
 replace q3:=Lib.hid (q3.out u2 h2)
 have f2':=Lib.hid f2
 clear h2 f2 q2
 go_wp2_with fail
 refine q3.out.mono ?_
 rintro e u3 ⟨rfl,h3,f3⟩
 have h3':=Lib.hid h3
 have f3':=Lib.hid f3
 clear h3 f3 q3
 go_wp2
 go_end0
 exact ⟨rfl,by rw [← hXX.out];have:=h3'.out;(try simp only [List.append_assoc] at this ⊢);exact this,f0'.out.trans (f1'.out.trans (f2'.out.trans (f3'.out)))⟩
set_option maxHeartbeats 2000000 in
set_option maxRecDepth 100000 in
theorem wr_set_any (w0:World) (b m1 m2:Nat) (e1 e2:Array MapEntry) (d:Nat) (hd:d ≤ 500) (vw vh vl mw mh ml:Int) :Wm w0 b m1 m2 e1 e2 169 (.agg #[.int .u8 1,.int .i64 vw,.int .u64 vh,.int .u64 vl,.int .i64 mw,.int .u64 mh,.int .u64 ml]) ([95]) (d:Int):=by
 intro t v h hlen
 obtain ⟨XX,hXX⟩:∃ XX,t++([95]) = XX:=⟨_,rfl⟩
 rw [hXX]
 replace hXX:=Lib.hid hXX
 try simp only [List.length_append] at hlen
 have h0:=h.alloc (.cells #[.int .u8 1,.int .i64 vw,.int .u64 vh,.int .u64 vl,.int .i64 mw,.int .u64 mh,.int .u64 ml] 141)
 have f0':=Lib.hid (Fr.alloc b v (.cells #[.int .u8 1,.int .i64 vw,.int .u64 vh,.int .u64 vl,.int .i64 mw,.int .u64 mh,.int .u64 ml] 141))
 have hne:=Lib.hid (show v.heap.size ≠ b by have:=h.lt;omega)
 have hb0:=Lib.hid (show (v.alloc (.cells #[.int .u8 1,.int .i64 vw,.int .u64 vh,.int .u64 vl,.int .i64 mw,.int .u64 mh,.int .u64 ml] 141)).heap[v.heap.size]? = some (.cells #[.int .u8 1,.int .i64 vw,.int .u64 vh,.int .u64 vl,.int .i64 mw,.int .u64 mh,.int .u64 ml] 141) from alloc_new v _)
 have es0:(v.alloc (.cells #[.int .u8 1,.int .i64 vw,.int .u64 vh,.int .u64 vl,.int .i64 mw,.int .u64 mh,.int .u64 ml] 141)).heap.size = v.heap.size + 1:=by simp
 have q1:=(@put_at w0 b m1 m2 e1 e2 (d:Int) [⟨#[95]⟩] ([95]) (by simp) (by simp [catB])) _ (v.alloc (.cells #[.int .u8 1,.int .i64 vw,.int .u64 vh,.int .u64 vl,.int .i64 mw,.int .u64 mh,.int .u64 ml] 141)) h0 (by (try simp only [List.length_append]);omega)
 rw [es0] at q1
 replace q1:=Lib.hid q1
 have hd9:=hd
 clear h hlen h0 hd hd9 es0 
 go_enter Tryz.func169,Tryz.ntmps169
 go_wp2_with fail
 refine q1.out.mono ?_
 rintro e u1 ⟨rfl,h1,f1⟩
 have h1':=Lib.hid h1
 have f1':=Lib.hid f1
 clear h1 f1 q1
 go_wp2
 go_end0
 exact ⟨rfl,by rw [← hXX.out];have:=h1'.out;(try simp only [List.append_assoc] at this ⊢);exact this,f0'.out.trans (f1'.out)⟩
set_option maxHeartbeats 2000000 in
set_option maxRecDepth 100000 in
theorem wr_set_one (w0:World) (b m1 m2:Nat) (e1 e2:Array MapEntry) (d:Nat) (hd:d ≤ 500) (vw vh vl mw mh ml:Int) (VT:List UInt8) (hV:Wc w0 b m1 m2 e1 e2 40 #[.pointer (some ⟨b,0,none⟩),.agg #[.int .i64 vw,.int .u64 vh,.int .u64 vl]] VT (d:Int) (d:Int)):Wm w0 b m1 m2 e1 e2 169 (.agg #[.int .u8 2,.int .i64 vw,.int .u64 vh,.int .u64 vl,.int .i64 mw,.int .u64 mh,.int .u64 ml]) (VT) (d:Int):=by
 intro t v h hlen
 obtain ⟨XX,hXX⟩:∃ XX,t++(VT) = XX:=⟨_,rfl⟩
 rw [hXX]
 replace hXX:=Lib.hid hXX
 try simp only [List.length_append] at hlen
 have h0:=h.alloc (.cells #[.int .u8 2,.int .i64 vw,.int .u64 vh,.int .u64 vl,.int .i64 mw,.int .u64 mh,.int .u64 ml] 141)
 have f0':=Lib.hid (Fr.alloc b v (.cells #[.int .u8 2,.int .i64 vw,.int .u64 vh,.int .u64 vl,.int .i64 mw,.int .u64 mh,.int .u64 ml] 141))
 have hne:=Lib.hid (show v.heap.size ≠ b by have:=h.lt;omega)
 have hb0:=Lib.hid (show (v.alloc (.cells #[.int .u8 2,.int .i64 vw,.int .u64 vh,.int .u64 vl,.int .i64 mw,.int .u64 mh,.int .u64 ml] 141)).heap[v.heap.size]? = some (.cells #[.int .u8 2,.int .i64 vw,.int .u64 vh,.int .u64 vl,.int .i64 mw,.int .u64 mh,.int .u64 ml] 141) from alloc_new v _)
 have es0:(v.alloc (.cells #[.int .u8 2,.int .i64 vw,.int .u64 vh,.int .u64 vl,.int .i64 mw,.int .u64 mh,.int .u64 ml] 141)).heap.size = v.heap.size + 1:=by simp
 have q1:=(hV) _ (v.alloc (.cells #[.int .u8 2,.int .i64 vw,.int .u64 vh,.int .u64 vl,.int .i64 mw,.int .u64 mh,.int .u64 ml] 141)) h0 (by (try simp only [List.length_append]);omega)
 replace q1:=Lib.hid q1
 have hd9:=hd
 clear h hlen h0 hd hd9 es0 hV
 go_enter Tryz.func169,Tryz.ntmps169
 go_wp2_with fail
 refine q1.out.mono ?_
 rintro e u1 ⟨rfl,h1,f1⟩
 have h1':=Lib.hid h1
 have f1':=Lib.hid f1
 clear h1 f1 q1
 go_wp2
 go_end0
 exact ⟨rfl,by rw [← hXX.out];have:=h1'.out;(try simp only [List.append_assoc] at this ⊢);exact this,f0'.out.trans (f1'.out)⟩
set_option maxHeartbeats 2000000 in
set_option maxRecDepth 100000 in
theorem wr_set_mask (w0:World) (b m1 m2:Nat) (e1 e2:Array MapEntry) (d:Nat) (hd:d ≤ 500) (vw vh vl mw mh ml:Int) (VT MT:List UInt8) (hV:Wc w0 b m1 m2 e1 e2 40 #[.pointer (some ⟨b,0,none⟩),.agg #[.int .i64 vw,.int .u64 vh,.int .u64 vl]] VT (d:Int) (d:Int)) (hM:Wc w0 b m1 m2 e1 e2 40 #[.pointer (some ⟨b,0,none⟩),.agg #[.int .i64 mw,.int .u64 mh,.int .u64 ml]] MT (d:Int) (d:Int)):Wm w0 b m1 m2 e1 e2 169 (.agg #[.int .u8 3,.int .i64 vw,.int .u64 vh,.int .u64 vl,.int .i64 mw,.int .u64 mh,.int .u64 ml]) ((VT)++(([32,38,38,38,32])++(MT))) (d:Int):=by
 intro t v h hlen
 obtain ⟨XX,hXX⟩:∃ XX,t++((VT)++(([32,38,38,38,32])++(MT))) = XX:=⟨_,rfl⟩
 rw [hXX]
 replace hXX:=Lib.hid hXX
 try simp only [List.length_append] at hlen
 have h0:=h.alloc (.cells #[.int .u8 3,.int .i64 vw,.int .u64 vh,.int .u64 vl,.int .i64 mw,.int .u64 mh,.int .u64 ml] 141)
 have f0':=Lib.hid (Fr.alloc b v (.cells #[.int .u8 3,.int .i64 vw,.int .u64 vh,.int .u64 vl,.int .i64 mw,.int .u64 mh,.int .u64 ml] 141))
 have hne:=Lib.hid (show v.heap.size ≠ b by have:=h.lt;omega)
 have hb0:=Lib.hid (show (v.alloc (.cells #[.int .u8 3,.int .i64 vw,.int .u64 vh,.int .u64 vl,.int .i64 mw,.int .u64 mh,.int .u64 ml] 141)).heap[v.heap.size]? = some (.cells #[.int .u8 3,.int .i64 vw,.int .u64 vh,.int .u64 vl,.int .i64 mw,.int .u64 mh,.int .u64 ml] 141) from alloc_new v _)
 have es0:(v.alloc (.cells #[.int .u8 3,.int .i64 vw,.int .u64 vh,.int .u64 vl,.int .i64 mw,.int .u64 mh,.int .u64 ml] 141)).heap.size = v.heap.size + 1:=by simp
 have q1:=(hV) _ (v.alloc (.cells #[.int .u8 3,.int .i64 vw,.int .u64 vh,.int .u64 vl,.int .i64 mw,.int .u64 mh,.int .u64 ml] 141)) h0 (by (try simp only [List.length_append]);omega)
 have q2:=Lib.hid (fun u (hu:Wr w0 b m1 m2 e1 e2 (t++(VT)) (d:Int) u)=>(@put_at w0 b m1 m2 e1 e2 (d:Int) [⟨#[32,38,38,38,32]⟩] ([32,38,38,38,32]) (by simp) (by simp [catB])) _ u hu (by (try simp only [List.length_append]);omega))
 have q3:=Lib.hid (fun u (hu:Wr w0 b m1 m2 e1 e2 (t++(VT)++([32,38,38,38,32])) (d:Int) u)=>(hM) _ u hu (by (try simp only [List.length_append]);omega))
 replace q1:=Lib.hid q1
 have hd9:=hd
 clear h hlen h0 hd hd9 es0 hV hM
 go_enter Tryz.func169,Tryz.ntmps169
 go_wp2_with fail
 refine q1.out.mono ?_
 rintro e u1 ⟨rfl,h1,f1⟩
 have hb1:=Lib.hid (f1.box hb0.out hne.out (show ¬ (141:TypeId) = 5 by decide))
 have y0:u1.cell? ⟨v.heap.size,0,none⟩ = some (.int .u8 3):=ch hb1.out
 have y1:u1.cell? ⟨v.heap.size,1,none⟩ = some (.int .i64 vw):=ch hb1.out
 have y2:u1.cell? ⟨v.heap.size,2,none⟩ = some (.int .u64 vh):=ch hb1.out
 have y3:u1.cell? ⟨v.heap.size,3,none⟩ = some (.int .u64 vl):=ch hb1.out
 have y4:u1.cell? ⟨v.heap.size,4,none⟩ = some (.int .i64 mw):=ch hb1.out
 have y5:u1.cell? ⟨v.heap.size,5,none⟩ = some (.int .u64 mh):=ch hb1.out
 have y6:u1.cell? ⟨v.heap.size,6,none⟩ = some (.int .u64 ml):=ch hb1.out
 replace q2:=Lib.hid (q2.out u1 h1)
 have f1':=Lib.hid f1
 clear h1 f1 q1
 go_wp2_with fail
 refine q2.out.mono ?_
 rintro e u2 ⟨rfl,h2,f2⟩
 have hb2:=Lib.hid (f2.box hb1.out hne.out (show ¬ (141:TypeId) = 5 by decide))
 have y0:u2.cell? ⟨v.heap.size,0,none⟩ = some (.int .u8 3):=ch hb2.out
 have y1:u2.cell? ⟨v.heap.size,1,none⟩ = some (.int .i64 vw):=ch hb2.out
 have y2:u2.cell? ⟨v.heap.size,2,none⟩ = some (.int .u64 vh):=ch hb2.out
 have y3:u2.cell? ⟨v.heap.size,3,none⟩ = some (.int .u64 vl):=ch hb2.out
 have y4:u2.cell? ⟨v.heap.size,4,none⟩ = some (.int .i64 mw):=ch hb2.out
 have y5:u2.cell? ⟨v.heap.size,5,none⟩ = some (.int .u64 mh):=ch hb2.out
 have y6:u2.cell? ⟨v.heap.size,6,none⟩ = some (.int .u64 ml):=ch hb2.out
 replace q3:=Lib.hid (q3.out u2 h2)
 have f2':=Lib.hid f2
 clear h2 f2 q2
 go_wp2_with fail
 refine q3.out.mono ?_
 rintro e u3 ⟨rfl,h3,f3⟩
 have h3':=Lib.hid h3
 have f3':=Lib.hid f3
 clear h3 f3 q3
 go_wp2
 go_end0
 exact ⟨rfl,by rw [← hXX.out];have:=h3'.out;(try simp only [List.append_assoc] at this ⊢);exact this,f0'.out.trans (f1'.out.trans (f2'.out.trans (f3'.out)))⟩
set_option maxHeartbeats 2000000 in
set_option maxRecDepth 100000 in
theorem wr_action_of (w0:World) (b m1 m2:Nat) (e1 e2:Array MapEntry) (d:Nat) (hd:d ≤ 500) (n:ByteArray) (pp:Option Addr) (pn pc:Nat) (qp:Option Addr) (qn qc:Nat) (PT BT:List UInt8) (hP:Wc w0 b m1 m2 e1 e2 117 #[.pointer (some ⟨b,0,none⟩),.slice pp pn pc,.func (.func 112) #[.pointer (some ⟨b,0,none⟩)] #[]] PT (d:Int) (d:Int)) (hB:Wc w0 b m1 m2 e1 e2 73 #[.pointer (some ⟨b,0,none⟩),.slice qp qn qc,.func (.func 74) #[.pointer (some ⟨b,0,none⟩)] #[]] BT (d:Int) (d:Int)):Wm w0 b m1 m2 e1 e2 70 (.agg #[.string n,.slice pp pn pc,.slice qp qn qc]) ((padB d++([97,99,116,105,111,110,32]++(n.data.toList++([40]))))++((PT)++(([41])++(BT)))) (d:Int):=by
 intro t v h hlen
 obtain ⟨XX,hXX⟩:∃ XX,t++((padB d++([97,99,116,105,111,110,32]++(n.data.toList++([40]))))++((PT)++(([41])++(BT)))) = XX:=⟨_,rfl⟩
 rw [hXX]
 replace hXX:=Lib.hid hXX
 try simp only [List.length_append] at hlen
 have h0:=h.alloc (.cells #[.string n,.slice pp pn pc,.slice qp qn qc] 59)
 have f0':=Lib.hid (Fr.alloc b v (.cells #[.string n,.slice pp pn pc,.slice qp qn qc] 59))
 have hne:=Lib.hid (show v.heap.size ≠ b by have:=h.lt;omega)
 have hb0:=Lib.hid (show (v.alloc (.cells #[.string n,.slice pp pn pc,.slice qp qn qc] 59)).heap[v.heap.size]? = some (.cells #[.string n,.slice pp pn pc,.slice qp qn qc] 59) from alloc_new v _)
 have es0:(v.alloc (.cells #[.string n,.slice pp pn pc,.slice qp qn qc] 59)).heap.size = v.heap.size + 1:=by simp
 have q1:=(@begin_at w0 b m1 m2 e1 e2 d (by omega) [⟨#[97,99,116,105,111,110,32]⟩,n,⟨#[40]⟩] ([97,99,116,105,111,110,32]++(n.data.toList++([40]))) (by simp) (by simp [catB])) _ (v.alloc (.cells #[.string n,.slice pp pn pc,.slice qp qn qc] 59)) h0 (by (try simp only [List.length_append]);omega)
 have q2:=Lib.hid (fun u (hu:Wr w0 b m1 m2 e1 e2 (t++(padB d++([97,99,116,105,111,110,32]++(n.data.toList++([40]))))) (d:Int) u)=>(hP) _ u hu (by (try simp only [List.length_append]);omega))
 have q3:=Lib.hid (fun u (hu:Wr w0 b m1 m2 e1 e2 (t++(padB d++([97,99,116,105,111,110,32]++(n.data.toList++([40]))))++(PT)) (d:Int) u)=>(@put_at w0 b m1 m2 e1 e2 (d:Int) [⟨#[41]⟩] ([41]) (by simp) (by simp [catB])) _ u hu (by (try simp only [List.length_append]);omega))
 have q4:=Lib.hid (fun u (hu:Wr w0 b m1 m2 e1 e2 (t++(padB d++([97,99,116,105,111,110,32]++(n.data.toList++([40]))))++(PT)++([41])) (d:Int) u)=>(hB) _ u hu (by (try simp only [List.length_append]);omega))
 rw [es0] at q1
 replace q1:=Lib.hid q1
 have hd9:=hd
 clear h hlen h0 hd hd9 es0 hP hB
 go_enter Tryz.func70,Tryz.ntmps70
 go_wp2_with fail
 refine q1.out.mono ?_
 rintro e u1 ⟨rfl,h1,f1⟩
 have hb1:=Lib.hid (f1.box hb0.out hne.out (show ¬ (59:TypeId) = 5 by decide))
 have y0:u1.cell? ⟨v.heap.size,0,none⟩ = some (.string n):=ch hb1.out
 have y1:u1.cell? ⟨v.heap.size,1,none⟩ = some (.slice pp pn pc):=ch hb1.out
 have y2:u1.cell? ⟨v.heap.size,2,none⟩ = some (.slice qp qn qc):=ch hb1.out
 replace q2:=Lib.hid (q2.out u1 h1)
 have f1':=Lib.hid f1
 clear h1 f1 q1
 go_wp2_with fail
 refine q2.out.mono ?_
 rintro e u2 ⟨rfl,h2,f2⟩
 have hb2:=Lib.hid (f2.box hb1.out hne.out (show ¬ (59:TypeId) = 5 by decide))
 have y0:u2.cell? ⟨v.heap.size,0,none⟩ = some (.string n):=ch hb2.out
 have y1:u2.cell? ⟨v.heap.size,1,none⟩ = some (.slice pp pn pc):=ch hb2.out
 have y2:u2.cell? ⟨v.heap.size,2,none⟩ = some (.slice qp qn qc):=ch hb2.out
 replace q3:=Lib.hid (q3.out u2 h2)
 have f2':=Lib.hid f2
 clear h2 f2 q2
 go_wp2_with fail
 refine q3.out.mono ?_
 rintro e u3 ⟨rfl,h3,f3⟩
 have hb3:=Lib.hid (f3.box hb2.out hne.out (show ¬ (59:TypeId) = 5 by decide))
 have y0:u3.cell? ⟨v.heap.size,0,none⟩ = some (.string n):=ch hb3.out
 have y1:u3.cell? ⟨v.heap.size,1,none⟩ = some (.slice pp pn pc):=ch hb3.out
 have y2:u3.cell? ⟨v.heap.size,2,none⟩ = some (.slice qp qn qc):=ch hb3.out
 replace q4:=Lib.hid (q4.out u3 h3)
 have f3':=Lib.hid f3
 clear h3 f3 q3
 go_wp2_with fail
 refine q4.out.mono ?_
 rintro e u4 ⟨rfl,h4,f4⟩
 have h4':=Lib.hid h4
 have f4':=Lib.hid f4
 clear h4 f4 q4
 go_wp2
 go_end0
 exact ⟨rfl,by rw [← hXX.out];have:=h4'.out;(try simp only [List.append_assoc] at this ⊢);exact this,f0'.out.trans (f1'.out.trans (f2'.out.trans (f3'.out.trans (f4'.out))))⟩
end Go.Proofs.YtbelaghcmgefaaaGreatDoor
