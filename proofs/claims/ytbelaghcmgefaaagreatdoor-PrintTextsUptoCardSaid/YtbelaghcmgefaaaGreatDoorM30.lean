/-
  WHAT IS PROVED HERE: a part of the proof (made narrower and merged by program; the parts: Pe Pf Pg).
-/
import Derived.Test.YtbelaghcmgefaaaGreatDoorRows
import Derived.WalkKit
import Derived.Lib.Hide
import Derived.WalkSpells
import Derived.WalkLawsBesides
import Derived.Test.YtbelaghcmgefaaaGreatDoorM29
namespace Go.Proofs.YtbelaghcmgefaaaGreatDoor
open Go.RowKit
theorem plus_heap {v:World} {k:Nat} {x:Obj} (h:v.heap[k]? = some x) (y:Ext):(plus v y).heap[k]? = some x:=by
 have hl:=(Array.getElem?_eq_some_iff.1 h).1
 rw [show (plus v y).heap[k]? = v.heap[k]? by simp [Go.Proofs.YtbelaghcmgefaaaGreatDoor.plus,Array.getElem?_append,hl]]
 exact h
theorem Fr.plus (b:Nat) (v:World) (y:Ext):Fr b v (plus v y):=⟨size_plus v y,fun _ _ h _ _=>plus_heap h y⟩
theorem WrP.plus {w0 v:World} {b m1 m2:Nat} {e1 e2:Array MapEntry} {p:Value} {t:List UInt8} {d:Int} (h:WrP w0 b m1 m2 e1 e2 p t d v) (y:Ext):WrP w0 b m1 m2 e1 e2 p t d (plus v y):=by
 refine ⟨h.base.trans ((below_plus v y).mono h.base.size),h.le,?_,h.k1.fr h.no_map (Fr.plus b v y),h.k2.fr h.no_map (Fr.plus b v y)⟩
 obtain ⟨sl,hb,ho⟩:=h.one
 refine ⟨sl,plus_heap hb y,?_⟩
 refine ⟨ho.1,?_⟩
 rcases ho.2 with hn | ⟨g,cap,cur,hv,hg,hgg,rest⟩
 ·exact .inl hn
 ·exact .inr ⟨g,cap,cur,hv,hg,plus_heap hgg y,rest⟩
theorem Wr.plus {w0 v:World} {b m1 m2:Nat} {e1 e2:Array MapEntry} {t:List UInt8} {d:Int} (h:Wr w0 b m1 m2 e1 e2 t d v) (y:Ext):Wr w0 b m1 m2 e1 e2 t d (plus v y):=by
 rcases h with h | h
 ·exact .inl (h.plus y)
 ·exact .inr (h.plus y)
/-- A box beside the writer: it stands behind whatever is written. -/
theorem Fr.box {b k:Nat} {u v:World} {cs:Array Value} {T:TypeId} {fr:Nat × Nat} (f:Fr b u v) (h:u.heap[k]? = some (.cells cs T fr)) (hk:k ≠ b) (hT:T ≠ 5):v.heap[k]? = some (.cells cs T fr) :=
 f.keep k _ h hk (fun cs' fr' e=>hT (by injection e))
theorem Kp.over {f:FuncId} {args:Array Value} {x:Value} {w0 u:World} {b m1 m2:Nat} {e1 e2:Array MapEntry} {t:List UInt8} {d:Int} (h:Kp Tryz.prog w0 f args x) (hw:Wr w0 b m1 m2 e1 e2 t d u):Calls Tryz.prog f args u fun e w'=>e = .returned x ∧ ∃ y,w' = Go.Proofs.YtbelaghcmgefaaaGreatDoor.plus u y:=by
 obtain ⟨z,rfl⟩:=hw.over
 exact h z
set_option maxHeartbeats 1000000 in
set_option maxRecDepth 100000 in
theorem wr_lit_of (w0:World) (b m1 m2:Nat) (e1 e2:Array MapEntry) (d:Int) (lw lh ll:Int) (I T:ByteArray) (hI:0 < lw → Kp Tryz.prog w0 43 #[.int .i64 lw] (.string I)) (hT:Kp Tryz.prog w0 89 #[.agg #[.int .u64 lh,.int .u64 ll]] (.string T)) :
  Wm w0 b m1 m2 e1 e2 40 (.agg #[.int .i64 lw,.int .u64 lh,.int .u64 ll]) ((if 0 < lw then I.data.toList++[119] else [])++T.data.toList) d:=by
 intro t v h hlen
 have hb:=h.lt
 have hne:v.heap.size ≠ b:=by omega
 have hbox:(v.alloc (.cells #[.int .i64 lw,.int .u64 lh,.int .u64 ll] 26)).heap[v.heap.size]? = some (.cells #[.int .i64 lw,.int .u64 lh,.int .u64 ll] 26):=alloc_new v _
 have h1:=h.alloc (.cells #[.int .i64 lw,.int .u64 lh,.int .u64 ll] 26)
 have f1:=Fr.alloc b v (.cells #[.int .i64 lw,.int .u64 lh,.int .u64 ll] 26)
 have sz:∀ s:ByteArray,s.data.toList.length = s.size:=fun s=>by rw [Array.length_toList];rfl
 by_cases hw:0 < lw
 case neg =>
  rw [if_neg hw] at hlen ⊢
  simp only [List.nil_append,sz] at hlen ⊢
  have qT:=Lib.hid (hT.over h1)
  have hp:=Lib.hid (fun y=>put_new w0 b m1 m2 e1 e2 t d [T] _ (h1.plus y) (by simp) (by
   simp only [catB,List.append_nil,sz]
   exact hlen))
  have f1':=Lib.hid f1
  clear h hb hne hbox h1 f1 sz hI hT hlen
  go_enter Tryz.func40,Tryz.ntmps40
  go_wp2_with fail
  refine qT.out.mono ?_
  rintro e u ⟨rfl,y,rfl⟩
  have q:=Lib.hid (hp.out y)
  have f2:=Lib.hid (Fr.plus b (v.alloc (.cells #[.int .i64 lw,.int .u64 lh,.int .u64 ll] 26)) y)
  generalize Go.Proofs.YtbelaghcmgefaaaGreatDoor.plus (v.alloc (.cells #[.int .i64 lw,.int .u64 lh,.int .u64 ll] 26)) y = u at *
  clear qT hp
  go_wp2_with fail
  refine q.out.mono ?_
  rintro e u2 ⟨rfl,h3,f3⟩
  have h3':=Lib.hid h3
  have f3':=Lib.hid f3
  clear h3 f3 q
  go_wp2
  go_end0
  exact ⟨rfl,by have:=h3'.out;simpa [catB] using this,f1'.out.trans (f2.out.trans f3'.out)⟩
 case pos =>
  rw [if_pos hw] at hlen ⊢
  have hlen':t.length + (I.size + 1 + T.size) ≤ 140737488355328:=by
   simp only [List.length_append,sz,List.length_cons,List.length_nil] at hlen
   omega
  have qI:=Lib.hid ((hI hw).over h1)
  have hp:=Lib.hid (fun y=>put_new w0 b m1 m2 e1 e2 t d [I,⟨#[119]⟩] _ (h1.plus y) (by simp) (by
   have e3:(#[119]:Array UInt8).toList.length = 1:=rfl
   simp only [catB,List.append_nil,List.length_append,sz,e3]
   omega))
  have hbx:=Lib.hid (fun y=>plus_heap hbox y)
  have hT':=Lib.hid hT
  have hne':=Lib.hid hne
  have hlen2:=Lib.hid hlen'
  have sz':=Lib.hid sz
  have f1':=Lib.hid f1
  clear h hb hne hbox h1 f1 sz hI hT hlen hlen'
  go_enter Tryz.func40,Tryz.ntmps40
  go_wp2_with fail
  refine qI.out.mono ?_
  rintro e u ⟨rfl,y,rfl⟩
  have q:=Lib.hid (hp.out y)
  have hb2:=Lib.hid (hbx.out y)
  have f2:=Lib.hid (Fr.plus b (v.alloc (.cells #[.int .i64 lw,.int .u64 lh,.int .u64 ll] 26)) y)
  generalize Go.Proofs.YtbelaghcmgefaaaGreatDoor.plus (v.alloc (.cells #[.int .i64 lw,.int .u64 lh,.int .u64 ll] 26)) y = u at *
  clear qI hp hbx
  go_wp2_with fail
  refine q.out.mono ?_
  rintro e u2 ⟨rfl,h3,f3⟩
  have hb3:=f3.box hb2.out hne'.out (show ¬ (26:TypeId) = 5 by decide)
  have y0:u2.cell? ⟨v.heap.size,0,none⟩ = some (.int .i64 lw):=ch hb3
  have y1:u2.cell? ⟨v.heap.size,1,none⟩ = some (.int .u64 lh):=ch hb3
  have y2:u2.cell? ⟨v.heap.size,2,none⟩ = some (.int .u64 ll):=ch hb3
  have qT:=Lib.hid (hT'.out.over h3)
  have hp:=Lib.hid (fun y=>put_new w0 b m1 m2 e1 e2 _ d [T] _ (h3.plus y) (by simp) (by
   have e3:(#[119]:Array UInt8).toList.length = 1:=rfl
   have:=hlen2.out
   simp only [catB,List.append_nil,List.length_append,sz'.out,e3]
   omega))
  have f3':=Lib.hid f3
  clear h3 f3 q hb3 hb2
  go_wp2_with fail
  refine qT.out.mono ?_
  rintro e u3 ⟨rfl,y,rfl⟩
  have q:=Lib.hid (hp.out y)
  have f4:=Lib.hid (Fr.plus b u2 y)
  generalize Go.Proofs.YtbelaghcmgefaaaGreatDoor.plus u2 y = u4 at *
  clear qT hp y0 y1 y2
  go_wp2_with fail
  refine q.out.mono ?_
  rintro e u5 ⟨rfl,h5,f5⟩
  have h5':=Lib.hid h5
  have f5':=Lib.hid f5
  clear h5 f5 q
  go_wp2
  go_end0
  exact ⟨rfl,by have:=h5'.out;simpa [catB] using this,f1'.out.trans (f2.out.trans (f3'.out.trans (f4.out.trans f5'.out)))⟩
set_option maxHeartbeats 1000000 in
set_option maxRecDepth 100000 in
theorem wr_listed (w0:World) (b m1 m2:Nat) (e1 e2:Array MapEntry) (d:Nat) (hd:d ≤ 1000000) (s:ByteArray):Wm w0 b m1 m2 e1 e2 120 (.string s) (padB d++(catB [s,⟨#[59]⟩]++[10])) (d:Int):=by
 intro t v h hlen
 have q:=Lib.hid (line_new w0 b m1 m2 e1 e2 t d [s,⟨#[59]⟩] v h (by omega) (by simp) (by
  rw [List.length_append,List.length_append,padB_length] at hlen
  simp only [List.length_cons,List.length_nil] at hlen
  omega))
 clear h hlen hd
 go_enter Tryz.func120,Tryz.ntmps120
 go_wp2_with fail
 refine q.out.mono ?_
 rintro e u ⟨rfl,h1,f1⟩
 have h1':=Lib.hid h1
 have f1':=Lib.hid f1
 clear h1 f1 q
 go_wp2
 go_end0
 exact ⟨rfl,h1'.out,f1'.out⟩
set_option maxHeartbeats 1000000 in
set_option maxRecDepth 100000 in
theorem wr_emit (w0:World) (b m1 m2:Nat) (e1 e2:Array MapEntry) (d:Nat) (hd:d ≤ 1000000) (s:ByteArray):Wm w0 b m1 m2 e1 e2 76 (.string s) (padB d++(catB [⟨#[101,109,105,116,40]⟩,s,⟨#[41,59]⟩]++[10])) (d:Int):=by
 intro t v h hlen
 have q:=Lib.hid (line_new w0 b m1 m2 e1 e2 t d [⟨#[101,109,105,116,40]⟩,s,⟨#[41,59]⟩] v h (by omega) (by simp) (by
  rw [List.length_append,List.length_append,padB_length] at hlen
  simp only [List.length_cons,List.length_nil] at hlen
  omega))
 clear h hlen hd
 go_enter Tryz.func76,Tryz.ntmps76
 go_wp2_with fail
 refine q.out.mono ?_
 rintro e u ⟨rfl,h1,f1⟩
 have h1':=Lib.hid h1
 have f1':=Lib.hid f1
 clear h1 f1 q
 go_wp2
 go_end0
 exact ⟨rfl,h1'.out,f1'.out⟩
set_option maxHeartbeats 1000000 in
set_option maxRecDepth 100000 in
theorem wr_take (w0:World) (b m1 m2:Nat) (e1 e2:Array MapEntry) (d:Nat) (hd:d ≤ 1000000) (s:ByteArray):Wm w0 b m1 m2 e1 e2 115 (.string s) (padB d++(catB [⟨#[101,120,116,114,97,99,116,40]⟩,s,⟨#[41,59]⟩]++[10])) (d:Int):=by
 intro t v h hlen
 have q:=Lib.hid (line_new w0 b m1 m2 e1 e2 t d [⟨#[101,120,116,114,97,99,116,40]⟩,s,⟨#[41,59]⟩] v h (by omega) (by simp) (by
  rw [List.length_append,List.length_append,padB_length] at hlen
  simp only [List.length_cons,List.length_nil] at hlen
  omega))
 clear h hlen hd
 go_enter Tryz.func115,Tryz.ntmps115
 go_wp2_with fail
 refine q.out.mono ?_
 rintro e u ⟨rfl,h1,f1⟩
 have h1':=Lib.hid h1
 have f1':=Lib.hid f1
 clear h1 f1 q
 go_wp2
 go_end0
 exact ⟨rfl,h1'.out,f1'.out⟩
set_option maxHeartbeats 1000000 in
set_option maxRecDepth 100000 in
theorem wr_field_of (w0:World) (b m1 m2:Nat) (e1 e2:Array MapEntry) (d:Nat) (hd:d ≤ 1000000) (n:ByteArray) (k:Int) (T:List UInt8) (hP:Wm w0 b m1 m2 e1 e2 112 (.agg #[.string n,.int .i64 k]) T (d:Int)) :
  Wm w0 b m1 m2 e1 e2 66 (.agg #[.string n,.int .i64 k]) (padB d++(T++[59,10])) (d:Int):=by
 intro t v h hlen
 have hL:t.length + 2 * d + T.length + 2 ≤ 140737488355328:=by
  rw [List.length_append,List.length_append,padB_length] at hlen
  simp only [List.length_cons,List.length_nil] at hlen
  omega
 have h1:=h.alloc (.cells #[.string n,.int .i64 k] 88)
 have f1:=Lib.hid (Fr.alloc b v (.cells #[.string n,.int .i64 k] 88))
 have hne:=Lib.hid (show v.heap.size ≠ b by have:=h.lt;omega)
 have hbox:=Lib.hid (show (v.alloc (.cells #[.string n,.int .i64 k] 88)).heap[v.heap.size]? = some (.cells #[.string n,.int .i64 k] 88) from alloc_new v _)
 have q1:=Lib.hid (begin_nil w0 b m1 m2 e1 e2 t d _ h1 (by omega) (by omega))
 have q2:=Lib.hid (fun u (hu:Wr w0 b m1 m2 e1 e2 (t++padB d) (d:Int) u)=>hP (t++padB d) u hu (by rw [List.length_append,padB_length];omega))
 have q3:=Lib.hid (fun u (hu:Wr w0 b m1 m2 e1 e2 (t++padB d++T) (d:Int) u)=>put_new w0 b m1 m2 e1 e2 (t++padB d++T) (d:Int) [⟨#[59,10]⟩] u hu (by simp) (by
  have e3:(catB [⟨#[59,10]⟩]).length = 2:=rfl
  rw [e3,List.length_append,List.length_append,padB_length]
  omega))
 clear h hlen hL h1 hP hd
 go_enter Tryz.func66,Tryz.ntmps66
 go_wp2_with fail
 refine q1.out.mono ?_
 rintro e u ⟨rfl,h2,f2⟩
 have hb2:=f2.box hbox.out hne.out (show ¬ (88:TypeId) = 5 by decide)
 have y0:u.cell? ⟨v.heap.size,0,none⟩ = some (.string n):=ch hb2
 have y1:u.cell? ⟨v.heap.size,1,none⟩ = some (.int .i64 k):=ch hb2
 have q2':=Lib.hid (q2.out u h2)
 have f2':=Lib.hid f2
 clear h2 f2 hb2 q1 q2
 go_wp2_with fail
 refine q2'.out.mono ?_
 rintro e u3 ⟨rfl,h3,f3⟩
 have q3':=Lib.hid (q3.out u3 h3)
 have f3':=Lib.hid f3
 clear h3 f3 q3 q2' y0 y1
 go_wp2_with fail
 refine q3'.out.mono ?_
 rintro e u4 ⟨rfl,h4,f4⟩
 have h4':=Lib.hid h4
 have f4':=Lib.hid f4
 clear h4 f4 q3'
 go_wp2
 go_end0
 exact ⟨rfl,by have:=h4'.out;simpa [catB] using this,f1.out.trans (f2'.out.trans (f3'.out.trans f4'.out))⟩
end Go.Proofs.YtbelaghcmgefaaaGreatDoor
