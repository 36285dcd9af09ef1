/-
  WHAT IS PROVED HERE: a part of the proof (made narrower and merged by program; the parts: Pa Pb).
-/
import Derived.Test.YtbelaghcmgefaaaGreatDoorRows
import Derived.WalkKit
import Derived.Lib.Hide
import Derived.Lib.Builder
import Derived.Lib.AppendStr
import Derived.Lib.UnsafeStr
import Derived.Laws.AppendOwn
import Derived.OwnWalk
import Derived.WalkSpells
import Derived.WalkLawsBesides
import Derived.Laws.EntriesVeiled
import Derived.Test.YtbelaghcmgefaaaGreatDoorM9
namespace Go.Proofs.YtbelaghcmgefaaaGreatDoor
open Go.RowKit
/-- What is no row of bytes, and not block b, stands as it stood. -/
structure Fr (b:Nat) (v v':World):Prop where
 size:v.heap.size ≤ v'.heap.size
 keep:∀ k x,v.heap[k]? = some x → k ≠ b → (∀ cs fr,x ≠ .cells cs 5 fr) → v'.heap[k]? = some x
theorem Fr.refl (b:Nat) (v:World):Fr b v v:=⟨Nat.le_refl _,fun _ _ h _ _=>h⟩
theorem Fr.trans {b:Nat} {u v w:World} (h:Fr b u v) (k:Fr b v w):Fr b u w:=⟨Nat.le_trans h.size k.size,fun i x hx hb hn=>k.keep i x (h.keep i x hx hb hn) hb hn⟩
theorem Fr.alloc (b:Nat) (v:World) (o:Obj):Fr b v (v.alloc o):=⟨by simp,fun k x hx _ _=>by
 have hl:=(Array.getElem?_eq_some_iff.1 hx).1
 show (v.heap.push o)[k]? = _
 rw [Array.getElem?_push,if_neg (by omega)]
 exact hx⟩
theorem Fr.drew (b:Nat) (v:World):Fr b v v.drew:=⟨Nat.le_refl _,fun _ _ h _ _=>h⟩
theorem Fr.set (b j:Nat) (v:World) (x:Value):Fr b v (v.setCell ⟨b,j,none⟩ x):=⟨by simp [World.setCell],fun k y hy hb _=>by
 rw [Below.heap_setCell _ _ _ _ (fun e=>hb e)]
 exact hy⟩
theorem Fr.grown {b:Nat} {v v':World} {row:Option Nat} (h:v.grownBy v' row) (hr:∀ g,row = some g → ∃ cs fr,v.heap[g]? = some (.cells cs 5 fr)):Fr b v v':=⟨h.size,fun k x hx _ hn=>by
 have hl:=(Array.getElem?_eq_some_iff.1 hx).1
 rw [h.block k hl (fun e=>by
  obtain ⟨cs,fr,hg⟩:=hr k e.symm
  rw [hg] at hx
  exact hn cs fr (Option.some.inj hx).symm)]
 exact hx⟩
/-- The writer lies in block b: this text, so many blocks. -/
structure WrP (w0:World) (b m1 m2:Nat) (e1 e2:Array MapEntry) (p:Value) (t:List UInt8) (d:Int) (v:World):Prop where
 base:Below w0.heap.size w0 v
 le:w0.heap.size ≤ b
 one:∃ sl,v.heap[b]? = some (.cells #[p,sl,.map (some m1),.map (some m2),.int .i64 d] 83 (0,0)) ∧ v.ownsRow w0.heap.size 5 1 sl t.length (Lib.byteCells t)
 k1:MapAt v m1 e1
 k2:MapAt v m2 e2
theorem MapAt.fr {v v':World} {b m:Nat} {es:Array MapEntry} (h:MapAt v m es) (hb:∀ es' n,v.heap[b]? ≠ some (.map es' n)) (f:Fr b v v'):MapAt v' m es:=by
 obtain ⟨n,hm⟩:=h
 exact ⟨n,f.keep m _ hm (fun e=>hb es n (e ▸ hm)) (fun cs fr e=>by cases e)⟩
section
variable {w0 v v':World} {b m1 m2:Nat} {e1 e2:Array MapEntry} {p:Value} {t:List UInt8} {d:Int}
theorem WrP.no_map (h:WrP w0 b m1 m2 e1 e2 p t d v):∀ es' n,v.heap[b]? ≠ some (.map es' n):=fun es' n e=>by
 obtain ⟨sl,hb,_⟩:=h.one
 rw [hb] at e
 cases e
theorem WrP.lt (h:WrP w0 b m1 m2 e1 e2 p t d v):b < v.heap.size:=by
 obtain ⟨sl,hb,_⟩:=h.one
 exact (Array.getElem?_eq_some_iff.1 hb).1
theorem WrP.alloc (h:WrP w0 b m1 m2 e1 e2 p t d v) (o:Obj):WrP w0 b m1 m2 e1 e2 p t d (v.alloc o):=by
 have hl:=h.lt
 have hs:=h.base.size
 refine ⟨h.base.alloc hs o,h.le,?_,h.k1.fr h.no_map (Fr.alloc b v o),h.k2.fr h.no_map (Fr.alloc b v o)⟩
 obtain ⟨sl,hb,ho⟩:=h.one
 refine ⟨sl,?_,ho.alloc o⟩
 show (v.heap.push o)[b]? = _
 rw [Array.getElem?_push,if_neg (by omega)]
 exact hb
theorem WrP.drew (h:WrP w0 b m1 m2 e1 e2 p t d v):WrP w0 b m1 m2 e1 e2 p t d v.drew:=⟨h.base.drew,h.le,h.one,h.k1,h.k2⟩
theorem WrP.cell (h:WrP w0 b m1 m2 e1 e2 p t d v):v.cell? ⟨b,0,none⟩ = some p ∧ v.cell? ⟨b,2,none⟩ = some (.map (some m1)) ∧ v.cell? ⟨b,3,none⟩ = some (.map (some m2)) ∧ v.cell? ⟨b,4,none⟩ = some (.int .i64 d):=by
 obtain ⟨sl,hb,_⟩:=h.one
 exact ⟨by rw [Lib.cell_of_heap hb];rfl,by rw [Lib.cell_of_heap hb];rfl,by rw [Lib.cell_of_heap hb];rfl,by rw [Lib.cell_of_heap hb];rfl⟩
theorem WrP.frozen (h:WrP w0 b m1 m2 e1 e2 p t d v) (j:Nat):v.frozen? ⟨b,j,none⟩ = false:=by
 obtain ⟨sl,hb,_⟩:=h.one
 exact Lib.frozen_of_heap hb j
theorem WrP.shape (h:WrP w0 b m1 m2 e1 e2 p t d v):v.shape? b = some (83,5):=by
 obtain ⟨sl,hb,_⟩:=h.one
 simp [World.shape?,hb]
theorem WrP.self (h:WrP w0 b m1 m2 e1 e2 p t d v) (q:Value):WrP w0 b m1 m2 e1 e2 q t d (v.setCell ⟨b,0,none⟩ q):=by
 refine ⟨h.base.setCell (p:=⟨b,0,none⟩) h.le q,h.le,?_,h.k1.fr h.no_map (Fr.set b 0 v q),h.k2.fr h.no_map (Fr.set b 0 v q)⟩
 obtain ⟨sl,hb,ho⟩:=h.one
 refine ⟨sl,by simp [World.setCell,Array.getElem?_modify,hb],?_⟩
 exact ho.kept (row:=some b) ⟨rfl,rfl,rfl,by simp [World.setCell],fun k _ hk=>Below.heap_setCell _ _ _ _ (fun e=>hk (by simp [e]))⟩ (Or.inr (Lib.ownBlock_ne ho hb (by decide)))
theorem WrP.deep (h:WrP w0 b m1 m2 e1 e2 p t d v) (x:Int):WrP w0 b m1 m2 e1 e2 p t x (v.setCell ⟨b,4,none⟩ (.int .i64 x)):=by
 refine ⟨h.base.setCell (p:=⟨b,4,none⟩) h.le _,h.le,?_,h.k1.fr h.no_map (Fr.set b 4 v _),h.k2.fr h.no_map (Fr.set b 4 v _)⟩
 obtain ⟨sl,hb,ho⟩:=h.one
 refine ⟨sl,by simp [World.setCell,Array.getElem?_modify,hb],?_⟩
 exact ho.kept (row:=some b) ⟨rfl,rfl,rfl,by simp [World.setCell],fun k _ hk=>Below.heap_setCell _ _ _ _ (fun e=>hk (by simp [e]))⟩ (Or.inr (Lib.ownBlock_ne ho hb (by decide)))
end
/-- .. fresh or used. -/
def Wr (w0:World) (b m1 m2:Nat) (e1 e2:Array MapEntry) (t:List UInt8) (d:Int) (v:World):Prop :=
 WrP w0 b m1 m2 e1 e2 (.pointer none) t d v ∨ WrP w0 b m1 m2 e1 e2 (.pointer (some ⟨b,0,none⟩)) t d v
theorem byte_info:(Tryz.prog.info? 5).map (fun i=>(i.zero,i.size,i.bytes)) = some (some (.int .u8 0),1,1):=by kernel_rfl
theorem builder_info:∃ j,Tryz.prog.info? 78 = some j ∧ j.size ≠ 0:=by
 have h:(Tryz.prog.info? 78).map (fun i=>decide (i.size ≠ 0)) = some true:=by kernel_rfl
 obtain ⟨j,hj,hk⟩:=Option.map_eq_some_iff.1 h
 exact ⟨j,hj,of_decide_eq_true hk⟩
set_option maxHeartbeats 1000000 in
set_option maxRecDepth 100000 in
theorem wr_check (w0:World) (b m1 m2:Nat) (e1 e2:Array MapEntry) (t:List UInt8) (d:Int) (v:World) (h:Wr w0 b m1 m2 e1 e2 t d v) :
  Calls Tryz.prog 140 #[.pointer (some ⟨b,0,none⟩)] v fun e v'=>e = .returned (.tuple #[]) ∧ WrP w0 b m1 m2 e1 e2 (.pointer (some ⟨b,0,none⟩)) t d v' ∧ Fr b v v':=by
 obtain ⟨j,hj,hjs⟩:=builder_info
 rcases h with h | h
 ·have h0:=h.cell.1
  have hfz:=h.frozen 0
  have hsh:=h.shape
  have h':=Lib.hid h
  clear h
  go_enter Tryz.func140,Tryz.ntmps140
  go_wp2
  rw [Lib.run_to_unsafe v ⟨b,0,none⟩ Tryz.underlying75 Tryz.underlying199 hj hjs hsh (show (0:Nat) < 5 by decide)]
  simp only [Result.andThen]
  rw [Oper.upon_value]
  go_wp2
  rw [run_callFunc_extern Tryz.func157 (by kernel_rfl) (by kernel_rfl) (by kernel_rfl) (e:=Extern.AbiNoEscape.same) (by kernel_rfl)]
  rw [Lib.run_noEscape]
  simp only [Result.andThen]
  rw [Oper.upon_value]
  go_wp2
  rw [Lib.run_from_unsafe v ⟨b,0,none⟩ Tryz.underlying199 Tryz.underlying75 hj hsh (by kernel_rfl)]
  simp only [Result.andThen]
  rw [Oper.upon_value]
  go_wp2
  go_end0
  exact ⟨rfl,h'.out.self _,Fr.set b 0 v _⟩
 ·have h0:=h.cell.1
  have h':=Lib.hid h
  clear h
  go_enter Tryz.func140,Tryz.ntmps140
  go_wp2
  rw [Lib.run_neq_ptr_same v _ Tryz.underlying75 hj]
  go_wp2
  go_end0
  exact ⟨rfl,h'.out,Fr.refl b v⟩
set_option maxHeartbeats 2000000 in
set_option maxRecDepth 100000 in
theorem wr_write (w0:World) (b m1 m2:Nat) (e1 e2:Array MapEntry) (t:List UInt8) (d:Int) (s:ByteArray) (v:World) (h:Wr w0 b m1 m2 e1 e2 t d v) (hlen:t.length + s.size ≤ 140737488355328) :
  Calls Tryz.prog 90 #[.pointer (some ⟨b,0,none⟩),.string s] v fun e v'=>e = .returned (.tuple #[.int .i64 s.size,.nilIface]) ∧ Wr w0 b m1 m2 e1 e2 (t++s.data.toList) d v' ∧ Fr b v v':=by
 obtain ⟨i0,hi,hz0,hz1,hz2⟩:=info_parts byte_info
 have hk:=Lib.hid (wr_check w0 b m1 m2 e1 e2 t d v h)
 clear h
 go_enter Tryz.func90,Tryz.ntmps90
 go_wp2_with (go_at_call 140;refine hk.out.mono ?_)
 rintro e w1 ⟨rfl,h1,f1⟩
 have h1':=Lib.hid h1
 have f1':=Lib.hid f1
 have hle:=h1.le
 have hs1:=h1.base.size
 obtain ⟨sl,hbk,hown⟩:=h1.one
 have hne:sl.ownBlock ≠ some b:=Lib.ownBlock_ne hown hbk (by decide)
 have c0:w1.cell? ⟨b,0,none⟩ = some (.pointer (some ⟨b,0,none⟩)):=ch hbk
 have c1:w1.cell? ⟨b,1,none⟩ = some sl:=ch hbk
 have hown':=Lib.hid hown
 have hbk':=Lib.hid hbk
 clear h1 f1 hk
 go_wp2_with (at_builtin;refine Lib.wpList_append_own_string _ rfl _ _ 76 9 rfl w0.heap.size 5 i0 Tryz.underlying76 Tryz.underlying9 hi hz0 hz1 hz2 _ _ _ rfl hown s rfl ?c3 ?c4 ?c5 ?_)
 case c3=>unfold maxLen;omega
 case c4=>omega
 case c5=>omega
 intro v' w2 hown2 hgrow _
 have hlt:b < w1.heap.size:=(Array.getElem?_eq_some_iff.1 hbk).1
 have hb2:w2.heap[b]? = some (.cells #[.pointer (some ⟨b,0,none⟩),sl,.map (some m1),.map (some m2),.int .i64 d] 83 (0,0)):=by
  rw [hgrow.block b hlt (fun e=>hne e.symm)]
  exact hbk
 have d0:w2.cell? ⟨b,0,none⟩ = some (.pointer (some ⟨b,0,none⟩)):=ch hb2
 have d1:w2.cell? ⟨b,1,none⟩ = some sl:=ch hb2
 have z1:w2.frozen? ⟨b,1,none⟩ = false:=Lib.frozen_of_heap hb2 1
 obtain ⟨ao,n',cap,rfl⟩:∃ ao n' cap,v' = .slice ao n' cap:=by
  rcases hown2.2 with ⟨hv,_⟩ | ⟨g,cap,cur,hv,_⟩
  ·exact ⟨_,_,_,hv⟩
  ·exact ⟨_,_,_,hv⟩
 have fg:Fr b w1 w2:=Fr.grown hgrow (fun g hg=>by
  rcases hown'.out.2 with ⟨hv,_⟩ | ⟨g',cap',cur,hv,_,hh,_⟩
  ·rw [hv] at hg;cases hg
  ·rw [hv] at hg
   obtain rfl:g' = g:=Option.some.inj hg
   exact ⟨_,_,hh⟩)
 have hown3:w2.ownsRow w0.heap.size 5 1 (.slice ao n' cap) (t++s.data.toList).length (Lib.byteCells (t++s.data.toList)):=by
  have e1:Lib.byteCells (t++s.data.toList) = Lib.byteCells t++Lib.strCells s:=by simp [Lib.byteCells,Lib.strCells]
  have e2:(t++s.data.toList).length = t.length + s.size:=by rw [List.length_append,Array.length_toList];rfl
  rw [e1,e2]
  exact hown2
 have hB2:Below w0.heap.size w0 w2:=h1'.out.base.grown hgrow hs1 (fun k hk=>(hown'.out.lt k hk).1)
 have a1:=h1'.out.k1.fr h1'.out.no_map fg
 have a2:=h1'.out.k2.fr h1'.out.no_map fg
 have fg':=Lib.hid fg
 have hown3':=Lib.hid hown3
 have hB2':=Lib.hid hB2
 have a1':=Lib.hid a1
 have a2':=Lib.hid a2
 have hb2':=Lib.hid hb2
 clear hown hown2 hown3 hgrow fg hB2 a1 a2 hb2 hbk c0 c1 hlt hne hs1
 go_wp2
 go_ret2
 have hnm:∀ es' n,w2.heap[b]? ≠ some (.map es' n):=fun es' n e=>by rw [hb2'.out] at e;cases e
 refine ⟨rfl,Or.inr ⟨hB2'.out.setCell (p:=⟨b,1,none⟩) hle _,hle,⟨.slice ao n' cap,by simp [World.setCell,Array.getElem?_modify,hb2'.out],?_⟩,a1'.out.fr hnm (Fr.set b 1 w2 _),a2'.out.fr hnm (Fr.set b 1 w2 _)⟩,(f1'.out.trans fg'.out).trans (Fr.set b 1 w2 _)⟩
 exact hown3'.out.kept (row:=some b) ⟨rfl,rfl,rfl,by simp [World.setCell],fun k _ hk=>Below.heap_setCell _ _ _ _ (fun e=>hk (by simp [e]))⟩ (Or.inr (Lib.ownBlock_ne hown3'.out hb2'.out (by decide)))
/-- Texts, one behind the other. -/
def catB:List ByteArray → List UInt8
 | []=>[]
 | s :: l=>s.data.toList++catB l
/-- Blanks for so many blocks. -/
def padB:Nat → List UInt8
 | 0=>[]
 | n + 1=>padB n++[32,32]
theorem catB_take (l:List ByteArray) (k:Nat) (s:ByteArray) (h:l[k]? = some s):catB (l.take (k + 1)) = catB (l.take k)++s.data.toList:=by
 induction l generalizing k with
 | nil=>simp at h
 | cons a l ih =>
  cases k with
  | zero =>
   simp only [List.getElem?_cons_zero,Option.some.injEq] at h
   subst h
   simp [catB]
  | succ k =>
   simp only [List.getElem?_cons_succ] at h
   simp only [List.take_succ_cons,catB,ih k h,List.append_assoc]
theorem catB_take_le (l:List ByteArray) (k:Nat):(catB (l.take k)).length ≤ (catB l).length:=by
 induction l generalizing k with
 | nil=>simp [catB]
 | cons a l ih =>
  cases k with
  | zero=>simp [catB]
  | succ k =>
   have:=ih k
   simp only [List.take_succ_cons,catB,List.length_append]
   omega
theorem padB_length (n:Nat):(padB n).length = 2 * n:=by
 induction n with
 | zero=>rfl
 | succ n ih=>simp only [padB,List.length_append,ih,List.length_cons,List.length_nil];omega
/-- A row of strings in a block of its own. -/
theorem row_new {b:Nat} {v v':World} {k:Nat} {l:List ByteArray} {fr:Nat × Nat} (h:v.heap[k]? = some (.cells (l.map Value.string).toArray 9 fr)) (hb:k ≠ b) (f:Fr b v v'):RowAt v' 1 strCells (some ⟨k,0,none⟩) l:=by
 have h':=f.keep k _ h hb (fun cs fr' e=>by
  have:=congrArg (fun o=>match o with | Obj.cells _ T _=>T | _=>0) e
  exact absurd this (show ¬ (9:TypeId) = 5 by decide))
 intro i x hx
 refine ⟨_,rfl,fun j y hy=>?_⟩
 obtain ⟨rfl,rfl⟩:j = 0 ∧ y = .string x:=by
  cases j with
  | zero=>simp [strCells] at hy;exact ⟨rfl,hy.symm⟩
  | succ j=>simp [strCells] at hy
 have e:(((⟨k,0,none⟩:Addr).add (i * 1)).add 0) = ⟨k,i,none⟩:=by
  rw [Nat.mul_one]
  cases i <;> simp [Addr.add]
 rw [e]
 unfold World.cell?
 simp only [h']
 simp [hx]
set_option maxHeartbeats 2000000 in
set_option maxRecDepth 100000 in
theorem wr_put (w0:World) (b m1 m2:Nat) (e1 e2:Array MapEntry) (t:List UInt8) (d:Int) (p:Option Addr) (cap:Nat) (l:List ByteArray) (v:World) (h:Wr w0 b m1 m2 e1 e2 t d v)
  (hrow:∀ v',Fr b v v' → RowAt v' 1 strCells p l) (hn:l.length ≤ 1048576) (hlen:t.length + (catB l).length ≤ 140737488355328) :
  Calls Tryz.prog 41 #[.pointer (some ⟨b,0,none⟩),.slice p l.length cap] v fun e v'=>e = .returned (.tuple #[]) ∧ Wr w0 b m1 m2 e1 e2 (t++catB l) d v' ∧ Fr b v v':=by
 obtain ⟨n,hn0⟩:∃ n,l.length = n:=⟨_,rfl⟩
 rw [hn0] at hn ⊢
 have h':=Lib.hid h
 have hrow':=Lib.hid hrow
 have hlen':=Lib.hid hlen
 have hn':=Lib.hid hn
 have hn0':=Lib.hid hn0
 clear h hrow hlen hn hn0
 go_enter Tryz.func41,Tryz.ntmps41
 go_wp2
 go_loopw [5,8] (fun _ iv wr=>∃ k:Nat,k ≤ n ∧ iv = .int .i64 (k:Int) ∧ Hid (Wr w0 b m1 m2 e1 e2 (t++catB (l.take k)) d wr) ∧ Hid (Fr b v wr)) (fun _ iv _=>n - (intOf iv).toNat)
 case atStart=>exact ⟨0,Nat.zero_le _,rfl,Lib.hid (by simpa [catB] using h'.out),Lib.hid (Fr.refl b v)⟩
 case round =>
  obtain ⟨k,hk,rfl,hw,hf⟩:=hrel
  by_cases hlt:k < n
  ·obtain ⟨s,hs⟩:∃ s,l[k]? = some s:=⟨l[k]'(by rw [hn0'.out];exact hlt),List.getElem?_eq_getElem _⟩
   obtain ⟨pa,rfl,hc⟩:=hrow'.out wr hf.out k s hs
   have d0:wr.cell? (pa.add (k * 1)) = some (.string s):=hc.c0 _ rfl
   simp only [Nat.mul_one] at d0
   have a6:=Lib.hid (wr_succ k n hlt hn'.out)
   have e0:=catB_take l k s hs
   have e1':=catB_take_le l (k + 1)
   have q:=Lib.hid (wr_write w0 b m1 m2 e1 e2 (t++catB (l.take k)) d s wr hw.out (by
    have:=hlen'.out
    rw [e0] at e1'
    simp only [List.length_append,Array.length_toList] at e1' ⊢
    have e3:s.data.size = s.size:=rfl
    omega))
   have e0':=Lib.hid e0
   clear hc e0 e1' hs
   go_wp2_with (go_at_call 90;refine q.out.mono ?_;rintro e w' ⟨rfl,hw',hf'⟩)
   go_roundw
   case rel=>exact ⟨k + 1,hlt,congrArg (Value.int .i64) a6.out,Lib.hid (by rw [e0'.out,← List.append_assoc];exact hw'),Lib.hid (hf.out.trans hf')⟩
   case measure=>exact step_less k n hlt a6.out
  ·obtain rfl:n = k:=by omega
   have hw2:=Lib.hid (show Wr w0 b m1 m2 e1 e2 (t++catB l) d wr by
    have:=hw.out
    rwa [List.take_of_length_le (show l.length ≤ n by rw [hn0'.out];exact Nat.le_refl _)] at this)
   clear hw hlt hk
   go_wp2
   go_end0
   exact ⟨rfl,hw2.out,hf.out⟩
theorem Wr.cell4 {w0 v:World} {b m1 m2:Nat} {e1 e2:Array MapEntry} {t:List UInt8} {d:Int} (h:Wr w0 b m1 m2 e1 e2 t d v):v.cell? ⟨b,4,none⟩ = some (.int .i64 d):=by
 rcases h with h | h <;> exact h.cell.2.2.2
theorem Wr.cell2 {w0 v:World} {b m1 m2:Nat} {e1 e2:Array MapEntry} {t:List UInt8} {d:Int} (h:Wr w0 b m1 m2 e1 e2 t d v):v.cell? ⟨b,2,none⟩ = some (.map (some m1)):=by
 rcases h with h | h <;> exact h.cell.2.1
theorem Wr.cell3 {w0 v:World} {b m1 m2:Nat} {e1 e2:Array MapEntry} {t:List UInt8} {d:Int} (h:Wr w0 b m1 m2 e1 e2 t d v):v.cell? ⟨b,3,none⟩ = some (.map (some m2)):=by
 rcases h with h | h <;> exact h.cell.2.2.1
theorem Wr.fz {w0 v:World} {b m1 m2:Nat} {e1 e2:Array MapEntry} {t:List UInt8} {d:Int} (h:Wr w0 b m1 m2 e1 e2 t d v) (j:Nat):v.frozen? ⟨b,j,none⟩ = false:=by
 rcases h with h | h <;> exact h.frozen j
theorem Wr.lt {w0 v:World} {b m1 m2:Nat} {e1 e2:Array MapEntry} {t:List UInt8} {d:Int} (h:Wr w0 b m1 m2 e1 e2 t d v):b < v.heap.size:=by
 rcases h with h | h <;> exact h.lt
theorem Wr.alloc {w0 v:World} {b m1 m2:Nat} {e1 e2:Array MapEntry} {t:List UInt8} {d:Int} (h:Wr w0 b m1 m2 e1 e2 t d v) (o:Obj):Wr w0 b m1 m2 e1 e2 t d (v.alloc o):=by
 rcases h with h | h
 ·exact .inl (h.alloc o)
 ·exact .inr (h.alloc o)
theorem Wr.drew {w0 v:World} {b m1 m2:Nat} {e1 e2:Array MapEntry} {t:List UInt8} {d:Int} (h:Wr w0 b m1 m2 e1 e2 t d v):Wr w0 b m1 m2 e1 e2 t d v.drew:=by
 rcases h with h | h
 ·exact .inl h.drew
 ·exact .inr h.drew
theorem Wr.deep {w0 v:World} {b m1 m2:Nat} {e1 e2:Array MapEntry} {t:List UInt8} {d:Int} (h:Wr w0 b m1 m2 e1 e2 t d v) (x:Int):Wr w0 b m1 m2 e1 e2 t x (v.setCell ⟨b,4,none⟩ (.int .i64 x)):=by
 rcases h with h | h
 ·exact .inl (h.deep x)
 ·exact .inr (h.deep x)
theorem Wr.over {w0 v:World} {b m1 m2:Nat} {e1 e2:Array MapEntry} {t:List UInt8} {d:Int} (h:Wr w0 b m1 m2 e1 e2 t d v):∃ z,v = plus w0 z:=by
 rcases h with h | h <;> exact plus_of_below h.base
theorem alloc_new (v:World) (o:Obj):(v.alloc o).heap[v.heap.size]? = some o:=by
 show (v.heap.push o)[v.heap.size]? = _
 simp
theorem put_new (w0:World) (b m1 m2:Nat) (e1 e2:Array MapEntry) (t:List UInt8) (d:Int) (l:List ByteArray) (v:World) (h:Wr w0 b m1 m2 e1 e2 t d v) (hn:l.length ≤ 1048576) (hlen:t.length + (catB l).length ≤ 140737488355328) :
  Calls Tryz.prog 41 #[.pointer (some ⟨b,0,none⟩),.slice (some ⟨v.heap.size,0,none⟩) l.length l.length] (v.alloc (.cells (l.map Value.string).toArray 9)) fun e v'=>e = .returned (.tuple #[]) ∧ Wr w0 b m1 m2 e1 e2 (t++catB l) d v' ∧ Fr b v v':=by
 have hl:=h.lt
 refine (wr_put w0 b m1 m2 e1 e2 t d _ _ l _ (h.alloc _) (fun v' f=>row_new (alloc_new v _) (by omega) f) hn hlen).mono ?_
 rintro e v' ⟨he,hw,hf⟩
 exact ⟨he,hw,(Fr.alloc b v _).trans hf⟩
set_option maxHeartbeats 2000000 in
set_option maxRecDepth 100000 in
theorem wr_begin (w0:World) (b m1 m2:Nat) (e1 e2:Array MapEntry) (t:List UInt8) (d:Nat) (p:Option Addr) (cap:Nat) (l:List ByteArray) (v:World) (h:Wr w0 b m1 m2 e1 e2 t (d:Int) v)
  (hrow:∀ v',Fr b v v' → RowAt v' 1 strCells p l) (hd:d ≤ 1048576) (hn:l.length ≤ 1048576) (hlen:t.length + 2 * d + (catB l).length ≤ 140737488355328) :
  Calls Tryz.prog 64 #[.pointer (some ⟨b,0,none⟩),.slice p l.length cap] v fun e v'=>e = .returned (.tuple #[]) ∧ Wr w0 b m1 m2 e1 e2 (t++(padB d++catB l)) (d:Int) v' ∧ Fr b v v':=by
 have c4:=h.cell4
 have h':=Lib.hid h
 have hrow':=Lib.hid hrow
 have hlen':=Lib.hid hlen
 have hn':=Lib.hid hn
 have hd':=Lib.hid hd
 clear h hrow hlen hn hd
 go_enter Tryz.func64,Tryz.ntmps64
 go_wp2
 go_loopw [8] (fun iv wr=>∃ k:Nat,k ≤ d ∧ iv = .int .i64 (k:Int) ∧ Hid (Wr w0 b m1 m2 e1 e2 (t++padB k) (d:Int) wr) ∧ Hid (Fr b v wr)) (fun iv _=>d - (intOf iv).toNat)
 case atStart=>exact ⟨0,Nat.zero_le _,rfl,Lib.hid (by simpa [padB] using h'.out),Lib.hid (Fr.refl b v)⟩
 case round =>
  obtain ⟨k,hk,rfl,hw,hf⟩:=hrel
  by_cases hlt:k < d
  ·have a6:=Lib.hid (wr_succ k d hlt hd'.out)
   have q:=Lib.hid (wr_write w0 b m1 m2 e1 e2 (t++padB k) (d:Int) ⟨#[32,32]⟩ wr hw.out (by
    have:=hlen'.out
    have e3:(⟨#[32,32]⟩:ByteArray).size = 2:=rfl
    rw [List.length_append,padB_length,e3]
    omega))
   go_wp2_with (go_at_call 90;refine q.out.mono ?_;rintro e w' ⟨rfl,hw',hf'⟩)
   go_roundw
   case rel=>exact ⟨k + 1,hlt,congrArg (Value.int .i64) a6.out,Lib.hid (by rw [padB,← List.append_assoc];exact hw'),Lib.hid (hf.out.trans hf')⟩
   case measure=>exact step_less k d hlt a6.out
  ·obtain rfl:d = k:=by omega
   have q:=Lib.hid (wr_put w0 b m1 m2 e1 e2 (t++padB d) (d:Int) p cap l wr hw.out (fun v' f=>hrow'.out v' (hf.out.trans f)) hn'.out (by
    have:=hlen'.out
    rw [List.length_append,padB_length]
    omega))
   clear hw hlt hk
   go_wp2_with (go_at_call 41;refine q.out.mono ?_;rintro e w' ⟨rfl,hw',hf'⟩)
   go_end0
   exact ⟨rfl,by rw [← List.append_assoc];exact hw',hf.out.trans hf'⟩
theorem begin_new (w0:World) (b m1 m2:Nat) (e1 e2:Array MapEntry) (t:List UInt8) (d:Nat) (l:List ByteArray) (v:World) (h:Wr w0 b m1 m2 e1 e2 t (d:Int) v) (hd:d ≤ 1048576) (hn:l.length ≤ 1048576) (hlen:t.length + 2 * d + (catB l).length ≤ 140737488355328) :
  Calls Tryz.prog 64 #[.pointer (some ⟨b,0,none⟩),.slice (some ⟨v.heap.size,0,none⟩) l.length l.length] (v.alloc (.cells (l.map Value.string).toArray 9)) fun e v'=>e = .returned (.tuple #[]) ∧ Wr w0 b m1 m2 e1 e2 (t++(padB d++catB l)) (d:Int) v' ∧ Fr b v v':=by
 have hl:=h.lt
 refine (wr_begin w0 b m1 m2 e1 e2 t d _ _ l _ (h.alloc _) (fun v' f=>row_new (alloc_new v _) (by omega) f) hd hn hlen).mono ?_
 rintro e v' ⟨he,hw,hf⟩
 exact ⟨he,hw,(Fr.alloc b v _).trans hf⟩
theorem begin_nil (w0:World) (b m1 m2:Nat) (e1 e2:Array MapEntry) (t:List UInt8) (d:Nat) (v:World) (h:Wr w0 b m1 m2 e1 e2 t (d:Int) v) (hd:d ≤ 1048576) (hlen:t.length + 2 * d ≤ 140737488355328) :
  Calls Tryz.prog 64 #[.pointer (some ⟨b,0,none⟩),.slice none 0 0] v fun e v'=>e = .returned (.tuple #[]) ∧ Wr w0 b m1 m2 e1 e2 (t++padB d) (d:Int) v' ∧ Fr b v v':=by
 have:=wr_begin w0 b m1 m2 e1 e2 t d none 0 [] v h (fun _ _ i x hx=>by simp at hx) hd (by simp) (by simpa [catB] using hlen)
 simpa [catB] using this
set_option maxHeartbeats 2000000 in
set_option maxRecDepth 100000 in
theorem wr_open (w0:World) (b m1 m2:Nat) (e1 e2:Array MapEntry) (t:List UInt8) (d:Nat) (v:World) (h:Wr w0 b m1 m2 e1 e2 t (d:Int) v) (hd:d ≤ 1000000) (hlen:t.length + 3 ≤ 140737488355328) :
  Calls Tryz.prog 109 #[.pointer (some ⟨b,0,none⟩)] v fun e v'=>e = .returned (.tuple #[]) ∧ Wr w0 b m1 m2 e1 e2 (t++[32,123,10]) ((d + 1:Nat):Int) v' ∧ Fr b v v':=by
 have q:=Lib.hid (put_new w0 b m1 m2 e1 e2 t (d:Int) [⟨#[32,123,10]⟩] v h (by simp) hlen)
 have a1:wrap64 ((d:Int) + 1) = ((d + 1:Nat):Int):=by rw [wr_in _ (by omega)];rfl
 have a1':=Lib.hid a1
 clear h hlen hd a1
 go_enter Tryz.func109,Tryz.ntmps109
 go_wp2_with (go_at_call 41;refine q.out.mono ?_;rintro e w' ⟨rfl,hw',hf'⟩;have c4:=hw'.cell4;have z4:=hw'.fz 4;have hw:=Lib.hid hw';have hf:=Lib.hid hf';clear hw' hf')
 go_end0
 exact ⟨rfl,by rw [a1'.out];exact hw.out.deep _,hf.out.trans (Fr.set b 4 _ _)⟩
set_option maxHeartbeats 400000 in
set_option maxRecDepth 100000 in
theorem wr_shut (w0:World) (b m1 m2:Nat) (e1 e2:Array MapEntry) (t:List UInt8) (d:Nat) (s:ByteArray) (v:World) (h:Wr w0 b m1 m2 e1 e2 t ((d + 1:Nat):Int) v) (hd:d ≤ 1000000) (hlen:t.length + 2 * d + 1 + s.size ≤ 140737488355328) :
  Calls Tryz.prog 111 #[.pointer (some ⟨b,0,none⟩),.string s] v fun e v'=>e = .returned (.tuple #[]) ∧ Wr w0 b m1 m2 e1 e2 (t++(padB d++(125 :: s.data.toList))) (d:Int) v' ∧ Fr b v v':=by
 have hx:((d + 1:Nat):Int) = (d:Int) + 1:=rfl
 rw [hx] at h
 have a1:wrap64 (d:Int) = (d:Int):=wr_in _ (by omega)
 have c4:=h.cell4
 have z4:=h.fz 4
 have q:=(begin_new w0 b m1 m2 e1 e2 t d [⟨#[125]⟩,s] (v.setCell ⟨b,4,none⟩ (.int .i64 (d:Int))) (h.deep _) (by omega) (by simp) (by
  have e1:(catB [⟨#[125]⟩,s]).length = 1 + s.size:=by
   simp only [catB,List.length_append,Array.length_toList,List.length_nil]
   have e3:s.data.size = s.size:=rfl
   rw [e3]
   rfl
  rw [e1]
  omega))
 rw [show (v.setCell ⟨b,4,none⟩ (.int .i64 (d:Int))).heap.size = v.heap.size by simp [World.setCell]] at q
 have q:=Lib.hid q
 have f0:=Lib.hid (Fr.set b 4 v (.int .i64 (d:Int)))
 clear h hlen hd hx
 go_enter Tryz.func111,Tryz.ntmps111
 go_wp2_with (fail)
 refine q.out.mono ?_
 rintro e w' ⟨rfl,hw',hf'⟩
 have hw:=Lib.hid hw'
 have hf:=Lib.hid hf'
 clear hw' hf'
 go_wp2_with (fail)
 go_end0
 exact ⟨rfl,by have:=hw.out;simpa [catB] using this,f0.out.trans hf.out⟩
set_option maxHeartbeats 2000000 in
set_option maxRecDepth 100000 in
theorem wr_line (w0:World) (b m1 m2:Nat) (e1 e2:Array MapEntry) (t:List UInt8) (d:Nat) (p:Option Addr) (cap:Nat) (l:List ByteArray) (v:World) (h:Wr w0 b m1 m2 e1 e2 t (d:Int) v)
  (hrow:∀ v',Fr b v v' → RowAt v' 1 strCells p l) (hd:d ≤ 1048576) (hn:l.length ≤ 1048576) (hlen:t.length + 2 * d + (catB l).length + 1 ≤ 140737488355328) :
  Calls Tryz.prog 125 #[.pointer (some ⟨b,0,none⟩),.slice p l.length cap] v fun e v'=>e = .returned (.tuple #[]) ∧ Wr w0 b m1 m2 e1 e2 (t++(padB d++(catB l++[10]))) (d:Int) v' ∧ Fr b v v':=by
 have q:=Lib.hid (wr_begin w0 b m1 m2 e1 e2 t d p cap l v h hrow hd hn (by omega))
 have q2:=Lib.hid (fun w' (hw:Wr w0 b m1 m2 e1 e2 (t++(padB d++catB l)) (d:Int) w')=>put_new w0 b m1 m2 e1 e2 (t++(padB d++catB l)) (d:Int) [⟨#[10]⟩] w' hw (by simp) (by
  have e1:(catB [⟨#[10]⟩]).length = 1:=rfl
  rw [e1]
  simp only [List.length_append,padB_length]
  omega))
 clear h hrow hlen hd hn
 go_enter Tryz.func125,Tryz.ntmps125
 go_wp2_with (go_at_call 64;refine q.out.mono ?_;rintro e w' ⟨rfl,hw',hf'⟩;have q3:=Lib.hid (q2.out w' hw');have hf:=Lib.hid hf';clear hw' hf')
 refine q3.out.mono ?_
 rintro e w2 ⟨rfl,hw2,hf2⟩
 have hw3:=Lib.hid hw2
 have hf3:=Lib.hid hf2
 clear hw2 hf2
 go_wp2
 go_end0
 exact ⟨rfl,by have:=hw3.out;simpa [catB] using this,hf.out.trans hf3.out⟩
theorem line_new (w0:World) (b m1 m2:Nat) (e1 e2:Array MapEntry) (t:List UInt8) (d:Nat) (l:List ByteArray) (v:World) (h:Wr w0 b m1 m2 e1 e2 t (d:Int) v) (hd:d ≤ 1048576) (hn:l.length ≤ 1048576) (hlen:t.length + 2 * d + (catB l).length + 1 ≤ 140737488355328) :
  Calls Tryz.prog 125 #[.pointer (some ⟨b,0,none⟩),.slice (some ⟨v.heap.size,0,none⟩) l.length l.length] (v.alloc (.cells (l.map Value.string).toArray 9)) fun e v'=>e = .returned (.tuple #[]) ∧ Wr w0 b m1 m2 e1 e2 (t++(padB d++(catB l++[10]))) (d:Int) v' ∧ Fr b v v':=by
 have hl:=h.lt
 refine (wr_line w0 b m1 m2 e1 e2 t d _ _ l _ (h.alloc _) (fun v' f=>row_new (alloc_new v _) (by omega) f) hd hn hlen).mono ?_
 rintro e v' ⟨he,hw,hf⟩
 exact ⟨he,hw,(Fr.alloc b v _).trans hf⟩
end Go.Proofs.YtbelaghcmgefaaaGreatDoor
