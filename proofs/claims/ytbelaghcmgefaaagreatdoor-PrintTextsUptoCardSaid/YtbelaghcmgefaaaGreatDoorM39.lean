/-
  WHAT IS PROVED HERE: a part of the proof (made narrower and merged by program; the parts: Pr).
-/
import Derived.Test.YtbelaghcmgefaaaGreatDoorRows
import Derived.WalkKit
import Derived.Lib.Hide
import Derived.WalkSpells
import Derived.WalkLawsBesides
import Derived.Test.YtbelaghcmgefaaaGreatDoorM38
namespace Go.Proofs.YtbelaghcmgefaaaGreatDoor
open Go.RowKit
theorem flat9:∀ (l:List Ex) (i j:Nat) (x:Ex),l[i]? = some x → j < 9 → ((l.map Ex.cells).flatten)[i * 9 + j]? = x.cells[j]?
 | [],i,j,x,h,_=>by simp at h
 | a :: l,0,j,x,h,hj=>by
  simp only [List.getElem?_cons_zero,Option.some.injEq] at h
  subst h
  rw [List.map_cons,List.flatten_cons,Nat.zero_mul,Nat.zero_add,List.getElem?_append_left (by simpa [Ex.cells] using hj)]
 | a :: l,i + 1,j,x,h,hj=>by
  simp only [List.getElem?_cons_succ] at h
  have e:(i + 1) * 9 + j = 9 + (i * 9 + j):=by omega
  rw [List.map_cons,List.flatten_cons,e,List.getElem?_append_right (by simp [Ex.cells])]
  rw [show 9 + (i * 9 + j) - a.cells.length = i * 9 + j by simp [Ex.cells]]
  exact flat9 l i j x h hj
theorem node_in {w:World} {op:Int} {lit:Lt} {hd nm:ByteArray} {hi lo:Int} {g:Nat} {l:List Ex} (h1:(Lit.int .u8 op).wf = true) (h2:lit.Ok) (h3:(Lit.int .i64 hi).wf = true) (h4:(Lit.int .i64 lo).wf = true) (h5:hd.size ≤ maxLen) (h6:nm.size ≤ maxLen) (h7:l.length ≤ maxLen)
  (hb:w.heap[g]? = some (.cells ((l.map Ex.cells).flatten).toArray 29)) (hk:∀ x ∈ l,x.In w):(Ex.mk op lit hd nm hi lo (some ⟨g,0,none⟩) l.length l).In w:=by
 refine .mk _ h1 h2 h3 h4 h5 h6 (Nat.le_refl _) h7 (fun i x hi=>⟨⟨g,0,none⟩,rfl,fun j v hj=>?_⟩) hk
 have hj9:j < 9:=by
  have:=(List.getElem?_eq_some_iff.1 hj).1
  simpa [Ex.cells] using this
 have e:(((⟨g,0,none⟩:Addr).add (i * 9)).add j) = ⟨g,i * 9 + j,none⟩:=by
  cases i <;> cases j <;> simp [Addr.add]
 rw [e]
 unfold World.cell?
 simp only [hb]
 have:=flat9 l i j x hi hj9
 simp only [List.getElem?_toArray]
 rw [this,hj]
 rfl
theorem leaf_in' {w:World} {op:Int} {lit:Lt} {hd nm:ByteArray} (h1:(Lit.int .u8 op).wf = true) (h2:lit.Ok) (h5:hd.size ≤ maxLen) (h6:nm.size ≤ maxLen):(Ex.mk op lit hd nm 0 0 none 0 []).In w :=
 .mk _ h1 h2 (show (Lit.int .i64 0).wf = true by decide) (show (Lit.int .i64 0).wf = true by decide) h5 h6 (Nat.le_refl _) (Nat.zero_le _) (fun i x h=>by simp [Ex.args] at h) (fun x h=>by simp [Ex.args] at h)
def zLt:Lt:=⟨0,0,0⟩
theorem zLt_ok:zLt.Ok:=⟨by decide,by decide,by decide⟩
def portT:Ex:=.mk 5 ⟨0,0,0⟩ ⟨#[]⟩ ⟨#[]⟩ 0 0 none 0 []
def fiveT:Ex:=.mk 1 ⟨8,0,5⟩ ⟨#[]⟩ ⟨#[]⟩ 0 0 none 0 []
def notT (g:Nat):Ex:=.mk 7 ⟨0,0,0⟩ ⟨#[]⟩ ⟨#[]⟩ 0 0 (some ⟨g,0,none⟩) 1 [fiveT]
def sumT (g k:Nat):Ex:=.mk 12 ⟨0,0,0⟩ ⟨#[]⟩ ⟨#[]⟩ 0 0 (some ⟨k,0,none⟩) 2 [portT,notT g]
def fldT:Ex:=.mk 2 ⟨0,0,0⟩ ⟨#[97]⟩ ⟨#[98]⟩ 0 0 none 0 []
def metT:Ex:=.mk 3 ⟨0,0,0⟩ ⟨#[]⟩ ⟨#[99]⟩ 0 0 none 0 []
def catT (g:Nat):Ex:=.mk 11 ⟨0,0,0⟩ ⟨#[]⟩ ⟨#[]⟩ 0 0 (some ⟨g,0,none⟩) 2 [fldT,metT]
def slcT (g k:Nat):Ex:=.mk 10 ⟨0,0,0⟩ ⟨#[]⟩ ⟨#[]⟩ 7 0 (some ⟨k,0,none⟩) 1 [catT g]
theorem sumT_may (g k:Nat):Ex.may 16 (sumT g k) = true:=by kernel_rfl
theorem slcT_may (g k:Nat):Ex.may 16 (slcT g k) = true:=by kernel_rfl
theorem sumT_tx (g k:Nat):(sumT g k).tx = [112,111,114,116,32,43,32,40,126,56,119,53,41]:=by
 have h8:Lib.itoa 8 = [56]:=by rw [itoa_pos (by decide)];exact Lib.decDigits_one (by decide)
 have h5:Lib.decDigits (Lt.n ⟨8,0,5⟩) = [53]:=Lib.decDigits_one (by decide)
 simp [sumT,notT,portT,fiveT,Ex.tx,Ex.txs,exL,leafL,sgL,brL,Lt.tx,Ex.args,h8,h5]
theorem slcT_tx (g k:Nat):(slcT g k).tx = [40,97,46,98,32,43,43,32,109,101,116,97,46,99,41,91,55,58,48,93]:=by
 have h7:Lib.itoa 7 = [55]:=by rw [itoa_pos (by decide)];exact Lib.decDigits_one (by decide)
 have h0:Lib.itoa 0 = [48]:=by rw [itoa_pos (by decide)];exact Lib.decDigits_one (by decide)
 simp [slcT,catT,fldT,metT,Ex.tx,Ex.txs,exL,leafL,sgL,brL,Ex.args,h7,h0]
theorem sumT_in {w:World} {g k:Nat} (h1:w.heap[g]? = some (.cells #[.int .u8 1,.int .i64 8,.int .u64 0,.int .u64 5,.string ⟨#[]⟩,.string ⟨#[]⟩,.int .i64 0,.int .i64 0,.slice none 0 0] 29)) (h2:w.heap[k]? = some (.cells (portT.cells++(notT g).cells).toArray 29)):(sumT g k).In w:=by
 have a:=leaf_in' (w:=w) (op:=5) (lit:=⟨0,0,0⟩) (hd:=⟨#[]⟩) (nm:=⟨#[]⟩) (by decide) zLt_ok (Nat.zero_le _) (Nat.zero_le _)
 have b:=leaf_in' (w:=w) (op:=1) (lit:=⟨8,0,5⟩) (hd:=⟨#[]⟩) (nm:=⟨#[]⟩) (by decide) ⟨by decide,by decide,by decide⟩ (Nat.zero_le _) (Nat.zero_le _)
 have c:=node_in (w:=w) (op:=7) (lit:=⟨0,0,0⟩) (hd:=⟨#[]⟩) (nm:=⟨#[]⟩) (hi:=0) (lo:=0) (g:=g) (l:=[fiveT]) (by decide) zLt_ok (by decide) (by decide) (Nat.zero_le _) (Nat.zero_le _) (by simp [maxLen]) h1 (fun x hx=>by
  have:x = fiveT:=by simpa using hx
  rw [this];exact b)
 refine node_in (w:=w) (op:=12) (lit:=⟨0,0,0⟩) (hd:=⟨#[]⟩) (nm:=⟨#[]⟩) (hi:=0) (lo:=0) (g:=k) (l:=[portT,notT g]) (by decide) zLt_ok (by decide) (by decide) (Nat.zero_le _) (Nat.zero_le _) (by simp [maxLen]) h2 (fun x hx=>?_)
 have:x = portT ∨ x = notT g:=by simpa using hx
 rcases this with rfl | rfl
 ·exact a
 ·exact c
theorem slcT_in {w:World} {g k:Nat} (h1:w.heap[g]? = some (.cells (fldT.cells++metT.cells).toArray 29)) (h2:w.heap[k]? = some (.cells (catT g).cells.toArray 29)):(slcT g k).In w:=by
 have a:=leaf_in' (w:=w) (op:=2) (lit:=⟨0,0,0⟩) (hd:=⟨#[97]⟩) (nm:=⟨#[98]⟩) (by decide) zLt_ok (by decide) (by decide)
 have b:=leaf_in' (w:=w) (op:=3) (lit:=⟨0,0,0⟩) (hd:=⟨#[]⟩) (nm:=⟨#[99]⟩) (by decide) zLt_ok (Nat.zero_le _) (by decide)
 have c:=node_in (w:=w) (op:=11) (lit:=⟨0,0,0⟩) (hd:=⟨#[]⟩) (nm:=⟨#[]⟩) (hi:=0) (lo:=0) (g:=g) (l:=[fldT,metT]) (by decide) zLt_ok (by decide) (by decide) (Nat.zero_le _) (Nat.zero_le _) (by simp [maxLen]) h1 (fun x hx=>by
  have:x = fldT ∨ x = metT:=by simpa using hx
  rcases this with rfl | rfl
  ·exact a
  ·exact b)
 refine node_in (w:=w) (op:=10) (lit:=⟨0,0,0⟩) (hd:=⟨#[]⟩) (nm:=⟨#[]⟩) (hi:=7) (lo:=0) (g:=k) (l:=[catT g]) (by decide) zLt_ok (by decide) (by decide) (Nat.zero_le _) (Nat.zero_le _) (by simp [maxLen]) h2 (fun x hx=>?_)
 have:x = catT g:=by simpa using hx
 rw [this];exact c
theorem sumT_wt (g k:Nat):(sumT g k).wt ≤ 1048576:=by
 simp [sumT,notT,portT,fiveT,Ex.wt,Ex.wts,ByteArray.size]
theorem slcT_wt (g k:Nat):(slcT g k).wt ≤ 1048576:=by
 simp [slcT,catT,fldT,metT,Ex.wt,Ex.wts,ByteArray.size]
theorem kn_heap (V:World):∃ z,(((((((V.alloc (.cells #[.int .u8 5,.int .i64 0,.int .u64 0,.int .u64 0,.string ⟨#[]⟩,.string ⟨#[]⟩,.int .i64 0,.int .i64 0,.slice none 0 0] 29)).alloc (.cells #[.int .u8 1,.int .i64 8,.int .u64 0,.int .u64 5,.string ⟨#[]⟩,.string ⟨#[]⟩,.int .i64 0,.int .i64 0,.slice none 0 0] 29)).alloc (.cells #[.int .u8 1,.int .i64 8,.int .u64 0,.int .u64 5,.string ⟨#[]⟩,.string ⟨#[]⟩,.int .i64 0,.int .i64 0,.slice none 0 0] 29)).alloc (.cells #[.int .u8 5,.int .i64 0,.int .u64 0,.int .u64 0,.string ⟨#[]⟩,.string ⟨#[]⟩,.int .i64 0,.int .i64 0,.slice none 0 0,.int .u8 7,.int .i64 0,.int .u64 0,.int .u64 0,.string ⟨#[]⟩,.string ⟨#[]⟩,.int .i64 0,.int .i64 0,.slice (some ⟨V.heap.size + 1 + 1,0,none⟩) 1 1] 29)).alloc (.cells #[.int .u8 12,.int .i64 0,.int .u64 0,.int .u64 0,.string ⟨#[]⟩,.string ⟨#[]⟩,.int .i64 0,.int .i64 0,.slice (some ⟨V.heap.size + 1 + 1 + 1,0,none⟩) 2 2] 29)).alloc (.cells #[.int .u8 2,.int .i64 0,.int .u64 0,.int .u64 0,.string ⟨#[97]⟩,.string ⟨#[98]⟩,.int .i64 0,.int .i64 0,.slice none 0 0,.int .u8 3,.int .i64 0,.int .u64 0,.int .u64 0,.string ⟨#[]⟩,.string ⟨#[99]⟩,.int .i64 0,.int .i64 0,.slice none 0 0] 29)).alloc (.cells #[.int .u8 11,.int .i64 0,.int .u64 0,.int .u64 0,.string ⟨#[]⟩,.string ⟨#[]⟩,.int .i64 0,.int .i64 0,.slice (some ⟨V.heap.size + 1 + 1 + 1 + 1 + 1,0,none⟩) 2 2] 29)) = plus V z:=plus_of_below (by
 repeat (first | exact Below.refl _ _ | refine Below.alloc ?_ (by simp;try omega) _))
theorem heap_at {w:World} {o:Obj} {i:Nat} (h:i = w.heap.size):(w.alloc o).heap[i]? = some o:=by
 subst h
 show (w.heap.push o)[w.heap.size]? = _
 simp
theorem heap_below {w:World} {o x:Obj} {i:Nat} (h:w.heap[i]? = some x):(w.alloc o).heap[i]? = some x:=by
 show (w.heap.push o)[i]? = _
 have:=(Array.getElem?_eq_some_iff.1 h).1
 rw [Array.getElem?_push,if_neg (by omega)]
 exact h
set_option maxRecDepth 100000 in
set_option maxHeartbeats 8000000 in
theorem law_known (V:World) (hT:Tab V):Calls Tryz.prog 6 #[] V fun e w'=>e = .returned (.bool true) ∧ ∃ x,w' = plus V x:=by
 obtain ⟨W,hW⟩:∃ W,(((((((V.alloc (.cells #[.int .u8 5,.int .i64 0,.int .u64 0,.int .u64 0,.string ⟨#[]⟩,.string ⟨#[]⟩,.int .i64 0,.int .i64 0,.slice none 0 0] 29)).alloc (.cells #[.int .u8 1,.int .i64 8,.int .u64 0,.int .u64 5,.string ⟨#[]⟩,.string ⟨#[]⟩,.int .i64 0,.int .i64 0,.slice none 0 0] 29)).alloc (.cells #[.int .u8 1,.int .i64 8,.int .u64 0,.int .u64 5,.string ⟨#[]⟩,.string ⟨#[]⟩,.int .i64 0,.int .i64 0,.slice none 0 0] 29)).alloc (.cells #[.int .u8 5,.int .i64 0,.int .u64 0,.int .u64 0,.string ⟨#[]⟩,.string ⟨#[]⟩,.int .i64 0,.int .i64 0,.slice none 0 0,.int .u8 7,.int .i64 0,.int .u64 0,.int .u64 0,.string ⟨#[]⟩,.string ⟨#[]⟩,.int .i64 0,.int .i64 0,.slice (some ⟨V.heap.size + 1 + 1,0,none⟩) 1 1] 29)).alloc (.cells #[.int .u8 12,.int .i64 0,.int .u64 0,.int .u64 0,.string ⟨#[]⟩,.string ⟨#[]⟩,.int .i64 0,.int .i64 0,.slice (some ⟨V.heap.size + 1 + 1 + 1,0,none⟩) 2 2] 29)).alloc (.cells #[.int .u8 2,.int .i64 0,.int .u64 0,.int .u64 0,.string ⟨#[97]⟩,.string ⟨#[98]⟩,.int .i64 0,.int .i64 0,.slice none 0 0,.int .u8 3,.int .i64 0,.int .u64 0,.int .u64 0,.string ⟨#[]⟩,.string ⟨#[99]⟩,.int .i64 0,.int .i64 0,.slice none 0 0] 29)).alloc (.cells #[.int .u8 11,.int .i64 0,.int .u64 0,.int .u64 0,.string ⟨#[]⟩,.string ⟨#[]⟩,.int .i64 0,.int .i64 0,.slice (some ⟨V.heap.size + 1 + 1 + 1 + 1 + 1,0,none⟩) 2 2] 29)) = W:=⟨_,rfl⟩
 have k2:W.heap[V.heap.size + 1 + 1]? = some (.cells #[.int .u8 1,.int .i64 8,.int .u64 0,.int .u64 5,.string ⟨#[]⟩,.string ⟨#[]⟩,.int .i64 0,.int .i64 0,.slice none 0 0] 29):=by
  rw [← hW]
  repeat (first | ((with_reducible apply heap_at);simp;done) | (with_reducible apply heap_below))
 have k3:W.heap[V.heap.size + 1 + 1 + 1]? = some (.cells #[.int .u8 5,.int .i64 0,.int .u64 0,.int .u64 0,.string ⟨#[]⟩,.string ⟨#[]⟩,.int .i64 0,.int .i64 0,.slice none 0 0,.int .u8 7,.int .i64 0,.int .u64 0,.int .u64 0,.string ⟨#[]⟩,.string ⟨#[]⟩,.int .i64 0,.int .i64 0,.slice (some ⟨V.heap.size + 1 + 1,0,none⟩) 1 1] 29):=by
  rw [← hW]
  repeat (first | ((with_reducible apply heap_at);simp;done) | (with_reducible apply heap_below))
 have k5:W.heap[V.heap.size + 1 + 1 + 1 + 1 + 1]? = some (.cells #[.int .u8 2,.int .i64 0,.int .u64 0,.int .u64 0,.string ⟨#[97]⟩,.string ⟨#[98]⟩,.int .i64 0,.int .i64 0,.slice none 0 0,.int .u8 3,.int .i64 0,.int .u64 0,.int .u64 0,.string ⟨#[]⟩,.string ⟨#[99]⟩,.int .i64 0,.int .i64 0,.slice none 0 0] 29):=by
  rw [← hW]
  repeat (first | ((with_reducible apply heap_at);simp;done) | (with_reducible apply heap_below))
 have k6:W.heap[V.heap.size + 1 + 1 + 1 + 1 + 1 + 1]? = some (.cells #[.int .u8 11,.int .i64 0,.int .u64 0,.int .u64 0,.string ⟨#[]⟩,.string ⟨#[]⟩,.int .i64 0,.int .i64 0,.slice (some ⟨V.heap.size + 1 + 1 + 1 + 1 + 1,0,none⟩) 2 2] 29):=by
  rw [← hW]
  repeat (first | ((with_reducible apply heap_at);simp;done) | (with_reducible apply heap_below))
 have hV:∃ z,W = plus V z:=by rw [← hW];exact kn_heap V
 have hTW:Tab W:=by
  obtain ⟨z,hz⟩:=hV
  rw [hz];exact tab_plus hT z
 have q1:=print_expr (sumT (V.heap.size + 1 + 1) (V.heap.size + 1 + 1 + 1)) W hTW (sumT_in k2 k3) (sumT_wt _ _) ⟨#[],W.drawn⟩
 rw [plus_self] at q1
 have s1:exprT (sumT (V.heap.size + 1 + 1) (V.heap.size + 1 + 1 + 1)) = ⟨#[112,111,114,116,32,43,32,40,126,56,119,53,41]⟩:=by
  unfold exprT
  rw [sumT_may,sumT_tx]
  rfl
 rw [s1] at q1
 have q2:∀ x k,(plus W x).heap.size = k → Calls Tryz.prog 9 #[.agg (slcT (V.heap.size + 1 + 1 + 1 + 1 + 1) k).cells.toArray] ((plus W x).alloc (.cells #[.int .u8 11,.int .i64 0,.int .u64 0,.int .u64 0,.string ⟨#[]⟩,.string ⟨#[]⟩,.int .i64 0,.int .i64 0,.slice (some ⟨V.heap.size + 1 + 1 + 1 + 1 + 1,0,none⟩) 2 2] 29)) fun e w'=>e = .returned (.string ⟨#[40,97,46,98,32,43,43,32,109,101,116,97,46,99,41,91,55,58,48,93]⟩) ∧ ∃ y,w' = plus ((plus W x).alloc (.cells #[.int .u8 11,.int .i64 0,.int .u64 0,.int .u64 0,.string ⟨#[]⟩,.string ⟨#[]⟩,.int .i64 0,.int .i64 0,.slice (some ⟨V.heap.size + 1 + 1 + 1 + 1 + 1,0,none⟩) 2 2] 29)) y:=fun x k hk=>by
  have hT2:Tab ((plus W x).alloc (.cells #[.int .u8 11,.int .i64 0,.int .u64 0,.int .u64 0,.string ⟨#[]⟩,.string ⟨#[]⟩,.int .i64 0,.int .i64 0,.slice (some ⟨V.heap.size + 1 + 1 + 1 + 1 + 1,0,none⟩) 2 2] 29)):=by
   obtain ⟨z,hz⟩:=alloc1_plus (plus W x) (.cells #[.int .u8 11,.int .i64 0,.int .u64 0,.int .u64 0,.string ⟨#[]⟩,.string ⟨#[]⟩,.int .i64 0,.int .i64 0,.slice (some ⟨V.heap.size + 1 + 1 + 1 + 1 + 1,0,none⟩) 2 2] 29)
   rw [hz];exact tab_plus (tab_plus hTW x) z
  have q:=print_expr (slcT (V.heap.size + 1 + 1 + 1 + 1 + 1) k) _ hT2 (slcT_in (heap_below (plus_heap k5 x)) (heap_at hk.symm)) (slcT_wt _ _) ⟨#[],((plus W x).alloc (.cells #[.int .u8 11,.int .i64 0,.int .u64 0,.int .u64 0,.string ⟨#[]⟩,.string ⟨#[]⟩,.int .i64 0,.int .i64 0,.slice (some ⟨V.heap.size + 1 + 1 + 1 + 1 + 1,0,none⟩) 2 2] 29)).drawn⟩
  rw [plus_self] at q
  have s2:exprT (slcT (V.heap.size + 1 + 1 + 1 + 1 + 1) k) = ⟨#[40,97,46,98,32,43,43,32,109,101,116,97,46,99,41,91,55,58,48,93]⟩:=by
   unfold exprT
   rw [slcT_may,slcT_tx]
   rfl
  rw [s2] at q
  exact q
 have k6':=fun x=>plus_heap k6 x
 have hq1:=Lib.hid q1
 have hq2:=Lib.hid q2
 have hk6:=Lib.hid k6'
 have hV':=Lib.hid hV
 replace hW:=Lib.hid hW
 clear q1 q2 k6' hV k2 k3 k5 k6 hTW hT s1
 go_enter Tryz.func6,Tryz.ntmps6
 go_wp2_with fail
 rw [hW.out]
 refine hq1.out.mono ?_
 rintro r w1 ⟨rfl,x,rfl⟩
 have hb:=hk6.out x
 have y0:(plus W x).cell? ⟨V.heap.size + 1 + 1 + 1 + 1 + 1 + 1,0,none⟩ = some (.int .u8 11):=ch hb
 have y1:(plus W x).cell? ⟨V.heap.size + 1 + 1 + 1 + 1 + 1 + 1,1,none⟩ = some (.int .i64 0):=ch hb
 have y2:(plus W x).cell? ⟨V.heap.size + 1 + 1 + 1 + 1 + 1 + 1,2,none⟩ = some (.int .u64 0):=ch hb
 have y3:(plus W x).cell? ⟨V.heap.size + 1 + 1 + 1 + 1 + 1 + 1,3,none⟩ = some (.int .u64 0):=ch hb
 have y4:(plus W x).cell? ⟨V.heap.size + 1 + 1 + 1 + 1 + 1 + 1,4,none⟩ = some (.string ⟨#[]⟩):=ch hb
 have y5:(plus W x).cell? ⟨V.heap.size + 1 + 1 + 1 + 1 + 1 + 1,5,none⟩ = some (.string ⟨#[]⟩):=ch hb
 have y6:(plus W x).cell? ⟨V.heap.size + 1 + 1 + 1 + 1 + 1 + 1,6,none⟩ = some (.int .i64 0):=ch hb
 have y7:(plus W x).cell? ⟨V.heap.size + 1 + 1 + 1 + 1 + 1 + 1,7,none⟩ = some (.int .i64 0):=ch hb
 have y8:(plus W x).cell? ⟨V.heap.size + 1 + 1 + 1 + 1 + 1 + 1,8,none⟩ = some (.slice (some ⟨V.heap.size + 1 + 1 + 1 + 1 + 1,0,none⟩) 2 2):=ch hb
 have e1:((⟨#[112,111,114,116,32,43,32,40,126,56,119,53,41]⟩:ByteArray).toList == (⟨#[112,111,114,116,32,43,32,40,126,56,119,53,41]⟩:ByteArray).toList) = true:=by simp
 clear hb hW hq1
 go_wp2_with fail
 refine (hq2.out x _ rfl).mono ?_
 rintro r w2 ⟨rfl,y,rfl⟩
 go_wp2
 go_ret
 refine ⟨rfl,?_⟩
 obtain ⟨z,rfl⟩:=hV'.out
 obtain ⟨t,ht⟩:=alloc1_plus (plus (plus V z) x) (.cells #[.int .u8 11,.int .i64 0,.int .u64 0,.int .u64 0,.string ⟨#[]⟩,.string ⟨#[]⟩,.int .i64 0,.int .i64 0,.slice (some ⟨V.heap.size + 1 + 1 + 1 + 1 + 1,0,none⟩) 2 2] 29)
 exact ⟨_,by rw [ht,plus_plus,plus_plus,plus_plus]⟩
end Go.Proofs.YtbelaghcmgefaaaGreatDoor
