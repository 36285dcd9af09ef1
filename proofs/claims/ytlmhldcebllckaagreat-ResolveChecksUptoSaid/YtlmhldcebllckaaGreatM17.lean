/-
  WHAT IS PROVED HERE: a part of the proof (made narrower and merged by program; the parts: Wa Wl Wm).
-/
import Derived.Laws.OwnMore
import Derived.Deep.AppendLies
import Derived.OwnWalkIn
import Derived.Test.YtlmhldcebllckaaGreatRows
import Derived.OwnWalk
import Derived.WalkKit
import Derived.Lib.Hide
import Derived.WalkSpells
import Derived.WalkLawsBesides
import Derived.Test.YtlmhldcebllckaaGreatM1
import Derived.Test.YtlmhldcebllckaaGreatM16
namespace Go.Proofs.YtlmhldcebllckaaGreat
open Go.RowKit
theorem flat_at {α:Type} (f:α → List Value) (C:Nat):∀ (l:List α) (i j:Nat) (x:α),(∀ y ∈ l,(f y).length = C) → l[i]? = some x → j < C → ((l.map f).flatten)[i * C + j]? = (f x)[j]?
 | [],i,j,x,_,h,_=>by simp at h
 | a :: l,0,j,x,hC,h,hj=>by
  simp only [List.getElem?_cons_zero,Option.some.injEq] at h
  subst h
  have h1:=hC a (List.mem_cons_self ..)
  rw [List.map_cons,List.flatten_cons,Nat.zero_mul,Nat.zero_add,List.getElem?_append_left (by omega)]
 | a :: l,i + 1,j,x,hC,h,hj=>by
  simp only [List.getElem?_cons_succ] at h
  have h1:=hC a (List.mem_cons_self ..)
  have e:(i + 1) * C + j = C + (i * C + j):=by rw [Nat.succ_mul];omega
  rw [List.map_cons,List.flatten_cons,e,List.getElem?_append_right (by omega),h1,Nat.add_sub_cancel_left]
  exact flat_at f C l i j x (fun y hy=>hC y (List.mem_cons_of_mem _ hy)) h hj
theorem flat_length {α:Type} (f:α → List Value) (C:Nat):∀ (l:List α),(∀ y ∈ l,(f y).length = C) → ((l.map f).flatten).length = l.length * C
 | [],_=>by simp
 | a :: l,hC=>by
  have h1:=hC a (List.mem_cons_self ..)
  have h2:=flat_length f C l (fun y hy=>hC y (List.mem_cons_of_mem _ hy))
  rw [List.map_cons,List.flatten_cons,List.length_append,h1,h2,List.length_cons,Nat.succ_mul,Nat.add_comm]
theorem flat_mem {α:Type} (f:α → List Value) (l:List α) (u:Value) (h:u ∈ (l.map f).flatten):∃ y ∈ l,u ∈ f y:=by
 rw [List.mem_flatten] at h
 obtain ⟨L,hL,hu⟩:=h
 rw [List.mem_map] at hL
 obtain ⟨y,hy,rfl⟩:=hL
 exact ⟨y,hy,hu⟩
/-- All cells of a row that came in, in one list. -/
theorem row_flat {α:Type} {w:World} {C:Nat} {f:α → List Value} {ad:Addr} {l:List α} (hrow:RowAt w C f (some ad) l) (hC:∀ y ∈ l,(f y).length = C) (hC0:0 < C) :
  ∀ j u,((l.map f).flatten)[j]? = some u → w.cell? (ad.add j) = some u:=by
 intro j u hu
 have hj:j < l.length * C:=by rw [← flat_length f C l hC];exact (List.getElem?_eq_some_iff.1 hu).1
 have hd:j / C < l.length:=Nat.div_lt_of_lt_mul (by rw [Nat.mul_comm];exact hj)
 have hx:l[j / C]? = some l[j / C]:=List.getElem?_eq_getElem hd
 have e:j = j / C * C + j % C:=by rw [Nat.mul_comm];exact (Nat.div_add_mod j C).symm
 have hm:j % C < C:=Nat.mod_lt _ hC0
 rw [e,flat_at f C l _ _ _ hC hx hm] at hu
 obtain ⟨a,ha,hc⟩:=hrow _ _ hx
 obtain rfl:ad = a:=by simpa using ha
 have:=hc _ _ hu
 rw [Addr.add_add,← e] at this
 exact this
/-- What a row of one's own holds lies there item by item. -/
theorem own_row {α:Type} {w:World} {base:Nat} {e:TypeId} {C n g cap:Nat} {f:α → List Value} {l:List α} (h:w.ownsRow base e C (.slice (some ⟨g,0,none⟩) n cap) n ((l.map f).flatten)) (hC:∀ y ∈ l,(f y).length = C):RowAt w C f (some ⟨g,0,none⟩) l:=by
 intro i x hx
 refine ⟨_,rfl,fun j v hv=>?_⟩
 have hj:j < C:=by have:=(List.getElem?_eq_some_iff.1 hv).1;rw [hC x (List.mem_of_getElem? hx)] at this;exact this
 have hl:=flat_length f C l hC
 have h1:=h.1
 have hi:i < l.length:=(List.getElem?_eq_some_iff.1 hx).1
 have hk:i * C + j < n * C:=by
  rw [← h1,hl]
  exact Nat.lt_of_lt_of_le (show i * C + j < (i + 1) * C by rw [Nat.succ_mul];omega) (Nat.mul_le_mul_right C hi)
 rw [Addr.add_lit,Addr.add_lit,Nat.zero_add]
 rw [h.cellAt _ hk,flat_at f C l i j x hC hx hj,hv]
section
variable {P:Program} {w:World}
theorem run_append_none (base:Nat) (t ty e:TypeId) (i:TypeInfo) (size:Nat) (ht:P.underlying t = some (.slice e)) (hi:P.info? e = some i)
  (v:Value) (n:Nat) (xs:List Value) (c:Nat) (hown:w.ownsRow base e size v n xs) :
  (Builtin.append_ #[t,t] ty #[v,.slice none 0 c]).run P w = .ok v w:=by
 rcases hown.2 with ⟨rfl,rfl⟩ | ⟨g,cap,cur,rfl,_,_,hnc,_⟩
 ·simp [Builtin.append_,run_underlying ht,sizeOf,typeInfo,hi,Builtin.lenOf,Builtin.firstCells]
 ·simp [Builtin.append_,run_underlying ht,sizeOf,typeInfo,hi,Builtin.lenOf,Builtin.firstCells,hnc,storeCells]
theorem wpList_append_sl {α:Type} {ops:Array Oper} {rest:List Oper} {o:Oper} {a:Act} {Q:Exit → Act → World → Prop} (hgd:o.guard = none) (s x:Operand) (t:TypeId)
  (ho:o.op = .call { callee:=.builtin .append,args:=#[s,x],argTypes:=#[t,t] })
  (base:Nat) (e:TypeId) (i:TypeInfo) (z:Value) (size bytes:Nat) (ht:P.underlying t = some (.slice e)) (hi:P.info? e = some i) (hz:i.zero = some z)
  (hsize:i.size = size) (hby:i.bytes = bytes) (hzs:z.cells.size = size) (hsz:0 < size)
  (v:Value) (n:Nat) (xs:List Value) (hs:a.eval s = v) (hown:w.ownsRow base e size v n xs)
  (p:Option Addr) (m c:Nat) (l:List α) (f:α → List Value) (hx:a.eval x = .slice p m c) (hm:l.length = m) (hrow:RowAt w size f p l) (hC:∀ y ∈ l,(f y).length = size) (h1:∀ y ∈ l,∀ u ∈ f y,u.oneCell' = true)
  (h63:n + m ≤ maxLen) (hbytes:(n + m) * bytes ≤ 140737488355328) (hbase:base ≤ w.heap.size)
  (h:∀ v' w',w'.ownsRow base e size v' (n + m) (xs++(l.map f).flatten) → w.grownBy w' v.ownBlock → wpList P ops Q rest (a.put o.dst v') w'):wpList P ops Q (o :: rest) a w:=by
 cases p with
 | none =>
  obtain rfl:l = []:=by
   cases l with
   | nil=>rfl
   | cons y l=>obtain ⟨_,h,_⟩:=hrow 0 y rfl;cases h
  obtain rfl:m = 0:=by rw [← hm];rfl
  refine wpList_plain hgd fun K hK=>?_
  have hrun:=run_append_none (P:=P) (w:=w) base t o.type e i size ht hi v n xs c hown
  unfold Oper.wp
  simp [execOp,ho,resolve,invoke,builtin,hs,hx,hrun,Result.andThen]
  exact hK _ _ (h v w (by simpa using hown) (World.grownBy.mk rfl rfl rfl (Nat.le_refl _) fun _ _ _=>rfl))
 | some ad =>
  exact wpList_append_own w hgd s x t ho base e i z size bytes ht hi hz hsize hby hzs hsz v n xs hs hown ad m c _ hx (by rw [flat_length f size l hC,hm]) (row_flat hrow hC hsz)
   (fun u hu=>by obtain ⟨y,hy,hu⟩:=flat_mem f l u hu;exact h1 y hy u hu) h63 hbytes hbase fun v' w' h2 h3 _=>h v' w' h2 h3
theorem own_sl {w:World} {base:Nat} {e:TypeId} {size:Nat} {v:Value} {n:Nat} {xs:List Value} (h:w.ownsRow base e size v n xs) (hn:0 < n):∃ g cap,v = .slice (some ⟨g,0,none⟩) n cap ∧ base ≤ g ∧ g < w.heap.size:=by
 rcases h.2 with ⟨rfl,h0⟩ | ⟨g,cap,cur,rfl,hg,hh,_⟩
 ·omega
 ·exact ⟨g,cap,rfl,hg,(Array.getElem?_eq_some_iff.1 hh).1⟩
end
/-- An item's cells. -/
def It.cs:It → List Value
 | .num kind a b=>[.int .u8 kind,.int .i64 (a:Int),.int .i64 (b:Int),.int .u8 0,.string ⟨#[]⟩,.string ⟨#[]⟩,.int .u8 0,.int .i64 0,.int .u64 0,.int .u64 0,.string ⟨#[]⟩,.string ⟨#[]⟩,.int .i64 0,.int .i64 0,.slice none 0 0,.slice none 0 0,.slice none 0 0]
 | .st a s=>[.int .u8 10,.int .i64 a,.int .i64 0,.int .u8 s.kind,.string s.head,.string s.name,.int .u8 s.e.op,.int .i64 s.e.lit.w,.int .u64 s.e.lit.h,.int .u64 s.e.lit.l,.string s.e.head,.string s.e.name,.int .i64 s.e.hi,.int .i64 s.e.lo,.slice s.e.p s.e.args.length s.e.cap,.slice s.p s.thn.length s.cap,.slice s.q s.els.length s.cbp]
theorem It.v_cs (z:It):z.v = .agg z.cs.toArray:=by cases z <;> rfl
theorem It.cs_len (z:It):z.cs.length = 17:=by cases z <;> rfl
theorem It.cs_one (z:It):∀ u ∈ z.cs,u.oneCell' = true:=by
 intro u hu
 cases z <;>
 ·simp only [It.cs,List.mem_cons,List.not_mem_nil,or_false] at hu
  rcases hu with rfl | rfl | rfl | rfl | rfl | rfl | rfl | rfl | rfl | rfl | rfl | rfl | rfl | rfl | rfl | rfl | rfl <;> rfl
theorem item_info:(Tryz.prog.info? 77).map (fun i=>(i.zero,i.size,i.bytes)) = some (some (.agg #[.int .u8 0,.int .i64 0,.int .i64 0,.int .u8 0,.string ⟨#[]⟩,.string ⟨#[]⟩,.int .u8 0,.int .i64 0,.int .u64 0,.int .u64 0,.string ⟨#[]⟩,.string ⟨#[]⟩,.int .i64 0,.int .i64 0,.slice none 0 0,.slice none 0 0,.slice none 0 0]),17,216):=by kernel_rfl
/-- A value holds these items, in memory made since w. -/
structure OwI (w W:World) (v:Value) (l:List It):Prop where
 below:Below w.heap.size w W
 own:W.ownsRow w.heap.size 77 17 v l.length ((l.map It.cs).flatten)
theorem owi_nil (w:World):OwI w w (.slice none 0 0) []:=⟨Below.refl _ _,World.ownsRow_nil _ _ _ _⟩
section
variable {w W W1 W2:World} {v v':Value} {l ys:List It}
theorem OwI.more (h:OwI w W v l) (hown:W2.ownsRow w.heap.size 77 17 v' (l.length + ys.length) ((l.map It.cs).flatten++(ys.map It.cs).flatten)) (hB:Below w.heap.size w W1) (hsz:w.heap.size ≤ W1.heap.size) (hg:W1.grownBy W2 v.ownBlock):OwI w W2 v' (l++ys) :=
 ⟨hB.grown hg hsz (fun k e=>(h.own.lt k e).1),by rw [List.length_append,List.map_append,List.flatten_append];exact hown⟩
theorem OwI.after (h:OwI w W v l) (hB:Below W.heap.size W W2):OwI w W2 v l :=
 ⟨h.below.trans (hB.mono h.below.size),by
  obtain ⟨hl,h2⟩:=h.own
  refine ⟨hl,?_⟩
  rcases h2 with h2 | ⟨g,cap,cur,hv,hg,hh,h3,h4,h5,h6⟩
  ·exact .inl h2
  ·exact .inr ⟨g,cap,cur,hv,hg,(hB.block g (Array.getElem?_eq_some_iff.1 hh).1).trans hh,h3,h4,h5,h6⟩⟩
theorem OwI.row (h:OwI w W v l):∃ p c,v = .slice p l.length c ∧ RowAt W 17 It.cs p l:=by
 by_cases hn:0 < l.length
 ·obtain ⟨g,c,rfl,_,_⟩:=own_sl h.own hn
  exact ⟨_,c,rfl,own_row h.own (fun y _=>y.cs_len)⟩
 ·obtain rfl:l = []:=List.length_eq_zero_iff.1 (by omega)
  rcases h.own.2 with ⟨rfl,_⟩ | ⟨g,cap,cur,rfl,_⟩
  ·exact ⟨none,0,rfl,fun i x hx=>by simp at hx⟩
  ·exact ⟨_,cap,rfl,fun i x hx=>by simp at hx⟩
theorem OwI.plus (h:OwI w W v l):∃ z,W = plus w z:=plus_of_below h.below
end
section
variable {w W:World} {v:Value} {l:List It} {ops:Array Oper} {rest:List Oper} {o:Oper} {a:Act} {Q:Exit → Act → World → Prop}
/-- Items that lie in a row are appended. -/
theorem its_sl (h:OwI w W v l) (ys:List It) (p:Option Addr) (m c:Nat) (hm:ys.length = m) (hrow:RowAt W 17 It.cs p ys) (hgd:o.guard = none) (s x:Operand) (ho:o.op = .call { callee:=.builtin .append,args:=#[s,x],argTypes:=#[79,79] })
  (hs:a.eval s = v) (hx:a.eval x = .slice p m c) (hb:l.length + m ≤ 100000000) (k:∀ v' w',OwI w w' v' (l++ys) → wpList Tryz.prog ops Q rest (a.put o.dst v') w'):wpList Tryz.prog ops Q (o :: rest) a W:=by
 obtain ⟨i0,hi0,hi1,hi2,hi3⟩:=info_parts item_info
 subst hm
 exact wpList_append_sl hgd s x _ ho w.heap.size 77 i0 _ 17 216 Tryz.underlying79 hi0 hi1 hi2 hi3 rfl (by decide) v l.length _ hs h.own p _ c ys It.cs hx rfl hrow (fun y _=>y.cs_len) (fun y _=>y.cs_one)
  (by simp only [maxLen];omega) (by omega) h.below.size fun v' w' h2 h3=>k v' w' (h.more h2 h.below h.below.size h3)
/-- One item, built in place, is appended. -/
theorem its_one (h:OwI w W v l) (z:It) (cs:Array Value) (hc:cs.toList = z.cs) (hgd:o.guard = none) (s x:Operand) (ho:o.op = .call { callee:=.builtin .append,args:=#[s,x],argTypes:=#[79,79] })
  (hs:a.eval s = v) (hx:a.eval x = .slice (some ⟨W.heap.size,0,none⟩) 1 1) (hb:l.length + 1 ≤ 100000000) (k:∀ v' w',OwI w w' v' (l++[z]) → wpList Tryz.prog ops Q rest (a.put o.dst v') w'):wpList Tryz.prog ops Q (o :: rest) a (W.alloc (.cells cs 77)):=by
 have h2:OwI w (W.alloc (.cells cs 77)) v l:=h.after ((Below.refl _ W).alloc (Nat.le_refl _) _)
 refine its_sl h2 [z] _ 1 1 rfl (fun i y hy=>⟨_,rfl,fun j u hu=>?_⟩) hgd s x ho hs hx hb k
 obtain ⟨rfl,rfl⟩:i = 0 ∧ y = z:=by
  cases i with
  | zero=>exact ⟨rfl,by simpa using hy.symm⟩
  | succ i=>simp at hy
 rw [Nat.zero_mul,Addr.add_lit,Addr.add_lit]
 simp only [Nat.zero_add]
 refine (cell_new W cs _ _ j rfl).trans ?_
 rw [← hc] at hu
 simpa using hu
end
theorem wr_succ2 (k n:Nat) (h:k < n) (hn:n ≤ 2097152):wrap64 ((k:Int) + 1) = ((k + 1:Nat):Int):=by
 rw [wr_in _ (by omega)]
 simp
theorem ptI_more (kind:Int) (a k:Nat):ptI kind a (k + 1) = ptI kind a k++[.num kind a k]:=by
 simp [ptI,List.range_succ]
theorem ptI_length (kind:Int) (a k:Nat):(ptI kind a k).length = k:=by simp [ptI]
set_option maxRecDepth 100000 in
set_option maxHeartbeats 8000000 in
theorem r_many (kind:Int) (a n:Nat) (w:World) (hn:n ≤ 2097152):Calls Tryz.prog 81 #[.int .u8 kind,.int .i64 (a:Int),.int .i64 (n:Int)] w fun e w'=>∃ v,e = .returned v ∧ OwI w w' v (ptI kind a n):=by
 have hn':=Lib.hid hn
 clear hn
 go_enter Tryz.func81,Tryz.ntmps81
 go_wp2
 go_loopw [7,8] (fun ov iv wr=>∃ k:Nat,k ≤ n ∧ iv = .int .i64 (k:Int) ∧ OwI w wr ov (ptI kind a k)) (fun _ iv _=>n - (intOf iv).toNat)
 case atStart=>exact ⟨0,Nat.zero_le _,rfl,owi_nil w⟩
 case round =>
  obtain ⟨k,hk,rfl,hI⟩:=hrel
  by_cases hlt:k < n
  ·have hI':=Lib.hid hI
   have a6:=Lib.hid (wr_succ2 k n hlt hn'.out)
   clear hI
   go_wp2_with (first | (at_builtin;refine its_one hI'.out (.num kind a k) _ rfl rfl _ _ rfl rfl rfl (by have:=hn'.out;rw [ptI_length];omega) ?_;intro v' w' h2;have h2':=Lib.hid h2;clear h2))
   go_roundw
   case rel=>exact ⟨k + 1,hlt,congrArg (Value.int .i64) a6.out,by rw [ptI_more];exact h2'.out⟩
   case measure=>exact step_less k n hlt a6.out
  ·obtain rfl:k = n:=by omega
   have hI':=Lib.hid hI
   clear hI hlt hk
   go_wp2
   go_ret
   exact ⟨_,rfl,hI'.out⟩
theorem enc_le7 (a:Int):∀ s:St,(s.enc a).length ≤ s.sz:=fun s=>St.ind (Q:=fun s=>(s.enc a).length ≤ s.sz) (fun s h1 h2=>by
 have sums:∀ l:List St,(∀ x ∈ l,(x.enc a).length ≤ x.sz) → (St.encs a l).length ≤ (l.map St.sz).sum:=by
  intro l
  induction l with
  | nil=>intro _;simp [St.encs]
  | cons x l ih =>
   intro h
   have:=h x (List.mem_cons_self ..)
   have:=ih (fun y hy=>h y (List.mem_cons_of_mem _ hy))
   rw [St.encs,List.length_append,List.map_cons,List.sum_cons]
   omega
 have e:=St.sz_eq s
 have:=sums _ h1
 have:=sums _ h2
 rw [St.enc_eq,List.length_cons,List.length_append]
 omega) s
theorem encs_le7 (a:Int):∀ l:List St,(St.encs a l).length ≤ (l.map St.sz).sum
 | []=>by simp [St.encs]
 | x :: l=>by
  have:=enc_le7 a x
  have:=encs_le7 a l
  rw [St.encs,List.length_append,List.map_cons,List.sum_cons]
  omega
theorem encs_take (a:Int):∀ (l:List St) (k:Nat) (s:St),l[k]? = some s → St.encs a (l.take (k + 1)) = St.encs a (l.take k)++s.enc a
 | [],k,s,h=>by simp at h
 | x :: l,0,s,h=>by
  obtain rfl:x = s:=by simpa using h
  simp [St.encs]
 | x :: l,k + 1,s,h=>by
  have:=encs_take a l k s (by simpa using h)
  rw [List.take_succ_cons,List.take_succ_cons,St.encs,St.encs,this,List.append_assoc]
theorem take_sum (l:List St) (k:Nat):((l.take k).map St.sz).sum ≤ (l.map St.sz).sum:=by
 induction l generalizing k with
 | nil=>simp
 | cons x l ih =>
  cases k with
  | zero=>simp
  | succ k=>have:=ih k;simp only [List.take_succ_cons,List.map_cons,List.sum_cons];omega
def StAt (l:List St):Prop:=∀ (a:Int) (p:Option Addr) (cap:Nat) (w:World),RowAt w 14 St.cells p l → (∀ x ∈ l,x.In w) → (l.map St.sz).sum ≤ 1048576 →
 Calls Tryz.prog 82 #[.int .i64 a,.slice p l.length cap] w fun e w'=>∃ v,e = .returned v ∧ OwI w w' v (St.encs a l)
set_option maxRecDepth 100000 in
set_option maxHeartbeats 16000000 in
theorem st_list (l:List St) (hk:∀ s ∈ l,StAt s.thn ∧ StAt s.els):StAt l:=by
 intro a p cap w hrow hkids hz
 have hl:l.length ≤ 1048576:=by have:=length_le_sum St.sz (fun s=>by have:=St.sz_eq s;omega) l;omega
 have hrow':=Lib.hid hrow
 have hkids':=Lib.hid hkids
 have hz':=Lib.hid hz
 have hk':=Lib.hid hk
 obtain ⟨n,hn⟩:∃ n,l.length = n:=⟨_,rfl⟩
 rw [hn] at hl ⊢
 have hn':=Lib.hid hn
 have hl':=Lib.hid hl
 clear hrow hkids hz hk hn hl
 go_enter Tryz.func82,Tryz.ntmps82
 go_wp2
 go_loopw [5,6] (fun ov iv wr=>∃ k:Nat,k ≤ n ∧ iv = .int .i64 (k:Int) ∧ OwI w wr ov (St.encs a (l.take k))) (fun _ iv _=>n - (intOf iv).toNat)
 case atStart=>exact ⟨0,Nat.zero_le _,rfl,owi_nil w⟩
 case round =>
  obtain ⟨k,hk,rfl,hI⟩:=hrel
  by_cases hlt:k < n
  ·obtain ⟨s,hs⟩:∃ s,l[k]? = some s:=⟨l[k]'(by rw [hn'.out];exact hlt),List.getElem?_eq_getElem _⟩
   have hmem:=List.mem_of_getElem? hs
   have hsz:=le_sum_of St.sz l s hmem
   have hse:=St.sz_eq s
   obtain ⟨pa,hpa,hc⟩:=hrow'.out k s hs
   have hin:=hkids'.out s hmem
   have hF:∀ v1 w1 l1,OwI w w1 v1 l1 → CellsAt w1 (pa.add (k * 14)) s.cells ∧
     Calls Tryz.prog 82 #[.int .i64 a,.slice s.p s.thn.length s.cap] w1 (fun e w'=>∃ v,e = .returned v ∧ OwI w1 w' v (St.encs a s.thn)) ∧
     Calls Tryz.prog 82 #[.int .i64 a,.slice s.q s.els.length s.cbp] w1 (fun e w'=>∃ v,e = .returned v ∧ OwI w1 w' v (St.encs a s.els)):=by
    intro v1 w1 l1 h1
    obtain ⟨z,rfl⟩:=h1.plus
    obtain ⟨q1,q2⟩:=hk'.out s hmem
    have hin1:=hin.plus z
    have i1:=St.In.inThn hin1
    have i2:=St.In.inEls hin1
    have hz1:=hz'.out
    exact ⟨hc.plus z,q1 a _ _ _ i1.row i1.kids (by omega),q2 a _ _ _ i2.row i2.kids (by omega)⟩
   obtain ⟨hcw,-,-⟩:=hF _ _ _ hI
   have hb0:(St.encs a (l.take k)).length + (s.enc a).length ≤ 10000000:=by
    have h1:=encs_le7 a (l.take k)
    have h2:=take_sum l k
    have h3:=hz'.out
    have h4:=enc_le7 a s
    omega
   rw [St.enc_eq,List.length_cons,List.length_append] at hb0
   have he:=Lib.hid (encs_take a l k s hs)
   rw [St.enc_eq] at he
   generalize St.encs a (l.take k) = X at hI hb0 he
   generalize hT:St.encs a s.thn = T at hF hb0 he
   generalize hE:St.encs a s.els = E at hF hb0 he
   clear hT hE
   have hF':=Lib.hid hF
   have hI':=Lib.hid hI
   have hb':=Lib.hid hb0
   have a6:=Lib.hid (wr_succ k n hlt hl'.out)
   have d0:=hcw.c0 _ rfl
   have d1:=hcw.cs 0 _ rfl
   have d2:=hcw.cs 1 _ rfl
   have d3:=hcw.cs 2 _ rfl
   have d4:=hcw.cs 3 _ rfl
   have d5:=hcw.cs 4 _ rfl
   have d6:=hcw.cs 5 _ rfl
   have d7:=hcw.cs 6 _ rfl
   have d8:=hcw.cs 7 _ rfl
   have d9:=hcw.cs 8 _ rfl
   have d10:=hcw.cs 9 _ rfl
   have d11:=hcw.cs 10 _ rfl
   have d12:=hcw.cs 11 _ rfl
   have d13:=hcw.cs 12 _ rfl
   rw [hpa]
   clear hF hI hb0 hcw hc hin hse hsz hmem hs
   go_upto_region 6 with (first | (at_builtin;refine its_one hI'.out (.st a s) _ rfl rfl _ _ rfl rfl rfl (by have:=hb'.out;omega) ?_;intro v1 w1 h1;obtain ⟨hc1,q1,-⟩:=hF'.out _ _ _ h1;have h1':=Lib.hid h1;have q1':=Lib.hid q1;have e12:=hc1.cs 11 _ rfl;clear h1 hc1 q1))
   clear d0 d1 d2 d3 d4 d5 d6 d7 d8 d9 d10 d11 d12 d13
   go_upto_region 7 with (first | (go_at_call 82;with_reducible refine q1'.out.mono ?_;rintro e w2 ⟨v2,rfl,h2⟩;obtain ⟨p2,c2,rfl,r2⟩:=h2.row;have r2':=Lib.hid r2;have h3':=Lib.hid (h1'.out.after h2.below);clear h2 r2) | (at_builtin;refine its_sl h3'.out T p2 _ c2 rfl r2'.out rfl _ _ rfl rfl rfl (by have:=hb'.out;rw [List.length_append,List.length_singleton];omega) ?_;intro v4 w4 h4;obtain ⟨hc1,-,q4⟩:=hF'.out _ _ _ h4;have h4':=Lib.hid h4;have q4':=Lib.hid q4;have e13:=hc1.cs 12 _ rfl;clear h4 hc1 q4))
   go_wp2_with (first | (go_at_call 82;with_reducible refine q4'.out.mono ?_;rintro e w5 ⟨v5,rfl,h5⟩;obtain ⟨p5,c5,rfl,r5⟩:=h5.row;have r5':=Lib.hid r5;have h6':=Lib.hid (h4'.out.after h5.below);clear h5 r5) | (at_builtin;refine its_sl h6'.out E p5 _ c5 rfl r5'.out rfl _ _ rfl rfl rfl (by have:=hb'.out;rw [List.length_append,List.length_append,List.length_singleton];omega) ?_;intro v7 w7 h7;have h7':=Lib.hid h7;clear h7))
   go_roundw
   case rel=>exact ⟨k + 1,hlt,congrArg (Value.int .i64) a6.out,by rw [he.out];have:=h7'.out;simpa [List.append_assoc] using this⟩
   case measure=>exact step_less k n hlt a6.out
  ·obtain rfl:k = n:=by omega
   rw [List.take_of_length_le (by rw [hn'.out];exact Nat.le_refl _)] at hI
   have hI':=Lib.hid hI
   clear hI hlt hk
   go_wp2
   go_ret
   exact ⟨_,rfl,hI'.out⟩
theorem st_all (s:St):StAt s.thn ∧ StAt s.els:=St.ind (Q:=fun s=>StAt s.thn ∧ StAt s.els) (fun _ h1 h2=>⟨st_list _ h1,st_list _ h2⟩) s
theorem r_stmts (L:Sl St) (a:Int) (w:World) (h:L.In w 14 St.cells (St.In w)) (hz:L.size St.sz ≤ 1048576):Calls Tryz.prog 82 #[.int .i64 a,.slice L.p L.l.length L.cap] w fun e w'=>∃ v,e = .returned v ∧ OwI w w' v (St.encs a L.l) :=
 st_list L.l (fun s _=>st_all s) a L.p L.cap w h.row h.kids hz
end Go.Proofs.YtlmhldcebllckaaGreat
