/-
  WHAT IS PROVED HERE: a part of the proof (made narrower and merged by program; the parts: Qa Qb Qc Qd Qe Qf).
-/
import Derived.Lib.ItoaLen
import Derived.OpenShut
import Derived.Test.YtbelaghcmgefaaaGreatDoorM35
import Derived.Test.YtbelaghcmgefaaaGreatDoorM9
import Derived.Test.YtbelaghcmgefaaaGreatDoorM15
namespace Go.Proofs.YtbelaghcmgefaaaGreatDoor
open Go.RowKit
/-- A letter, a digit, a line below. -/
def wd (c:UInt8):Bool:=isLet c.toNat || isDig c.toNat
def dgt (c:UInt8):Bool:=isDig c.toNat
theorem digit_val (k:Nat) (h:k < 10):(UInt8.ofNat (48 + k)).toNat = 48 + k:=by
 rw [UInt8.toNat_ofNat']
 omega
theorem dec_dgt (n:Nat):∀ c ∈ Lib.decDigits n,dgt c = true:=by
 induction n using Nat.strongRecOn with
 | _ n ih =>
  intro c hc
  rw [Lib.decDigits] at hc
  have one:∀ k,k < 10 → dgt (UInt8.ofNat (48 + k)) = true:=fun k hk=>by
   unfold dgt isDig
   rw [digit_val k hk,decide_eq_true_eq]
   omega
  split at hc
  ·rw [List.mem_singleton] at hc
   rw [hc];exact one n ‹_›
  ·rcases List.mem_append.1 hc with hc | hc
   ·exact ih (n / 10) (by omega) c hc
   ·rw [List.mem_singleton] at hc
    rw [hc];exact one _ (by omega)
theorem dgt_wd {c:UInt8} (h:dgt c = true):wd c = true:=by unfold wd dgt at *;rw [h,Bool.or_true]
theorem dec_ne (n:Nat):Lib.decDigits n ≠ []:=fun e=>by
 have:=Lib.decDigits_length n
 rw [e] at this
 have:=Lib.nDigits_pos n
 simp at *
 omega
theorem itoa_pos {k:Int} (h:0 ≤ k):Lib.itoa k = Lib.decDigits k.toNat:=by unfold Lib.itoa;rw [if_neg (by omega)]
theorem lt_w {t:Lt} (h:ltB t = true):0 ≤ t.w:=by
 unfold ltB widthB at h
 simp only [Bool.or_eq_true,Bool.and_eq_true,beq_iff_eq,decide_eq_true_eq] at h
 omega
theorem dec_first (n:Nat) (r:List UInt8):∃ c,(Lib.decDigits n++r).head? = some c ∧ dgt c = true:=by
 cases e:Lib.decDigits n with
 | nil=>exact absurd e (dec_ne n)
 | cons c l=>exact ⟨c,rfl,dec_dgt n c (by rw [e];simp)⟩
theorem lt_first {t:Lt} (h:ltB t = true) (r:List UInt8):∃ c,(t.tx++r).head? = some c ∧ dgt c = true:=by
 unfold Lt.tx
 split
 ·rw [itoa_pos (lt_w h),List.append_assoc,List.append_assoc]
  exact dec_first _ _
 ·rw [List.nil_append]
  exact dec_first _ _
theorem name_ne {s:ByteArray} (h:nameB s = true):s.data.toList ≠ []:=fun e=>by
 unfold nameB at h
 simp only [Bool.and_eq_true,decide_eq_true_eq] at h
 have h1:=h.1.1.1.1
 have h2:s.data.toList.length = s.size:=by rw [Array.length_toList];rfl
 rw [e,List.length_nil] at h2
 omega
theorem byN_get {s:ByteArray} {k:Nat} {c:UInt8} (h:s.data.toList[k]? = some c):byN s k = c.toNat:=by
 unfold byN
 rw [← Array.getElem?_toList,h]
theorem name_wd {s:ByteArray} (h:nameB s = true):∀ c ∈ s.data.toList,wd c = true:=by
 intro c hc
 obtain ⟨k,hk⟩:=List.mem_iff_getElem?.1 hc
 unfold nameB wordB at h
 simp only [Bool.and_eq_true] at h
 have h2:=List.all_eq_true.1 h.2 k (List.mem_range.2 (by
  have:=(List.getElem?_eq_some_iff.1 hk).1
  rw [Array.length_toList] at this
  exact this))
 rw [byN_get hk] at h2
 exact h2
theorem name_first {s:ByteArray} (h:nameB s = true) (r:List UInt8):∃ c,(s.data.toList++r).head? = some c ∧ dgt c = false ∧ wd c = true:=by
 cases e:s.data.toList with
 | nil=>exact absurd e (name_ne h)
 | cons c l =>
  refine ⟨c,rfl,?_,name_wd h c (by rw [e];simp)⟩
  have h1:byN s 0 = c.toNat:=byN_get (by rw [e];rfl)
  unfold nameB at h
  simp only [Bool.and_eq_true,Bool.not_eq_true'] at h
  have h2:=h.1.1.2
  rw [h1] at h2
  exact h2
theorem name_of {s:ByteArray} (h:nmB s 1 = true):nameB s = true:=by
 unfold nmB at h
 split at h
 ·simp at h
 ·simpa using h
theorem may_parts {n:Nat} {e:Ex} (h:Ex.may n e = true):∃ m,n = m + 1 ∧ 1 ≤ e.op ∧ e.op ≤ 26 ∧ litB (xLit e.op) e.lit = true ∧ nmB e.head (xHead e.op) = true ∧ nmB e.name (xName e.op) = true ∧ endB e.hi e.lo (xSlice e.op) = true ∧ (e.args.length:Int) = xArgs e.op ∧ ∀ x ∈ e.args,Ex.may m x = true:=by
 cases n with
 | zero=>simp [Ex.may] at h
 | succ m =>
  rw [Ex.may] at h
  simp only [Bool.and_eq_true] at h
  obtain ⟨h1,h2,h3⟩:=h
  unfold Ex.fits at h2
  simp only [Bool.and_eq_true] at h2
  unfold xIs at h1
  rw [decide_eq_true_eq] at h1
  unfold eachB at h3
  simp only [Bool.and_eq_true] at h3
  exact ⟨m,rfl,h1.1,h1.2,h2.1,h2.2.1,h2.2.2.1,h2.2.2.2.1,beq_iff_eq.1 h2.2.2.2.2.1,List.all_eq_true.1 h3.2⟩
theorem In_lit {w:World} {e:Ex} (h:e.In w):e.lit.Ok:=by cases h;assumption
theorem In_kids {w:World} {e:Ex} (h:e.In w):∀ x ∈ e.args,x.In w:=by cases h;assumption
/-- An expression's first word, and what is behind it, if it has no operands. -/
def Ex.w1 (e:Ex):List UInt8 :=
 if e.op = 1 then e.lit.tx else if e.op = 2 then e.head.data.toList else if e.op = 3 then [109,101,116,97] else if e.op = 4 then e.name.data.toList else if e.op = 5 then [112,111,114,116] else [105,115,86,97,108,105,100]
def Ex.w2 (e:Ex):List UInt8 :=
 if e.op = 2 ∨ e.op = 3 then 46 :: e.name.data.toList else if e.op = 6 then 40 :: (e.head.data.toList++[41]) else []
theorem leaf_ops {e:Ex} {n:Nat} (h:Ex.may n e = true) (ha:e.args = []):e.op = 1 ∨ e.op = 2 ∨ e.op = 3 ∨ e.op = 4 ∨ e.op = 5 ∨ e.op = 6:=by
 obtain ⟨m,_,h1,h2,_,_,_,_,h3,_⟩:=may_parts h
 rw [ha] at h3
 unfold xArgs at h3
 split at h3
 ·simp at h3
 ·split at h3
  ·simp at h3
  ·omega
theorem leaf_tx {e:Ex} {n:Nat} (h:Ex.may n e = true) (ha:e.args = []):e.tx = e.w1++e.w2:=by
 rw [Ex.tx_eq,ha]
 show leafL e.op e.lit e.head e.name = _
 unfold leafL Ex.w1 Ex.w2
 rcases leaf_ops h ha with k | k | k | k | k | k <;> rw [k] <;> simp
theorem lit_zero {t:Lt} (h:litB false t = true):t = ⟨0,0,0⟩:=by
 unfold litB at h
 simp only [Bool.false_eq_true,ite_false,Bool.and_eq_true,beq_iff_eq] at h
 cases t
 simp only at h
 rw [h.1,h.2.1,h.2.2]
theorem leaf_first {e:Ex} {n:Nat} (h:Ex.may n e = true) (ha:e.args = []) (r:List UInt8):∃ c,(e.tx++r).head? = some c ∧ wd c = true:=by
 obtain ⟨m,_,_,_,hl,hh,hn,_,_,_⟩:=may_parts h
 rw [leaf_tx h ha,List.append_assoc]
 unfold Ex.w1
 rcases leaf_ops h ha with k | k | k | k | k | k <;> rw [k] at hl hh hn ⊢
 ·obtain ⟨c,h1,h2⟩:=lt_first (t:=e.lit) hl (e.w2++r)
  exact ⟨c,h1,dgt_wd h2⟩
 ·obtain ⟨c,h1,_,h2⟩:=name_first (name_of hh) (e.w2++r)
  exact ⟨c,h1,h2⟩
 ·exact ⟨109,rfl,by decide⟩
 ·obtain ⟨c,h1,_,h2⟩:=name_first (name_of hn) (e.w2++r)
  exact ⟨c,h1,h2⟩
 ·exact ⟨112,rfl,by decide⟩
 ·exact ⟨105,rfl,by decide⟩
theorem at_leaf {e:Ex} (ha:e.args = []):e.at = e.tx:=by unfold Ex.at brL;rw [ha];rfl
theorem at_kids {e:Ex} (ha:e.args ≠ []):e.at = 40 :: (e.tx++[41]):=by
 unfold Ex.at brL
 rw [if_neg (fun h=>ha (List.eq_nil_of_length_eq_zero h))]
 rfl
theorem at_first {e:Ex} {n:Nat} (h:Ex.may n e = true) (r:List UInt8):∃ c,(e.at++r).head? = some c ∧ (wd c = true ∨ c = 40):=by
 by_cases ha:e.args = []
 ·rw [at_leaf ha]
  obtain ⟨c,h1,h2⟩:=leaf_first h ha r
  exact ⟨c,h1,.inl h2⟩
 ·rw [at_kids ha]
  exact ⟨40,rfl,.inr rfl⟩
theorem two_of {l:List Ex} (h:l.length = 2):∃ a b,l = [a,b]:=by
 match l,h with
 | [a,b],_=>exact ⟨a,b,rfl⟩
/-- The kinds of signs: none, one ahead, a slice, one between. -/
theorem ex_cases {e:Ex} {n:Nat} (h:Ex.may n e = true):e.args = [] ∨ (7 ≤ e.op ∧ e.op ≤ 9 ∧ ∃ a,e.args = [a] ∧ e.tx = sgL e.op++a.at) ∨ (e.op = 10 ∧ ∃ a,e.args = [a] ∧ e.tx = a.at++([91]++(Lib.itoa e.hi++([58]++(Lib.itoa e.lo++[93]))))) ∨
  (11 ≤ e.op ∧ e.op ≤ 26 ∧ ∃ a b,e.args = [a,b] ∧ e.tx = a.at++([32]++(sgL e.op++([32]++b.at)))):=by
 obtain ⟨m,_,h1,h2,_,_,_,_,h3,_⟩:=may_parts h
 have tx:=Ex.tx_eq e
 unfold xArgs at h3
 by_cases c1:7 ≤ e.op ∧ e.op ≤ 10
 ·rw [if_pos c1] at h3
  obtain ⟨a,ha⟩:∃ a,e.args = [a]:=List.length_eq_one_iff.1 (by omega)
  rw [ha] at tx
  simp only [List.map_cons,List.map_nil,exL] at tx
  by_cases c2:e.op = 10
  ·rw [if_pos c2] at tx
   exact .inr (.inr (.inl ⟨c2,a,ha,tx⟩))
  ·rw [if_neg c2] at tx
   exact .inr (.inl ⟨c1.1,by omega,a,ha,tx⟩)
 ·rw [if_neg c1] at h3
  by_cases c2:11 ≤ e.op ∧ e.op ≤ 26
  ·rw [if_pos c2] at h3
   obtain ⟨a,b,ha⟩:∃ a b,e.args = [a,b]:=two_of (by omega)
   rw [ha] at tx
   simp only [List.map_cons,List.map_nil,exL] at tx
   exact .inr (.inr (.inr ⟨c2.1,c2.2,a,b,ha,tx⟩))
  ·rw [if_neg c2] at h3
   exact .inl (List.eq_nil_of_length_eq_zero (by omega))
theorem sg_one (i:Fin 3):∃ c,sgL ((i.val:Int) + 7) = [c] ∧ wd c = false ∧ c ≠ 40:=by
 match i with
 | ⟨0,_⟩=>exact ⟨126,by rfl,by decide,by decide⟩
 | ⟨1,_⟩=>exact ⟨45,by rfl,by decide,by decide⟩
 | ⟨2,_⟩=>exact ⟨33,by rfl,by decide,by decide⟩
theorem fin_of {k lo:Int} {n:Nat} (h1:lo ≤ k) (h2:k < lo + n):∃ i:Fin n,(i.val:Int) + lo = k:=⟨⟨(k - lo).toNat,by omega⟩,by show (((k - lo).toNat:Nat):Int) + lo = k;omega⟩
theorem one_sign {k:Int} (h1:7 ≤ k) (h2:k ≤ 9):∃ c,sgL k = [c] ∧ wd c = false ∧ c ≠ 40:=by
 obtain ⟨i,rfl⟩:=fin_of (n:=3) h1 (by omega)
 exact sg_one i
/-- The operand that an expression begins with, and what is behind it, if it begins with no sign. -/
structure Hd (e x:Ex) (t:List UInt8):Prop where
 tx:e.tx = x.at++t
 cs:(x = e ∧ t = [] ∧ e.args = []) ∨ (e.op = 10 ∧ e.args = [x] ∧ t = 91 :: (Lib.itoa e.hi++(58 :: (Lib.itoa e.lo++[93])))) ∨ (11 ≤ e.op ∧ e.op ≤ 26 ∧ ∃ b,e.args = [x,b] ∧ t = 32 :: (sgL e.op++(32 :: b.at)))
theorem Hd.may {e x:Ex} {t:List UInt8} {n:Nat} (h:Hd e x t) (he:Ex.may n e = true):∃ k,Ex.may k x = true:=by
 obtain ⟨m,_,_,_,_,_,_,_,_,hk⟩:=may_parts he
 rcases h.cs with ⟨h2,_⟩ | ⟨_,h2,_⟩ | ⟨_,_,b,h2,_⟩
 ·exact ⟨n,h2 ▸ he⟩
 ·exact ⟨m,hk x (by rw [h2];simp)⟩
 ·exact ⟨m,hk x (by rw [h2];simp)⟩
theorem ex_head {e:Ex} {n:Nat} (h:Ex.may n e = true):(7 ≤ e.op ∧ e.op ≤ 9 ∧ ∃ a,e.args = [a] ∧ e.tx = sgL e.op++a.at) ∨ ∃ x t,Hd e x t:=by
 rcases ex_cases h with ha | h1 | ⟨h1,a,ha,tx⟩ | ⟨h1,h2,a,b,ha,tx⟩
 ·exact .inr ⟨e,[],by rw [at_leaf ha,List.append_nil],.inl ⟨rfl,rfl,ha⟩⟩
 ·exact .inl h1
 ·exact .inr ⟨a,_,tx,.inr (.inl ⟨h1,ha,rfl⟩)⟩
 ·exact .inr ⟨a,_,tx,.inr (.inr ⟨h1,h2,b,ha,rfl⟩)⟩
/-- An expression that may be has a text. -/
theorem tx_some {e:Ex} {n:Nat} (he:Ex.may n e = true):e.tx ≠ []:=by
 rcases ex_head he with ⟨k1,k2,a,ha,ta⟩ | ⟨x,t,hx⟩
 ·obtain ⟨c,hc,_⟩:=one_sign k1 k2
  rw [ta,hc]
  simp
 ·obtain ⟨k,hk⟩:=hx.may he
  obtain ⟨c,h1,_⟩:=at_first hk t
  intro h
  rw [← hx.tx,h] at h1
  cases h1
theorem each_all {α:Type} {lo hi:Int} {f:α → Bool} {l:List α} (h:eachB lo hi f l = true):∀ x ∈ l,f x = true:=by
 unfold eachB at h
 simp only [Bool.and_eq_true] at h
 exact List.all_eq_true.1 h.2
theorem each_pos {α:Type} {lo hi:Int} {f:α → Bool} {l:List α} (h:eachB lo hi f l = true):lo ≤ (l.length:Int) ∧ (l.length:Int) ≤ hi:=by
 unfold eachB at h
 simp only [Bool.and_eq_true,decide_eq_true_eq] at h
 exact h.1
theorem se_tx1 {x:Se} (k:x.kind = 1):x.tx = [95]:=by unfold Se.tx;rw [if_pos k]
theorem se_tx2 {x:Se} (k:x.kind = 2):x.tx = x.v.tx:=by unfold Se.tx;rw [if_neg (by omega),if_pos k]
theorem se_tx3 {x:Se} (k:x.kind = 3):x.tx = x.v.tx++([32,38,38,38,32]++x.m.tx):=by unfold Se.tx;rw [if_neg (by omega),if_neg (by omega),if_pos k]
theorem se_parts {x:Se} (hx:seB x = true):(x.kind = 1 ∧ x.v = ⟨0,0,0⟩ ∧ x.m = ⟨0,0,0⟩) ∨ (x.kind = 2 ∧ ltB x.v = true ∧ x.m = ⟨0,0,0⟩) ∨ (x.kind = 3 ∧ ltB x.v = true ∧ ltB x.m = true):=by
 unfold seB at hx
 simp only [Bool.and_eq_true] at hx
 obtain ⟨x0,x1,x2⟩:=hx
 unfold sIs at x0
 rw [decide_eq_true_eq] at x0
 have kx:x.kind = 1 ∨ x.kind = 2 ∨ x.kind = 3:=by omega
 rcases kx with kx | kx | kx <;> rw [kx] at x1 x2
 ·exact .inl ⟨kx,lit_zero x1,lit_zero x2⟩
 ·exact .inr (.inl ⟨kx,x1,lit_zero x2⟩)
 ·exact .inr (.inr ⟨kx,x1,x2⟩)
/-- A statement that may be, with so many blocks in it. -/
def St.ok (n:Nat) (s:St):Prop:=s.one = true ∧ St.mayB n s.thn = true ∧ St.mayB n s.els = true
theorem may_ok {n:Nat} {l:List St} (h:St.mayB n l = true):∀ x ∈ l,∃ m,St.ok m x:=by
 cases n with
 | zero =>
  intro x hx
  simp only [St.mayB,beq_iff_eq] at h
  have:l = []:=List.eq_nil_of_length_eq_zero (by omega)
  rw [this] at hx
  simp at hx
 | succ n =>
  intro x hx
  rw [St.mayB] at h
  have h1:=each_all h x hx
  simp only [Bool.and_eq_true] at h1
  exact ⟨n,h1⟩
structure StP (s:St):Prop where
 lo:1 ≤ s.kind
 hi:s.kind ≤ 7
 head:nmB s.head (tHead s.kind) = true
 name:nmB s.name (tName s.kind) = true
 blocks:s.kind ≠ 2 → s.thn = [] ∧ s.els = []
 expr:tExpr s.kind = true → Ex.may 16 s.e = true
 none:tExpr s.kind = false → s.e.same zeroEx = true
theorem one_parts {s:St} (h:s.one = true):StP s:=by
 unfold St.one St.fits at h
 simp only [Bool.and_eq_true] at h
 obtain ⟨h1,⟨h2,h3,h4⟩,h5⟩:=h
 unfold tIs at h1
 rw [decide_eq_true_eq] at h1
 refine ⟨h1.1,h1.2,h2,h3,fun hk=>?_,fun ht=>by rw [if_pos ht] at h5;exact h5,fun ht=>by rw [ht] at h5;simpa using h5⟩
 have hb:tBlocks s.kind = false:=by unfold tBlocks;simpa using hk
 rw [hb] at h4
 simp only [Bool.false_or,Bool.and_eq_true,beq_iff_eq] at h4
 exact ⟨List.eq_nil_of_length_eq_zero (by omega),List.eq_nil_of_length_eq_zero (by omega)⟩
theorem St_e_in {w:World} {s:St} (h:s.In w):s.e.In w:=by cases h;assumption
theorem St_thn_in {w:World} {s:St} (h:s.In w):∀ x ∈ s.thn,x.In w:=by cases h;assumption
theorem St_els_in {w:World} {s:St} (h:s.In w):∀ x ∈ s.els,x.In w:=by cases h;assumption
theorem kinds {k:Int} (h1:1 ≤ k) (h2:k ≤ 7):k = 1 ∨ k = 2 ∨ k = 3 ∨ k = 4 ∨ k = 5 ∨ k = 6 ∨ k = 7:=by omega
theorem pr_some (x:Pr):x.tx ≠ []:=by
 unfold Pr.tx
 intro h
 have:=congrArg List.length h
 simp only [List.length_append,List.length_cons,List.length_nil] at this
 omega
theorem flat_len {α:Type} {f:α → List UInt8} {g:α → Nat} {C:Nat}:∀ l:List α,(∀ x ∈ l,(f x).length ≤ C * g x) → (flat f l).length ≤ C * (l.map g).sum
 | [],_=>by simp [flat]
 | x :: l,h=>by
  have h1:=h x (by simp)
  have h2:=flat_len l (fun y hy=>h y (by simp [hy]))
  simp only [flat,List.length_append,List.map_cons,List.sum_cons,Nat.mul_add]
  omega
theorem rowB_len {α:Type} {f:α → List UInt8} {g:α → Nat} {C:Nat} (l:List α) (h:∀ x ∈ l,(f x).length + 2 ≤ C * g x):(rowB f l).length ≤ C * (l.map g).sum:=by
 cases l with
 | nil=>simp [rowB]
 | cons x l =>
  have h1:=h x (by simp)
  have h2:=flat_len (f:=fun y=>[44,32]++f y) (g:=g) (C:=C) l (fun y hy=>by
   have:=h y (by simp [hy])
   simp only [List.length_append,List.length_cons,List.length_nil]
   omega)
  simp only [rowB,List.length_append,List.map_cons,List.sum_cons,Nat.mul_add]
  omega
theorem blkB_len {α:Type} {f:Nat → α → List UInt8} {g:α → Nat} {C:Nat} (d:Nat) (l:List α) (h:∀ x ∈ l,(f (d + 1) x).length ≤ C * g x):(blkB f d l).length ≤ C * (l.map g).sum + 2 * d + 5:=by
 have:=flat_len l h
 unfold blkB
 simp only [List.length_append,List.length_cons,List.length_nil,padB_length]
 omega
theorem str_len (s:ByteArray):s.data.toList.length = s.size:=by rw [Array.length_toList];rfl
theorem itoa_le {k:Int} (h:(Lit.int .i64 k).wf = true):(Lib.itoa k).length ≤ 21:=by
 have:=bounds_i64 h
 exact Lib.itoa_length_le k (by omega) (by omega)
theorem lt_len {t:Lt} (h:t.Ok):t.tx.length ≤ 61:=by
 have h1:=numS_len t.n (Lt.n_lt h)
 have h2:=itoa_le h.w
 unfold Lt.tx
 split
 ·simp only [List.length_append,List.length_cons,List.length_nil];omega
 ·simp only [List.length_append,List.length_nil];omega
theorem ite_len {p:Prop} [Decidable p] {a b:List UInt8} {n:Nat} (ha:a.length ≤ n) (hb:b.length ≤ n):(if p then a else b).length ≤ n:=by
 split
 ·exact ha
 ·exact hb
theorem sg_len (op:Int):(sgL op).length ≤ 2:=by
 unfold sgL
 repeat' refine ite_len (by decide) ?_
 decide
theorem kw_len (k:Int):(kwL k).length ≤ 7:=by
 unfold kwL
 repeat' refine ite_len (by decide) ?_
 decide
theorem at_len (e:Ex):e.at.length ≤ e.tx.length + 2:=by
 unfold Ex.at brL
 split
 ·omega
 ·simp only [List.length_append,List.length_cons,List.length_nil];omega
theorem In_hi {w:World} {e:Ex} (h:e.In w):(Lit.int .i64 e.hi).wf = true ∧ (Lit.int .i64 e.lo).wf = true:=by cases h;exact ⟨by assumption,by assumption⟩
theorem ex_len {w:World} (e:Ex):e.In w → e.tx.length + 100 ≤ 1000 * e.wt:=by
 induction e using Ex.ind with
 | _ e ih =>
 intro hi
 have hl:=lt_len (In_lit hi)
 have h1:=itoa_le (In_hi hi).1
 have h2:=itoa_le (In_hi hi).2
 have h3:=sg_len e.op
 have hk:=In_kids hi
 have hh:=str_len e.head
 have hn:=str_len e.name
 rw [Ex.tx_eq,Ex.wt_eq]
 cases ha:e.args with
 | nil =>
  simp only [List.map_nil,exL,leafL,List.sum_nil]
  repeat' split
  all_goals try simp only [List.length_append,List.length_cons,List.length_nil]
  all_goals omega
 | cons a l =>
  have a1:=ih a (by rw [ha];simp) (hk a (by rw [ha];simp))
  have a2:=at_len a
  cases l with
  | nil =>
   simp only [List.map_cons,List.map_nil,exL,List.sum_cons,List.sum_nil]
   split
   all_goals try simp only [List.length_append,List.length_cons,List.length_nil]
   all_goals omega
  | cons b l =>
   have b1:=ih b (by rw [ha];simp) (hk b (by rw [ha];simp))
   have b2:=at_len b
   simp only [List.map_cons,exL,List.sum_cons,List.length_append,List.length_cons,List.length_nil]
   omega
theorem fd_len {w:World} {x:Fd} (h:x.In w):x.tx.length + 100 ≤ 1000 * x.sz:=by
 have h1:=itoa_le h.w
 have h2:=str_len x.name
 unfold Fd.tx Fd.sz
 simp only [List.length_append,List.length_cons,List.length_nil]
 omega
theorem fdln_len {w:World} {x:Fd} {d:Nat} (hd:d ≤ 20) (h:x.In w):(Fd.ln d x).length ≤ 1000 * x.sz:=by
 have h1:=fd_len h
 unfold Fd.ln
 simp only [List.length_append,List.length_cons,List.length_nil,padB_length]
 omega
theorem hr_len {w:World} {x:Hr} (h:x.In w):x.tx.length ≤ 1000 * x.sz:=by
 have h1:=blkB_len (f:=Fd.ln) (g:=Fd.sz) (C:=1000) 0 x.fields.l (fun y hy=>fdln_len (by omega) (h.fields.kids y hy))
 have h2:=str_len x.name
 unfold Hr.tx Hr.sz Sl.size
 simp only [List.length_append,List.length_cons,List.length_nil]
 omega
theorem se_len {w:World} {x:Se} (h:x.In w):x.tx.length + 2 ≤ 1000 * x.sz:=by
 have h1:=lt_len h.v
 have h2:=lt_len h.m
 unfold Se.tx Se.sz
 repeat' split
 all_goals try simp only [List.length_append,List.length_cons,List.length_nil]
 all_goals omega
theorem ca_len {w:World} {x:Ca} {d:Nat} (hd:d ≤ 20) (h:x.In w):(Ca.ln d x).length ≤ 1000 * x.sz:=by
 have h1:=rowB_len (f:=Se.tx) (g:=Se.sz) (C:=1000) x.sets.l (fun y hy=>se_len (h.sets.kids y hy))
 have h2:=str_len x.to
 unfold Ca.ln Ca.sz Sl.size
 split
 all_goals try simp only [List.length_append,List.length_cons,List.length_nil,padB_length]
 all_goals omega
theorem names_len (f:ByteArray → List UInt8) (l:List ByteArray) (h:∀ s,(f s).length ≤ 100 + s.size):(flat f l).length ≤ 1000 * (l.map strSize).sum :=
 flat_len l (fun s _=>by
  have:=h s
  unfold strSize
  omega)
theorem sa_len {w:World} {x:Sa} {d:Nat} (hd:d ≤ 10) (h:x.In w):(Sa.ln d x).length ≤ 1000 * x.sz:=by
 have h1:=str_len x.name
 have h2:=str_len x.to
 have h3:=names_len (takeL (d + 1)) x.takes.l (fun s=>by
  have:=str_len s
  unfold takeL
  simp only [List.length_append,List.length_cons,List.length_nil,padB_length]
  omega)
 have h4:=rowB_len (f:=Ex.tx) (g:=Ex.wt) (C:=1000) x.keys.l (fun y hy=>by
  have:=ex_len y (h.keys.kids y hy)
  omega)
 have h5:=blkB_len (f:=Ca.ln) (g:=Ca.sz) (C:=1000) (d + 1) x.cases.l (fun y hy=>ca_len (by omega) (h.cases.kids y hy))
 unfold Sa.ln Sa.tr Sa.sz Sl.size
 split
 all_goals try simp only [List.length_append,List.length_cons,List.length_nil,padB_length]
 all_goals omega
theorem stL_len (k:Int) (head name:ByteArray) (t pad thn:List UInt8) (els:Option (List UInt8)) (n:Nat) (hn:∀ x,els = some x → x.length ≤ n):(stL k head name t pad thn els).length ≤ head.size + name.size + t.length + 2 * pad.length + thn.length + n + 40:=by
 have hh:=str_len head
 have hm:=str_len name
 cases els with
 | none =>
  unfold stL asgL
  dsimp only
  repeat' split
  all_goals try simp only [List.length_append,List.length_cons,List.length_nil]
  all_goals omega
 | some x =>
  have:=hn x rfl
  unfold stL asgL
  dsimp only
  repeat' split
  all_goals try simp only [List.length_append,List.length_cons,List.length_nil]
  all_goals omega
theorem mayB_pos {n:Nat} {l:List St} (h:St.mayB n l = true):∀ x ∈ l,∃ m,n = m + 1 ∧ St.ok m x:=by
 cases n with
 | zero =>
  intro x hx
  simp only [St.mayB,beq_iff_eq] at h
  have:l = []:=List.eq_nil_of_length_eq_zero (by omega)
  rw [this] at hx
  simp at hx
 | succ n =>
  intro x hx
  rw [St.mayB] at h
  have h1:=each_all h x hx
  simp only [Bool.and_eq_true] at h1
  exact ⟨n,rfl,h1⟩
theorem st_len {w:World}:∀ (x:St) (d n:Nat),d + n ≤ 20 → St.ok n x → x.In w → (St.ln d x).length ≤ 1000 * x.sz:=by
 intro x
 induction x using St.ind with
 | _ x ih1 ih2 =>
 intro d n hd ho hi
 have h1:=ex_len x.e (St_e_in hi)
 have h2:=flat_len (f:=St.ln (d + 1)) (g:=St.sz) (C:=1000) x.thn (fun y hy=>by
  obtain ⟨m,rfl,hm⟩:=mayB_pos ho.2.1 y hy
  exact ih1 y hy (d + 1) m (by omega) hm (St_thn_in hi y hy))
 have h3:=flat_len (f:=St.ln (d + 1)) (g:=St.sz) (C:=1000) x.els (fun y hy=>by
  obtain ⟨m,rfl,hm⟩:=mayB_pos ho.2.2 y hy
  exact ih2 y hy (d + 1) m (by omega) hm (St_els_in hi y hy))
 have h4:=stL_len x.kind x.head x.name x.e.tx (padB d) (flat (St.ln (d + 1)) x.thn) (if x.els.length = 0 then none else some (flat (St.ln (d + 1)) x.els)) _ (fun y hy=>by
  split at hy
  ·cases hy
  ·rw [← Option.some.inj hy];exact h3)
 rw [St.ln_eq,St.sz_eq,List.length_append,padB_length]
 rw [padB_length] at h4
 omega
theorem sts_len {w:World} {l:List St} {d n:Nat} (hd:d + 1 + n ≤ 21) (ho:St.mayB n l = true) (hi:∀ x ∈ l,x.In w):(blkB St.ln d l).length ≤ 1000 * (l.map St.sz).sum + 2 * d + 5 :=
 blkB_len d l (fun y hy=>by
  obtain ⟨m,rfl,hm⟩:=mayB_pos ho y hy
  exact st_len y (d + 1) m (by omega) hm (hi y hy))
theorem ac_len {w:World} {x:Ac} (hb:acB x = true) (h:x.In w):x.tx.length ≤ 1000 * x.sz:=by
 have h1:=str_len x.name
 have h2:=rowB_len (f:=Fd.tx) (g:=Fd.sz) (C:=1000) x.params.l (fun y hy=>by
  have:=fd_len (h.params.kids y hy)
  omega)
 unfold acB at hb
 simp only [Bool.and_eq_true] at hb
 have h3:=sts_len (d:=0) (by omega) hb.2.2 h.body.kids
 unfold Ac.tx Ac.sz Sl.size
 simp only [List.length_append,List.length_cons,List.length_nil]
 omega
theorem ke_len {w:World} {x:Ke} {d:Nat} (hd:d ≤ 20) (h:x.In w):(Ke.ln d x).length ≤ 1000 * x.sz:=by
 have h1:=ex_len x.e h.e
 have h2:=kw_len x.kind
 unfold Ke.ln Ke.sz
 simp only [List.length_append,List.length_cons,List.length_nil,padB_length]
 omega
theorem ta_len {w:World} {x:Ta} (h:x.In w):x.tx.length ≤ 1000 * x.sz:=by
 have h1:=str_len x.name
 have h2:=str_len x.dflt.name
 have h3:=blkB_len (f:=Ke.ln) (g:=Ke.sz) (C:=1000) 1 x.keys.l (fun y hy=>ke_len (by omega) (h.keys.kids y hy))
 have h4:=names_len (listL 2) x.actions.l (fun s=>by
  have:=str_len s
  unfold listL
  simp only [List.length_append,List.length_cons,List.length_nil,padB_length]
  omega)
 have h5:=rowB_len (f:=Lt.tx) (g:=fun _=>1) (C:=1000) x.dflt.args.l (fun y hy=>by
  have:=lt_len (h.dflt.args.kids y hy)
  omega)
 unfold Ta.tx Ta.sz Cl.sz Sl.size
 unfold blkB at h3 ⊢
 simp only [List.length_append,List.length_cons,List.length_nil,padB_length] at h3 ⊢
 simp only [Nat.reduceAdd] at h3 ⊢
 omega
theorem pr_len {w:World} {x:Pr} (hb:prB x = true) (h:x.In w):x.tx.length ≤ 1000 * x.sz + 1000:=by
 unfold prB at hb
 simp only [Bool.and_eq_true] at hb
 obtain ⟨_,_,_,b4,_,b6,_⟩:=hb
 have h1:=flat_len (f:=Hr.tx) (g:=Hr.sz) (C:=1000) x.headers.l (fun y hy=>hr_len (h.headers.kids y hy))
 have h2:=blkB_len (f:=Fd.ln) (g:=Fd.sz) (C:=1000) 0 x.metas.l (fun y hy=>fdln_len (by omega) (h.metas.kids y hy))
 have h3:=blkB_len (f:=Sa.ln) (g:=Sa.sz) (C:=1000) 0 x.states.l (fun y hy=>sa_len (by omega) (h.states.kids y hy))
 have h4:=flat_len (f:=Ac.tx) (g:=Ac.sz) (C:=1000) x.actions.l (fun y hy=>ac_len (each_all b4 y hy) (h.actions.kids y hy))
 have h5:=flat_len (f:=Ta.tx) (g:=Ta.sz) (C:=1000) x.tables.l (fun y hy=>ta_len (h.tables.kids y hy))
 have h6:=sts_len (d:=0) (by omega) b6 h.control.kids
 have h7:=names_len (emitL 1) x.emit.l (fun s=>by
  have:=str_len s
  unfold emitL
  simp only [List.length_append,List.length_cons,List.length_nil,padB_length]
  omega)
 unfold Pr.tx Pr.sz Sl.size
 unfold blkB at h2 h3 h6 ⊢
 simp only [List.length_append,List.length_cons,List.length_nil,padB_length] at h2 h3 h6 ⊢
 simp only [Nat.reduceAdd] at h2 h3 h6 ⊢
 omega
end Go.Proofs.YtbelaghcmgefaaaGreatDoor
