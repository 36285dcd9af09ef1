/-
  WHAT IS PROVED HERE: a part of the proof (made narrower and merged by program; the parts: Qa Qb Qc).
-/
import Derived.Test.YtpjhokdehcpjbaaGreatDoorM40
import Derived.Test.YtpjhokdehcpjbaaGreatDoorM10
import Derived.Test.YtpjhokdehcpjbaaGreatDoorM16
namespace Go.Proofs.YtpjhokdehcpjbaaGreatDoor
open Go.RowKit
/-- A letter, a digit, a line below. -/
def wd (c:UInt8):Bool:=isLet c.toNat || isDig c.toNat
def dgt (c:UInt8):Bool:=isDig c.toNat
/-- What the text begins with is not so. -/
def Off (p:UInt8 → Bool) (r:List UInt8):Prop:=∀ c,r.head? = some c → p c = false
theorem Off.nil (p:UInt8 → Bool):Off p []:=fun c h=>by simp at h
theorem Off.cons {p:UInt8 → Bool} {c:UInt8} {r:List UInt8} (h:p c = false):Off p (c :: r):=fun x hx=>by
 simp only [List.head?_cons,Option.some.injEq] at hx
 rw [← hx];exact h
theorem split_word (p:UInt8 → Bool):∀ (a b r s:List UInt8),(∀ c ∈ a,p c = true) → (∀ c ∈ b,p c = true) → Off p r → Off p s → a++r = b++s → a = b ∧ r = s
 | [],[],_,_,_,_,_,_,h=>⟨rfl,h⟩
 | [],c :: b,r,s,_,hb,hr,_,h=>by
  have h0:r = c :: (b++s):=h
  have h1:=hr c (by rw [h0];rfl)
  rw [hb c (by simp)] at h1
  cases h1
 | c :: a,[],r,s,ha,_,_,hs,h=>by
  have h0:c :: (a++r) = s:=h
  have h1:=hs c (by rw [← h0];rfl)
  rw [ha c (by simp)] at h1
  cases h1
 | c :: a,x :: b,r,s,ha,hb,hr,hs,h=>by
  have h0:c :: (a++r) = x :: (b++s):=h
  injection h0 with e1 e2
  obtain ⟨e3,e4⟩:=split_word p a b r s (fun y hy=>ha y (by simp [hy])) (fun y hy=>hb y (by simp [hy])) hr hs e2
  exact ⟨by rw [e1,e3],e4⟩
theorem digit_val (k:Nat) (h:k < 10):(UInt8.ofNat (48 + k)).toNat = 48 + k:=by
 rw [UInt8.toNat_ofNat']
 omega
theorem dec_dgt (n:Nat):∀ c ∈ Lib.decDigits n,dgt c = true:=by
 induction n using Nat.strongRecOn with
 | _ n ih =>
  intro c hc
  rw [Lib.decDigits] at hc
  have one:∀ k,k < 10 → dgt (UInt8.ofNat (48 + k)) = true:=fun k hk=>by
   unfold dgt isDig
   rw [digit_val k hk,decide_eq_true_eq]
   omega
  split at hc
  ·rw [List.mem_singleton] at hc
   rw [hc];exact one n ‹_›
  ·rcases List.mem_append.1 hc with hc | hc
   ·exact ih (n / 10) (by omega) c hc
   ·rw [List.mem_singleton] at hc
    rw [hc];exact one _ (by omega)
theorem dgt_wd {c:UInt8} (h:dgt c = true):wd c = true:=by unfold wd dgt at *;rw [h,Bool.or_true]
theorem dec_ne (n:Nat):Lib.decDigits n ≠ []:=fun e=>by
 have:=Lib.decDigits_length n
 rw [e] at this
 have:=Lib.nDigits_pos n
 simp at *
 omega
def valL (l:List UInt8):Nat:=l.foldl (fun v c=>v * 10 + (c.toNat - 48)) 0
theorem dec_val (n:Nat):valL (Lib.decDigits n) = n:=by
 induction n using Nat.strongRecOn with
 | _ n ih =>
  rw [Lib.decDigits]
  split
  ·unfold valL
   simp only [List.foldl_cons,List.foldl_nil]
   rw [digit_val n ‹_›]
   omega
  ·have h:=ih (n / 10) (by omega)
   unfold valL at h ⊢
   rw [List.foldl_append,h]
   simp only [List.foldl_cons,List.foldl_nil]
   rw [digit_val (n % 10) (by omega)]
   omega
theorem dec_inj {m n:Nat} (h:Lib.decDigits m = Lib.decDigits n):m = n:=by rw [← dec_val m,← dec_val n,h]
theorem itoa_pos {k:Int} (h:0 ≤ k):Lib.itoa k = Lib.decDigits k.toNat:=by unfold Lib.itoa;rw [if_neg (by omega)]
theorem two_part (h l h' l':Int) (a1:0 ≤ h) (a3:0 ≤ l) (a4:l < 18446744073709551616) (b1:0 ≤ h') (b3:0 ≤ l') (b4:l' < 18446744073709551616) (e:h.toNat * 18446744073709551616 + l.toNat = h'.toNat * 18446744073709551616 + l'.toNat):h = h' ∧ l = l':=by omega
theorem Lt.inj_n {a b:Lt} (ha:a.Ok) (hb:b.Ok) (h:a.n = b.n):a.h = b.h ∧ a.l = b.l:=by
 have h1:=wf_u64 ha.h
 have h2:=wf_u64 ha.l
 have h3:=wf_u64 hb.h
 have h4:=wf_u64 hb.l
 unfold Lt.n at h
 exact two_part a.h a.l b.h b.l h1.1 h2.1 h2.2 h3.1 h4.1 h4.2 h
theorem nat_pos (j k:Int) (hj:0 ≤ j) (hk:0 ≤ k) (h:j.toNat = k.toNat):j = k:=by omega
theorem lt_w {t:Lt} (h:ltB t = true):0 ≤ t.w:=by
 unfold ltB widthB at h
 simp only [Bool.or_eq_true,Bool.and_eq_true,beq_iff_eq,decide_eq_true_eq] at h
 omega
theorem zero_both (j k:Int) (hj:0 ≤ j) (hk:0 ≤ k) (h1:¬ 0 < j) (h2:¬ 0 < k):j = k:=by omega
theorem lt_wd {t:Lt} (h:ltB t = true):∀ c ∈ t.tx,wd c = true:=by
 intro c hc
 unfold Lt.tx at hc
 rcases List.mem_append.1 hc with hc | hc
 ·split at hc
  ·rw [itoa_pos (lt_w h)] at hc
   rcases List.mem_append.1 hc with hc | hc
   ·exact dgt_wd (dec_dgt _ c hc)
   ·rw [List.mem_singleton] at hc
    rw [hc];decide
  ·simp at hc
 ·exact dgt_wd (dec_dgt _ c hc)
theorem dec_first (n:Nat) (r:List UInt8):∃ c,(Lib.decDigits n++r).head? = some c ∧ dgt c = true:=by
 cases e:Lib.decDigits n with
 | nil=>exact absurd e (dec_ne n)
 | cons c l=>exact ⟨c,rfl,dec_dgt n c (by rw [e];simp)⟩
theorem lt_first {t:Lt} (h:ltB t = true) (r:List UInt8):∃ c,(t.tx++r).head? = some c ∧ dgt c = true:=by
 unfold Lt.tx
 split
 ·rw [itoa_pos (lt_w h),List.append_assoc,List.append_assoc]
  exact dec_first _ _
 ·rw [List.nil_append]
  exact dec_first _ _
theorem fin_lt {a b:Lt} (oa:a.Ok) (ob:b.Ok) (h1:a.w = b.w) (h2:Lib.decDigits a.n = Lib.decDigits b.n):a = b:=by
 have h3:=Lt.inj_n oa ob (dec_inj h2)
 cases a;cases b
 simp only at h1 h3
 rw [h1,h3.1,h3.2]
theorem off119 (r:List UInt8):Off dgt ([119]++r):=Off.cons (by decide)
theorem not119 (r:List UInt8):¬ ([119]++r = []):=fun h=>by simp at h
theorem lt_tx_of (x y m n:List UInt8) (p q:Bool) (hx:∀ c ∈ x,dgt c = true) (hy:∀ c ∈ y,dgt c = true) (hm:∀ c ∈ m,dgt c = true) (hn:∀ c ∈ n,dgt c = true) (h:(if p = true then x++[119] else [])++m = (if q = true then y++[119] else [])++n):p = q ∧ (p = true → x = y) ∧ m = n:=by
 cases p <;> cases q
 ·simpa using h
 ·simp only [Bool.false_eq_true,if_false,if_true,List.nil_append,List.append_assoc] at h
  obtain ⟨_,e2⟩:=split_word dgt m y [] ([119]++n) hm hy (Off.nil _) (off119 _) (by rw [List.append_nil];exact h)
  exact (not119 n e2.symm).elim
 ·simp only [Bool.false_eq_true,if_false,if_true,List.nil_append,List.append_assoc] at h
  obtain ⟨_,e2⟩:=split_word dgt x n ([119]++m) [] hx hn (off119 _) (Off.nil _) (by rw [List.append_nil];exact h)
  exact (not119 m e2).elim
 ·simp only [if_true,List.append_assoc] at h
  obtain ⟨e1,e2⟩:=split_word dgt x y ([119]++m) ([119]++n) hx hy (off119 _) (off119 _) h
  exact ⟨rfl,fun _=>e1,List.append_cancel_left e2⟩
theorem lt_tx_bool (t:Lt) (h:0 ≤ t.w):t.tx = (if decide (0 < t.w) = true then Lib.decDigits t.w.toNat++[119] else [])++Lib.decDigits t.n:=by
 unfold Lt.tx
 rw [itoa_pos h]
 by_cases h1:0 < t.w
 ·rw [if_pos h1,if_pos (decide_eq_true h1)]
 ·rw [if_neg h1,decide_eq_false h1];rfl
theorem lt_tx_inj {a b:Lt} (ha:ltB a = true) (hb:ltB b = true) (oa:a.Ok) (ob:b.Ok) (h:a.tx = b.tx):a = b:=by
 have wa:=lt_w ha
 have wb:=lt_w hb
 rw [lt_tx_bool a wa,lt_tx_bool b wb] at h
 obtain ⟨e1,e2,e3⟩:=lt_tx_of _ _ _ _ _ _ (dec_dgt _) (dec_dgt _) (dec_dgt _) (dec_dgt _) h
 refine fin_lt oa ob ?_ e3
 by_cases h1:0 < a.w
 ·exact nat_pos _ _ wa wb (dec_inj (e2 (decide_eq_true h1)))
 ·rw [decide_eq_false h1] at e1
  exact zero_both _ _ wa wb h1 (of_decide_eq_false e1.symm)
theorem name_ne {s:ByteArray} (h:nameB s = true):s.data.toList ≠ []:=fun e=>by
 unfold nameB at h
 simp only [Bool.and_eq_true,decide_eq_true_eq] at h
 have h1:=h.1.1.1.1
 have h2:s.data.toList.length = s.size:=by rw [Array.length_toList];rfl
 rw [e,List.length_nil] at h2
 omega
theorem name_kw {s:ByteArray} (h:nameB s = true):kwB s = false:=by
 unfold nameB at h
 simp only [Bool.and_eq_true,Bool.not_eq_true'] at h
 exact h.1.2
theorem byN_get {s:ByteArray} {k:Nat} {c:UInt8} (h:s.data.toList[k]? = some c):byN s k = c.toNat:=by
 unfold byN
 rw [← Array.getElem?_toList,h]
theorem name_wd {s:ByteArray} (h:nameB s = true):∀ c ∈ s.data.toList,wd c = true:=by
 intro c hc
 obtain ⟨k,hk⟩:=List.mem_iff_getElem?.1 hc
 unfold nameB wordB at h
 simp only [Bool.and_eq_true] at h
 have h2:=List.all_eq_true.1 h.2 k (List.mem_range.2 (by
  have:=(List.getElem?_eq_some_iff.1 hk).1
  rw [Array.length_toList] at this
  exact this))
 rw [byN_get hk] at h2
 exact h2
theorem name_first {s:ByteArray} (h:nameB s = true) (r:List UInt8):∃ c,(s.data.toList++r).head? = some c ∧ dgt c = false ∧ wd c = true:=by
 cases e:s.data.toList with
 | nil=>exact absurd e (name_ne h)
 | cons c l =>
  refine ⟨c,rfl,?_,name_wd h c (by rw [e];simp)⟩
  have h1:byN s 0 = c.toNat:=byN_get (by rw [e];rfl)
  unfold nameB at h
  simp only [Bool.and_eq_true,Bool.not_eq_true'] at h
  have h2:=h.1.1.2
  rw [h1] at h2
  exact h2
theorem bytes_eq {s t:ByteArray} (h:s.data.toList = t.data.toList):s = t:=by
 apply ByteArray.ext
 rw [← Array.toList_inj,h]
/-- No keyword's text is a name's. -/
theorem name_not {s:ByteArray} {l:List UInt8} (h:nameB s = true) (hm:((List.range 32).any fun k=>decide ((kwAt k).data.toList = l)) = true):s.data.toList ≠ l:=fun e=>by
 have:=kwB_list (s:=s) (l:=l) (by rw [list_beq,decide_eq_true e]) hm
 rw [name_kw h] at this
 cases this
theorem nil_of {s:ByteArray} (h:nmB s 0 = true):s = ⟨#[]⟩:=by
 unfold nmB at h
 split at h
 ·rename_i h1
  rw [beq_iff_eq,Lib.toList_data] at h1
  exact bytes_eq h1
 ·simp at h
theorem name_of {s:ByteArray} (h:nmB s 1 = true):nameB s = true:=by
 unfold nmB at h
 split at h
 ·simp at h
 ·simpa using h
theorem may_parts {n:Nat} {e:Ex} (h:Ex.may n e = true):∃ m,n = m + 1 ∧ 1 ≤ e.op ∧ e.op ≤ 26 ∧ litB (xLit e.op) e.lit = true ∧ nmB e.head (xHead e.op) = true ∧ nmB e.name (xName e.op) = true ∧ endB e.hi e.lo (xSlice e.op) = true ∧ (e.args.length:Int) = xArgs e.op ∧ ∀ x ∈ e.args,Ex.may m x = true:=by
 cases n with
 | zero=>simp [Ex.may] at h
 | succ m =>
  rw [Ex.may] at h
  simp only [Bool.and_eq_true] at h
  obtain ⟨h1,h2,h3⟩:=h
  unfold Ex.fits at h2
  simp only [Bool.and_eq_true] at h2
  unfold xIs at h1
  rw [decide_eq_true_eq] at h1
  unfold eachB at h3
  simp only [Bool.and_eq_true] at h3
  exact ⟨m,rfl,h1.1,h1.2,h2.1,h2.2.1,h2.2.2.1,h2.2.2.2.1,beq_iff_eq.1 h2.2.2.2.2.1,List.all_eq_true.1 h3.2⟩
theorem In_lit {w:World} {e:Ex} (h:e.In w):e.lit.Ok:=by cases h;assumption
theorem In_kids {w:World} {e:Ex} (h:e.In w):∀ x ∈ e.args,x.In w:=by cases h;assumption
/-- What may stand behind an expression, and behind an operand. -/
def stopC (c:UInt8):Bool:=decide (c = 41 ∨ c = 59 ∨ c = 58 ∨ c = 44)
def stopA (c:UInt8):Bool:=decide (c = 41 ∨ c = 59 ∨ c = 58 ∨ c = 44 ∨ c = 32 ∨ c = 91)
def On (p:UInt8 → Bool) (r:List UInt8):Prop:=∀ c,r.head? = some c → p c = true
theorem On.cons {p:UInt8 → Bool} {c:UInt8} {r:List UInt8} (h:p c = true):On p (c :: r):=fun x hx=>by
 simp only [List.head?_cons,Option.some.injEq] at hx
 rw [← hx];exact h
theorem On.nil (p:UInt8 → Bool):On p []:=fun c h=>by simp at h
theorem stop_a {r:List UInt8} (h:On stopC r):On stopA r:=fun c hc=>by
 have:=h c hc
 unfold stopC at this
 rw [decide_eq_true_eq] at this
 rcases this with rfl | rfl | rfl | rfl <;> decide
theorem stopA_off {r:List UInt8} (h:On stopA r):Off wd r:=fun c hc=>by
 have:=h c hc
 unfold stopA at this
 rw [decide_eq_true_eq] at this
 rcases this with rfl | rfl | rfl | rfl | rfl | rfl <;> decide
/-- An expression's first word, and what is behind it, if it has no operands. -/
def Ex.w1 (e:Ex):List UInt8 :=
 if e.op = 1 then e.lit.tx else if e.op = 2 then e.head.data.toList else if e.op = 3 then [109,101,116,97] else if e.op = 4 then e.name.data.toList else if e.op = 5 then [112,111,114,116] else [105,115,86,97,108,105,100]
def Ex.w2 (e:Ex):List UInt8 :=
 if e.op = 2 ∨ e.op = 3 then 46 :: e.name.data.toList else if e.op = 6 then 40 :: (e.head.data.toList++[41]) else []
/-- Its kind, by these. -/
def kindOf (W:List UInt8) (c:Option UInt8):Int :=
 if (W.head?.map dgt) = some true then 1 else if c = some 46 then (if W = [109,101,116,97] then 3 else 2) else if c = some 40 then 6 else if W = [112,111,114,116] then 5 else 4
theorem leaf_ops {e:Ex} {n:Nat} (h:Ex.may n e = true) (ha:e.args = []):e.op = 1 ∨ e.op = 2 ∨ e.op = 3 ∨ e.op = 4 ∨ e.op = 5 ∨ e.op = 6:=by
 obtain ⟨m,_,h1,h2,_,_,_,_,h3,_⟩:=may_parts h
 rw [ha] at h3
 unfold xArgs at h3
 split at h3
 ·simp at h3
 ·split at h3
  ·simp at h3
  ·omega
theorem leaf_tx {e:Ex} {n:Nat} (h:Ex.may n e = true) (ha:e.args = []):e.tx = e.w1++e.w2:=by
 rw [Ex.tx_eq,ha]
 show leafL e.op e.lit e.head e.name = _
 unfold leafL Ex.w1 Ex.w2
 rcases leaf_ops h ha with k | k | k | k | k | k <;> rw [k] <;> simp
theorem meta_wd:∀ c ∈ ([109,101,116,97]:List UInt8),wd c = true:=by decide
theorem port_wd:∀ c ∈ ([112,111,114,116]:List UInt8),wd c = true:=by decide
theorem valid_wd:∀ c ∈ ([105,115,86,97,108,105,100]:List UInt8),wd c = true:=by decide
theorem leaf_word {e:Ex} {n:Nat} (h:Ex.may n e = true) (ha:e.args = []):∀ c ∈ e.w1,wd c = true:=by
 obtain ⟨m,_,_,_,hl,hh,hn,_,_,_⟩:=may_parts h
 unfold Ex.w1
 rcases leaf_ops h ha with k | k | k | k | k | k <;> rw [k] at hl hh hn ⊢
 ·exact lt_wd hl
 ·exact name_wd (name_of hh)
 ·exact meta_wd
 ·exact name_wd (name_of hn)
 ·exact port_wd
 ·exact valid_wd
theorem leaf_off {e:Ex} {n:Nat} (h:Ex.may n e = true) (ha:e.args = []) {r:List UInt8} (hr:On stopA r):Off wd (e.w2++r):=by
 unfold Ex.w2
 rcases leaf_ops h ha with k | k | k | k | k | k <;> rw [k]
 ·exact stopA_off hr
 ·exact Off.cons (by decide)
 ·exact Off.cons (by decide)
 ·exact stopA_off hr
 ·exact stopA_off hr
 ·exact Off.cons (by decide)
theorem head_not {r:List UInt8} (hr:On stopA r) {c:UInt8} (hc:stopA c = false):r.head? ≠ some c:=fun e=>by
 rw [hr c e] at hc
 cases hc
theorem leaf_kind {e:Ex} {n:Nat} (h:Ex.may n e = true) (ha:e.args = []) {r:List UInt8} (hr:On stopA r):e.op = kindOf e.w1 (e.w2++r).head?:=by
 obtain ⟨m,_,_,_,hl,hh,hn,_,_,_⟩:=may_parts h
 have n46:r.head? ≠ some 46:=head_not hr (by decide)
 have n40:r.head? ≠ some 40:=head_not hr (by decide)
 have nd:∀ {s:ByteArray},nameB s = true → ¬ (s.data.toList.head?.map dgt) = some true:=fun {s} hs=>by
  obtain ⟨c,h1,h2,_⟩:=name_first hs []
  rw [List.append_nil] at h1
  rw [h1,Option.map_some,h2]
  simp
 unfold kindOf Ex.w1 Ex.w2
 rcases leaf_ops h ha with k | k | k | k | k | k <;> rw [k] at hl hh hn ⊢
 ·obtain ⟨c,h1,h2⟩:=lt_first (t:=e.lit) hl []
  rw [List.append_nil] at h1
  simp [h1,h2]
 ·have a1:=nd (name_of hh)
  have a2:=name_not (l:=[109,101,116,97]) (name_of hh) (by decide +kernel)
  simp [a1,a2]
 ·simp [dgt,isDig]
 ·have a1:=nd (name_of hn)
  have a2:=name_not (l:=[112,111,114,116]) (name_of hn) (by decide +kernel)
  simp [a1,a2,n46,n40]
 ·simp [dgt,isDig,n46,n40]
 ·simp [dgt,isDig]
theorem top_eq {a b:Ex} (h1:a.op = b.op) (h2:a.lit = b.lit) (h3:a.head = b.head) (h4:a.name = b.name) (h5:a.hi = b.hi) (h6:a.lo = b.lo):Ex.top a b = true:=by
 unfold Ex.top
 simp [h1,h2,h3,h4,h5,h6]
theorem lit_zero {t:Lt} (h:litB false t = true):t = ⟨0,0,0⟩:=by
 unfold litB at h
 simp only [Bool.false_eq_true,ite_false,Bool.and_eq_true,beq_iff_eq] at h
 cases t
 simp only at h
 rw [h.1,h.2.1,h.2.2]
theorem end_zero {a b:Int} (h:endB a b false = true):a = 0 ∧ b = 0:=by
 unfold endB at h
 simpa using h
theorem leaf_inj {w w':World} {e f:Ex} {n m:Nat} {r s:List UInt8} (he:Ex.may n e = true) (hf:Ex.may m f = true) (ie:e.In w) (jf:f.In w') (ea:e.args = []) (fa:f.args = []) (hr:On stopA r) (hs:On stopA s) (h:e.tx++r = f.tx++s):e.same f = true ∧ r = s:=by
 rw [leaf_tx he ea,leaf_tx hf fa,List.append_assoc,List.append_assoc] at h
 obtain ⟨h1,h2⟩:=split_word wd _ _ _ _ (leaf_word he ea) (leaf_word hf fa) (leaf_off he ea hr) (leaf_off hf fa hs) h
 have hk:e.op = f.op:=by rw [leaf_kind he ea hr,leaf_kind hf fa hs,h1,h2]
 obtain ⟨_,_,_,_,el,eh,en,ex,_,_⟩:=may_parts he
 obtain ⟨_,_,_,_,fl,fh,fn,fx,_,_⟩:=may_parts hf
 rw [Ex.same_eq,ea,fa]
 have hx:xSlice e.op = false:=by
  rcases leaf_ops he ea with k | k | k | k | k | k <;> rw [k] <;> rfl
 rw [hx] at ex
 rw [← hk,hx] at fx
 have e5:=end_zero ex
 have f5:=end_zero fx
 suffices e.lit = f.lit ∧ e.head = f.head ∧ e.name = f.name ∧ r = s by
  refine ⟨?_,this.2.2.2⟩
  rw [top_eq hk this.1 this.2.1 this.2.2.1 (by rw [e5.1,f5.1]) (by rw [e5.2,f5.2])]
  rfl
 rw [← hk] at fl fh fn
 unfold Ex.w1 at h1
 unfold Ex.w2 at h2
 rw [← hk] at h1 h2
 rcases leaf_ops he ea with k | k | k | k | k | k <;> rw [k] at el eh en fl fh fn h1 h2
 ·exact ⟨lt_tx_inj el fl (In_lit ie) (In_lit jf) h1,by rw [nil_of eh,nil_of fh],by rw [nil_of en,nil_of fn],h2⟩
 ·have h3:e.name.data.toList++r = f.name.data.toList++s:=by simpa using h2
  obtain ⟨h4,h5⟩:=split_word wd _ _ _ _ (name_wd (name_of en)) (name_wd (name_of fn)) (stopA_off hr) (stopA_off hs) h3
  exact ⟨by rw [lit_zero el,lit_zero fl],bytes_eq h1,bytes_eq h4,h5⟩
 ·have h3:e.name.data.toList++r = f.name.data.toList++s:=by simpa using h2
  obtain ⟨h4,h5⟩:=split_word wd _ _ _ _ (name_wd (name_of en)) (name_wd (name_of fn)) (stopA_off hr) (stopA_off hs) h3
  exact ⟨by rw [lit_zero el,lit_zero fl],by rw [nil_of eh,nil_of fh],bytes_eq h4,h5⟩
 ·exact ⟨by rw [lit_zero el,lit_zero fl],by rw [nil_of eh,nil_of fh],bytes_eq h1,h2⟩
 ·exact ⟨by rw [lit_zero el,lit_zero fl],by rw [nil_of eh,nil_of fh],by rw [nil_of en,nil_of fn],h2⟩
 ·have h3:e.head.data.toList++(41 :: r) = f.head.data.toList++(41 :: s):=by simpa using h2
  obtain ⟨h4,h5⟩:=split_word wd _ _ _ _ (name_wd (name_of eh)) (name_wd (name_of fh)) (Off.cons (by decide)) (Off.cons (by decide)) h3
  exact ⟨by rw [lit_zero el,lit_zero fl],bytes_eq h4,by rw [nil_of en,nil_of fn],by simpa using h5⟩
theorem leaf_first {e:Ex} {n:Nat} (h:Ex.may n e = true) (ha:e.args = []) (r:List UInt8):∃ c,(e.tx++r).head? = some c ∧ wd c = true:=by
 obtain ⟨m,_,_,_,hl,hh,hn,_,_,_⟩:=may_parts h
 rw [leaf_tx h ha,List.append_assoc]
 unfold Ex.w1
 rcases leaf_ops h ha with k | k | k | k | k | k <;> rw [k] at hl hh hn ⊢
 ·obtain ⟨c,h1,h2⟩:=lt_first (t:=e.lit) hl (e.w2++r)
  exact ⟨c,h1,dgt_wd h2⟩
 ·obtain ⟨c,h1,_,h2⟩:=name_first (name_of hh) (e.w2++r)
  exact ⟨c,h1,h2⟩
 ·exact ⟨109,rfl,by decide⟩
 ·obtain ⟨c,h1,_,h2⟩:=name_first (name_of hn) (e.w2++r)
  exact ⟨c,h1,h2⟩
 ·exact ⟨112,rfl,by decide⟩
 ·exact ⟨105,rfl,by decide⟩
theorem at_leaf {e:Ex} (ha:e.args = []):e.at = e.tx:=by unfold Ex.at brL;rw [ha];rfl
theorem at_kids {e:Ex} (ha:e.args ≠ []):e.at = 40 :: (e.tx++[41]):=by
 unfold Ex.at brL
 rw [if_neg (fun h=>ha (List.eq_nil_of_length_eq_zero h))]
 rfl
theorem at_first {e:Ex} {n:Nat} (h:Ex.may n e = true) (r:List UInt8):∃ c,(e.at++r).head? = some c ∧ (wd c = true ∨ c = 40):=by
 by_cases ha:e.args = []
 ·rw [at_leaf ha]
  obtain ⟨c,h1,h2⟩:=leaf_first h ha r
  exact ⟨c,h1,.inl h2⟩
 ·rw [at_kids ha]
  exact ⟨40,rfl,.inr rfl⟩
/-- What may be told of an expression's text: it tells which one it is. -/
def Tells (e:Ex):Prop:=∀ (f:Ex) (n m:Nat) (w w':World) (r s:List UInt8),Ex.may n e = true → Ex.may m f = true → e.In w → f.In w' → On stopC r → On stopC s → e.tx++r = f.tx++s → e.same f = true ∧ r = s
def TellsA (e:Ex):Prop:=∀ (f:Ex) (n m:Nat) (w w':World) (r s:List UInt8),Ex.may n e = true → Ex.may m f = true → e.In w → f.In w' → On stopA r → On stopA s → e.at++r = f.at++s → e.same f = true ∧ r = s
theorem tellsA_leaf {e:Ex} (ea:e.args = []):TellsA e:=by
 intro f n m w w' r s he hf ie jf hr hs h0
 by_cases fa:f.args = []
 ·rw [at_leaf ea,at_leaf fa] at h0
  exact leaf_inj he hf ie jf ea fa hr hs h0
 ·rw [at_leaf ea,at_kids fa] at h0
  obtain ⟨c,h1,h2⟩:=leaf_first he ea r
  rw [h0] at h1
  injection h1 with h1
  rw [← h1] at h2
  exact absurd h2 (by decide)
theorem tells_a {e:Ex} (h:Tells e):TellsA e:=by
 by_cases ea:e.args = []
 ·exact tellsA_leaf ea
 intro f n m w w' r s he hf ie jf hr hs h0
 by_cases fa:f.args = []
 ·rw [at_kids ea,at_leaf fa] at h0
  obtain ⟨c,h1,h2⟩:=leaf_first hf fa s
  rw [← h0] at h1
  injection h1 with h1
  rw [← h1] at h2
  exact absurd h2 (by decide)
 ·rw [at_kids ea,at_kids fa] at h0
  simp only [List.cons_append,List.append_assoc,List.cons.injEq,true_and,List.nil_append] at h0
  obtain ⟨h1,h2⟩:=h f n m w w' _ _ he hf ie jf (On.cons (by decide)) (On.cons (by decide)) h0
  exact ⟨h1,by injection h2⟩
theorem two_of {l:List Ex} (h:l.length = 2):∃ a b,l = [a,b]:=by
 match l,h with
 | [a,b],_=>exact ⟨a,b,rfl⟩
/-- The kinds of signs: none, one ahead, a slice, one between. -/
theorem ex_cases {e:Ex} {n:Nat} (h:Ex.may n e = true):e.args = [] ∨ (7 ≤ e.op ∧ e.op ≤ 9 ∧ ∃ a,e.args = [a] ∧ e.tx = sgL e.op++a.at) ∨ (e.op = 10 ∧ ∃ a,e.args = [a] ∧ e.tx = a.at++([91]++(Lib.itoa e.hi++([58]++(Lib.itoa e.lo++[93]))))) ∨
  (11 ≤ e.op ∧ e.op ≤ 26 ∧ ∃ a b,e.args = [a,b] ∧ e.tx = a.at++([32]++(sgL e.op++([32]++b.at)))):=by
 obtain ⟨m,_,h1,h2,_,_,_,_,h3,_⟩:=may_parts h
 have tx:=Ex.tx_eq e
 unfold xArgs at h3
 by_cases c1:7 ≤ e.op ∧ e.op ≤ 10
 ·rw [if_pos c1] at h3
  obtain ⟨a,ha⟩:∃ a,e.args = [a]:=List.length_eq_one_iff.1 (by omega)
  rw [ha] at tx
  simp only [List.map_cons,List.map_nil,exL] at tx
  by_cases c2:e.op = 10
  ·rw [if_pos c2] at tx
   exact .inr (.inr (.inl ⟨c2,a,ha,tx⟩))
  ·rw [if_neg c2] at tx
   exact .inr (.inl ⟨c1.1,by omega,a,ha,tx⟩)
 ·rw [if_neg c1] at h3
  by_cases c2:11 ≤ e.op ∧ e.op ≤ 26
  ·rw [if_pos c2] at h3
   obtain ⟨a,b,ha⟩:∃ a b,e.args = [a,b]:=two_of (by omega)
   rw [ha] at tx
   simp only [List.map_cons,List.map_nil,exL] at tx
   exact .inr (.inr (.inr ⟨c2.1,c2.2,a,b,ha,tx⟩))
  ·rw [if_neg c2] at h3
   exact .inl (List.eq_nil_of_length_eq_zero (by omega))
theorem sg_one (i:Fin 3):∃ c,sgL ((i.val:Int) + 7) = [c] ∧ wd c = false ∧ c ≠ 40:=by
 match i with
 | ⟨0,_⟩=>exact ⟨126,by rfl,by decide,by decide⟩
 | ⟨1,_⟩=>exact ⟨45,by rfl,by decide,by decide⟩
 | ⟨2,_⟩=>exact ⟨33,by rfl,by decide,by decide⟩
theorem sg_one_inj:∀ i j:Fin 3,sgL ((i.val:Int) + 7) = sgL ((j.val:Int) + 7) → i = j:=by decide +kernel
theorem sg_two:∀ i:Fin 16,∀ c ∈ sgL ((i.val:Int) + 11),(fun x:UInt8=>decide (x ≠ 32)) c = true:=by decide +kernel
theorem sg_two_inj:∀ i j:Fin 16,sgL ((i.val:Int) + 11) = sgL ((j.val:Int) + 11) → i = j:=by decide +kernel
theorem fin_of {k lo:Int} {n:Nat} (h1:lo ≤ k) (h2:k < lo + n):∃ i:Fin n,(i.val:Int) + lo = k:=⟨⟨(k - lo).toNat,by omega⟩,by show (((k - lo).toNat:Nat):Int) + lo = k;omega⟩
theorem one_sign {k:Int} (h1:7 ≤ k) (h2:k ≤ 9):∃ c,sgL k = [c] ∧ wd c = false ∧ c ≠ 40:=by
 obtain ⟨i,rfl⟩:=fin_of (n:=3) h1 (by omega)
 exact sg_one i
theorem one_inj {j k:Int} (h1:7 ≤ k) (h2:k ≤ 9) (h3:7 ≤ j) (h4:j ≤ 9) (h:sgL j = sgL k):j = k:=by
 obtain ⟨a,rfl⟩:=fin_of (n:=3) h1 (by omega)
 obtain ⟨b,rfl⟩:=fin_of (n:=3) h3 (by omega)
 rw [sg_one_inj b a h]
theorem two_off {k:Int} (h1:11 ≤ k) (h2:k ≤ 26):∀ c ∈ sgL k,(fun x:UInt8=>decide (x ≠ 32)) c = true:=by
 obtain ⟨i,rfl⟩:=fin_of (n:=16) h1 (by omega)
 exact sg_two i
theorem two_inj {j k:Int} (h1:11 ≤ k) (h2:k ≤ 26) (h3:11 ≤ j) (h4:j ≤ 26) (h:sgL j = sgL k):j = k:=by
 obtain ⟨a,rfl⟩:=fin_of (n:=16) h1 (by omega)
 obtain ⟨b,rfl⟩:=fin_of (n:=16) h3 (by omega)
 rw [sg_two_inj b a h]
/-- The operand that an expression begins with, and what is behind it, if it begins with no sign. -/
structure Hd (e x:Ex) (t:List UInt8):Prop where
 tx:e.tx = x.at++t
 cs:(x = e ∧ t = [] ∧ e.args = []) ∨ (e.op = 10 ∧ e.args = [x] ∧ t = 91 :: (Lib.itoa e.hi++(58 :: (Lib.itoa e.lo++[93])))) ∨ (11 ≤ e.op ∧ e.op ≤ 26 ∧ ∃ b,e.args = [x,b] ∧ t = 32 :: (sgL e.op++(32 :: b.at)))
theorem Hd.on {e x:Ex} {t r:List UInt8} (h:Hd e x t) (hr:On stopC r):On stopA (t++r):=by
 rcases h.cs with ⟨_,h2,_⟩ | ⟨_,_,h2⟩ | ⟨_,_,b,_,h2⟩
 ·rw [h2];exact stop_a hr
 ·rw [h2];exact On.cons (by decide)
 ·rw [h2];exact On.cons (by decide)
theorem Hd.may {e x:Ex} {t:List UInt8} {n:Nat} (h:Hd e x t) (he:Ex.may n e = true):∃ k,Ex.may k x = true:=by
 obtain ⟨m,_,_,_,_,_,_,_,_,hk⟩:=may_parts he
 rcases h.cs with ⟨h2,_⟩ | ⟨_,h2,_⟩ | ⟨_,_,b,h2,_⟩
 ·exact ⟨n,h2 ▸ he⟩
 ·exact ⟨m,hk x (by rw [h2];simp)⟩
 ·exact ⟨m,hk x (by rw [h2];simp)⟩
theorem Hd.inn {e x:Ex} {t:List UInt8} {w:World} (h:Hd e x t) (he:e.In w):x.In w:=by
 rcases h.cs with ⟨h2,_⟩ | ⟨_,h2,_⟩ | ⟨_,_,b,h2,_⟩
 ·exact h2 ▸ he
 ·exact In_kids he x (by rw [h2];simp)
 ·exact In_kids he x (by rw [h2];simp)
theorem ex_head {e:Ex} {n:Nat} (h:Ex.may n e = true):(7 ≤ e.op ∧ e.op ≤ 9 ∧ ∃ a,e.args = [a] ∧ e.tx = sgL e.op++a.at) ∨ ∃ x t,Hd e x t:=by
 rcases ex_cases h with ha | h1 | ⟨h1,a,ha,tx⟩ | ⟨h1,h2,a,b,ha,tx⟩
 ·exact .inr ⟨e,[],by rw [at_leaf ha,List.append_nil],.inl ⟨rfl,rfl,ha⟩⟩
 ·exact .inl h1
 ·exact .inr ⟨a,_,tx,.inr (.inl ⟨h1,ha,rfl⟩)⟩
 ·exact .inr ⟨a,_,tx,.inr (.inr ⟨h1,h2,b,ha,rfl⟩)⟩
theorem ends {a b:Int} (h:endB a b true = true):0 ≤ b ∧ b ≤ a:=by
 unfold endB at h
 simp only [ite_true,Bool.and_eq_true,decide_eq_true_eq] at h
 omega
theorem sames1 {a b:Ex} (h:a.same b = true):Ex.sames [a] [b] = true:=by simp [Ex.sames,h]
theorem sames2 {a b c d:Ex} (h:a.same b = true) (k:c.same d = true):Ex.sames [a,c] [b,d] = true:=by simp [Ex.sames,h,k]
theorem tells_all (e:Ex):Tells e:=by
 induction e using Ex.ind with
 | _ e ih =>
 intro f n m w w' r s he hf ie jf hr hs h0
 obtain ⟨_,_,e1,e2,el,eh,en,ex,_,ek⟩:=may_parts he
 obtain ⟨_,_,f1,f2,fl,fh,fn,fx,_,fk⟩:=may_parts hf
 have opened:∀ {g:Ex} {k:Nat},Ex.may k g = true → ∀ x t,Hd g x t → ∀ u,∃ c,(g.tx++u).head? = some c ∧ (wd c = true ∨ c = 40):=fun {g k} hg x t hh u=>by
  obtain ⟨j,hj⟩:=hh.may hg
  rw [hh.tx,List.append_assoc]
  exact at_first hj _
 have wrong:∀ {g:Ex} {u u':List UInt8} {k:Int} {a:Ex} {q:List UInt8},7 ≤ k → k ≤ 9 → q = sgL k++a.at → (∃ c,(g.tx++u).head? = some c ∧ (wd c = true ∨ c = 40)) → q++u' = g.tx++u → False:=fun {g u u' k a q} k1 k2 hq hg hu=>by
  obtain ⟨c,hc,c1,c2⟩:=one_sign k1 k2
  obtain ⟨x,hx,h3⟩:=hg
  rw [← hu,hq,hc] at hx
  injection hx with hx
  rw [← hx] at h3
  rcases h3 with h3 | h3
  ·rw [c1] at h3;cases h3
  ·exact c2 h3
 have litz:∀ {g:Ex},g.op ≠ 1 → litB (xLit g.op) g.lit = true → g.lit = ⟨0,0,0⟩:=fun {g} h1 h2=>by
  rw [show xLit g.op = false by unfold xLit;simpa using h1] at h2
  exact lit_zero h2
 have headz:∀ {g:Ex},7 ≤ g.op → nmB g.head (xHead g.op) = true → g.head = ⟨#[]⟩:=fun {g} h1 h2=>by
  rw [show xHead g.op = 0 by unfold xHead;rw [if_neg (by omega)]] at h2
  exact nil_of h2
 have namez:∀ {g:Ex},7 ≤ g.op → nmB g.name (xName g.op) = true → g.name = ⟨#[]⟩:=fun {g} h1 h2=>by
  rw [show xName g.op = 0 by unfold xName;rw [if_neg (by omega)]] at h2
  exact nil_of h2
 have endz:∀ {g:Ex},g.op ≠ 10 → endB g.hi g.lo (xSlice g.op) = true → g.hi = 0 ∧ g.lo = 0:=fun {g} h1 h2=>by
  rw [show xSlice g.op = false by unfold xSlice;simpa using h1] at h2
  exact end_zero h2
 rcases ex_head he with ⟨k1,k2,a,ha,ta⟩ | ⟨x,t,hx⟩
 ·rcases ex_head hf with ⟨j1,j2,b,hb,tb⟩ | ⟨y,u,hy⟩
  ·have h1:=h0
   obtain ⟨c,hc,_⟩:=one_sign k1 k2
   obtain ⟨c',hc',_⟩:=one_sign j1 j2
   rw [ta,tb,hc,hc'] at h1
   have h2:c :: (a.at++r) = c' :: (b.at++s):=h1
   injection h2 with h3 h4
   have hop:e.op = f.op:=one_inj j1 j2 k1 k2 (by rw [hc,hc',h3])
   obtain ⟨g1,g2⟩:=tells_a (ih a (by rw [ha];simp)) b _ _ w w' r s (ek a (by rw [ha];simp)) (fk b (by rw [hb];simp)) (In_kids ie a (by rw [ha];simp)) (In_kids jf b (by rw [hb];simp)) (stop_a hr) (stop_a hs) h4
   refine ⟨?_,g2⟩
   rw [Ex.same_eq,ha,hb,sames1 g1,top_eq hop (by rw [litz (by omega) el,litz (by omega) fl]) (by rw [headz (by omega) eh,headz (by omega) fh]) (by rw [namez (by omega) en,namez (by omega) fn]) (by rw [(endz (by omega) ex).1,(endz (by omega) fx).1]) (by rw [(endz (by omega) ex).2,(endz (by omega) fx).2])]
   rfl
  ·exact (wrong k1 k2 ta (opened hf y u hy s) h0).elim
 ·rcases ex_head hf with ⟨j1,j2,b,hb,tb⟩ | ⟨y,u,hy⟩
  ·exact (wrong j1 j2 tb (opened he x t hx r) h0.symm).elim
  ·have hxa:TellsA x:=by
    rcases hx.cs with ⟨h2,_,h3⟩ | ⟨_,h2,_⟩ | ⟨_,_,b,h2,_⟩
    ·rw [h2];exact tellsA_leaf h3
    ·exact tells_a (ih x (by rw [h2];simp))
    ·exact tells_a (ih x (by rw [h2];simp))
   obtain ⟨kx,mx⟩:=hx.may he
   obtain ⟨ky,my⟩:=hy.may hf
   have h1:x.at++(t++r) = y.at++(u++s):=by rw [← List.append_assoc,← List.append_assoc,← hx.tx,← hy.tx,h0]
   obtain ⟨g1,g2⟩:=hxa y kx ky w w' _ _ mx my (hx.inn ie) (hy.inn jf) (hx.on hr) (hy.on hs) h1
   have n91:∀ {q:List UInt8},On stopC q → ∀ z,q ≠ 91 :: z:=fun hq z e=>by
    have:=hq 91 (by rw [e];rfl)
    exact absurd this (by decide)
   have n32:∀ {q:List UInt8},On stopC q → ∀ z,q ≠ 32 :: z:=fun hq z e=>by
    have:=hq 32 (by rw [e];rfl)
    exact absurd this (by decide)
   rcases hx.cs with ⟨c1,c3,_⟩ | ⟨c1,c2,c3⟩ | ⟨c1,c0,b,c2,c3⟩ <;> rcases hy.cs with ⟨d1,d3,_⟩ | ⟨d1,d2,d3⟩ | ⟨d1,d0,b',d2,d3⟩ <;> rw [c3,d3] at g2
   ·rw [c1,d1] at g1
    exact ⟨g1,g2⟩
   ·exact (n91 hr _ g2).elim
   ·exact (n32 hr _ g2).elim
   ·exact (n91 hs _ g2.symm).elim
   ·have hop:e.op = f.op:=by rw [c1,d1]
    rw [c1] at ex
    rw [d1] at fx
    have ee:=ends ex
    have ff:=ends fx
    simp only [List.cons_append,List.append_assoc,List.cons.injEq,true_and,List.nil_append] at g2
    rw [itoa_pos (by omega),itoa_pos (by omega),itoa_pos (by omega),itoa_pos (by omega)] at g2
    obtain ⟨q1,q2⟩:=split_word dgt _ _ _ _ (dec_dgt _) (dec_dgt _) (Off.cons (by decide)) (Off.cons (by decide)) g2
    injection q2 with _ q2
    obtain ⟨q3,q4⟩:=split_word dgt _ _ _ _ (dec_dgt _) (dec_dgt _) (Off.cons (by decide)) (Off.cons (by decide)) q2
    injection q4 with _ q4
    have z1:=dec_inj q1
    have z2:=dec_inj q3
    refine ⟨?_,q4⟩
    rw [Ex.same_eq,c2,d2,sames1 g1,top_eq hop (by rw [litz (by omega) el,litz (by omega) fl]) (by rw [headz (by omega) eh,headz (by omega) fh]) (by rw [namez (by omega) en,namez (by omega) fn]) (by omega) (by omega)]
    rfl
   ·injection g2 with q _
    exact absurd q (by decide)
   ·exact (n32 hs _ g2.symm).elim
   ·injection g2 with q _
    exact absurd q (by decide)
   ·simp only [List.cons_append,List.append_assoc,List.cons.injEq,true_and] at g2
    obtain ⟨q1,q2⟩:=split_word (fun x:UInt8=>decide (x ≠ 32)) _ _ _ _ (two_off c1 c0) (two_off d1 d0) (Off.cons (by decide)) (Off.cons (by decide)) g2
    have hop:e.op = f.op:=two_inj d1 d0 c1 c0 q1
    injection q2 with _ q2
    obtain ⟨q3,q4⟩:=tells_a (ih b (by rw [c2];simp)) b' _ _ w w' r s (ek b (by rw [c2];simp)) (fk b' (by rw [d2];simp)) (In_kids ie b (by rw [c2];simp)) (In_kids jf b' (by rw [d2];simp)) (stop_a hr) (stop_a hs) q2
    refine ⟨?_,q4⟩
    rw [Ex.same_eq,c2,d2,sames2 g1 q3,top_eq hop (by rw [litz (by omega) el,litz (by omega) fl]) (by rw [headz (by omega) eh,headz (by omega) fh]) (by rw [namez (by omega) en,namez (by omega) fn]) (by rw [(endz (by omega) ex).1,(endz (by omega) fx).1]) (by rw [(endz (by omega) ex).2,(endz (by omega) fx).2])]
    rfl
/-- An expression that may be has a text. -/
theorem tx_some {e:Ex} {n:Nat} (he:Ex.may n e = true):e.tx ≠ []:=by
 rcases ex_head he with ⟨k1,k2,a,ha,ta⟩ | ⟨x,t,hx⟩
 ·obtain ⟨c,hc,_⟩:=one_sign k1 k2
  rw [ta,hc]
  simp
 ·obtain ⟨k,hk⟩:=hx.may he
  obtain ⟨c,h1,_⟩:=at_first hk t
  intro h
  rw [← hx.tx,h] at h1
  cases h1
/-- .. that begins with no blank, and nothing that ends one. -/
theorem tx_first {e:Ex} {n:Nat} (he:Ex.may n e = true) (r:List UInt8):∃ c,(e.tx++r).head? = some c ∧ c ≠ 125 ∧ c ≠ 41 ∧ c ≠ 32:=by
 rcases ex_head he with ⟨k1,k2,a,ha,ta⟩ | ⟨x,t,hx⟩
 ·rw [ta]
  have:e.op = 7 ∨ e.op = 8 ∨ e.op = 9:=by omega
  rcases this with h | h | h <;> rw [h]
  ·exact ⟨126,rfl,by decide⟩
  ·exact ⟨45,rfl,by decide⟩
  ·exact ⟨33,rfl,by decide⟩
 ·obtain ⟨k,hk⟩:=hx.may he
  obtain ⟨c,h1,h2⟩:=at_first hk (t++r)
  refine ⟨c,by rw [hx.tx,List.append_assoc];exact h1,?_⟩
  rcases h2 with h2 | rfl
  ·refine ⟨fun h=>?_,fun h=>?_,fun h=>?_⟩ <;> (rw [h] at h2;exact absurd h2 (by decide))
  ·decide
/-- Texts are the same just if the expressions are. -/
theorem same_tx:∀ (e f:Ex),e.same f = true → e.tx = f.tx:=by
 intro e
 induction e using Ex.ind with
 | _ e ih =>
 intro f h
 rw [Ex.same_eq] at h
 simp only [Bool.and_eq_true] at h
 obtain ⟨h1,h2⟩:=h
 have kids:∀ (l r:List Ex),(∀ x ∈ l,∀ y,x.same y = true → x.tx = y.tx) → Ex.sames l r = true → l.map Ex.at = r.map Ex.at:=by
  intro l
  induction l with
  | nil=>intro r _ hr;cases r with
   | nil=>rfl
   | cons b r=>simp [Ex.sames] at hr
  | cons a l il=>intro r ha hr;cases r with
   | nil=>simp [Ex.sames] at hr
   | cons b r =>
    simp only [Ex.sames,Bool.and_eq_true] at hr
    have hab:=ha a (by simp) b hr.1
    have hl:a.args.length = b.args.length:=by
     have h3:=hr.1
     rw [Ex.same_eq] at h3
     simp only [Bool.and_eq_true] at h3
     have len:∀ (p q:List Ex),Ex.sames p q = true → p.length = q.length:=by
      intro p
      induction p with
      | nil=>intro q hq;cases q with
       | nil=>rfl
       | cons _ _=>simp [Ex.sames] at hq
      | cons _ p ip=>intro q hq;cases q with
       | nil=>simp [Ex.sames] at hq
       | cons _ q =>
        simp only [Ex.sames,Bool.and_eq_true] at hq
        simp [ip q hq.2]
     exact len _ _ h3.2
    rw [List.map_cons,List.map_cons,il r (fun x hx=>ha x (by simp [hx])) hr.2]
    unfold Ex.at
    rw [hab,hl]
 rw [Ex.tx_eq e,Ex.tx_eq f,kids e.args f.args ih h2]
 unfold Ex.top at h1
 simp only [Bool.and_eq_true,beq_iff_eq,Lib.toList_data] at h1
 obtain ⟨⟨⟨⟨⟨a1,a2,a3,a4⟩,a5⟩,a6⟩,a7⟩,a8⟩:=h1
 have hl:e.lit = f.lit:=by
  cases e':e.lit;cases f':f.lit
  rw [e',f'] at a2 a3 a4
  simp only at a2 a3 a4
  rw [a2,a3,a4]
 rw [a1,hl,bytes_eq a5,bytes_eq a6,a7,a8]
theorem name_split {a b:ByteArray} {r s:List UInt8} (ha:nameB a = true) (hb:nameB b = true) (hr:Off wd r) (hs:Off wd s) (h:a.data.toList++r = b.data.toList++s):a = b ∧ r = s:=by
 obtain ⟨h1,h2⟩:=split_word wd _ _ _ _ (name_wd ha) (name_wd hb) hr hs h
 exact ⟨bytes_eq h1,h2⟩
/-- Rows of things, one behind the other: each tells where it ends, and none begins as what is behind all. -/
theorem flat_inj {α:Type} (f:α → List UInt8) (R:α → α → Bool) (V:α → Prop) (P E:List UInt8 → Prop)
  (h1:∀ x y r s,V x → V y → P r → P s → f x++r = f y++s → R x y = true ∧ r = s)
  (h2:∀ x r s,V x → E s → f x++r ≠ s) (hP:∀ x r,V x → P (f x++r)) (hE:∀ r,E r → P r) :
  ∀ (l l':List α) (r s:List UInt8),(∀ x ∈ l,V x) → (∀ x ∈ l',V x) → E r → E s → flat f l++r = flat f l'++s → eqAll R l l' = true ∧ r = s
 | [],[],r,s,_,_,_,_,h=>⟨rfl,h⟩
 | [],y :: l',r,s,_,hl',hr,_,h=>by
  simp only [flat,List.nil_append,List.append_assoc] at h
  exact absurd h.symm (h2 y _ _ (hl' y (by simp)) hr)
 | x :: l,[],r,s,hl,_,_,hs,h=>by
  simp only [flat,List.nil_append,List.append_assoc] at h
  exact absurd h (h2 x _ _ (hl x (by simp)) hs)
 | x :: l,y :: l',r,s,hl,hl',hr,hs,h=>by
  simp only [flat,List.append_assoc] at h
  have pp:∀ (m:List α) (u:List UInt8),(∀ x ∈ m,V x) → E u → P (flat f m++u):=fun m u hm hu=>by
   cases m with
   | nil=>exact hE u hu
   | cons z m =>
    simp only [flat,List.append_assoc]
    exact hP z _ (hm z (by simp))
  obtain ⟨a1,a2⟩:=h1 x y _ _ (hl x (by simp)) (hl' y (by simp)) (pp l r (fun z hz=>hl z (by simp [hz])) hr) (pp l' s (fun z hz=>hl' z (by simp [hz])) hs) h
  obtain ⟨b1,b2⟩:=flat_inj f R V P E h1 h2 hP hE l l' r s (fun z hz=>hl z (by simp [hz])) (fun z hz=>hl' z (by simp [hz])) hr hs a2
  exact ⟨by simp [eqAll,a1,b1],b2⟩
/-- Lines of a block. -/
theorem blk_inj {α:Type} (f:Nat → α → List UInt8) (R:α → α → Bool) (V:α → Prop) (d:Nat)
  (h1:∀ x y r s,V x → V y → f (d + 1) x++r = f (d + 1) y++s → R x y = true ∧ r = s)
  (hp:∀ x,V x → ∃ t,f (d + 1) x = padB (d + 1)++t) (l l':List α) (r s:List UInt8) (hl:∀ x ∈ l,V x) (hl':∀ x ∈ l',V x) (h:blkB f d l++r = blkB f d l'++s):eqAll R l l' = true ∧ r = s:=by
 unfold blkB at h
 simp only [List.append_assoc] at h
 have h:=List.append_cancel_left h
 obtain ⟨a1,a2⟩:=flat_inj (f (d + 1)) R V (fun _=>True) (fun u=>∃ z,u = padB d++([125,10]++z)) (fun x y r s hx hy _ _ he=>h1 x y r s hx hy he)
  (fun x r s hx ⟨z,hz⟩ he=>by
   obtain ⟨t,ht⟩:=hp x hx
   rw [ht,hz] at he
   simp only [padB,List.append_assoc] at he
   have he:=List.append_cancel_left he
   injection he with he _
   exact absurd he (by decide)) (fun _ _ _=>trivial) (fun _ _=>trivial) l l' _ _ hl hl' ⟨r,rfl⟩ ⟨s,rfl⟩ h
 have a3:=List.append_cancel_left a2
 have a4:=List.append_cancel_left a3
 exact ⟨a1,a4⟩
/-- Rows with commas between. -/
theorem row_inj {α:Type} (f:α → List UInt8) (R:α → α → Bool) (V:α → Prop) (E:List UInt8 → Prop)
  (h1:∀ x y r s,V x → V y → On stopC r → On stopC s → f x++r = f y++s → R x y = true ∧ r = s)
  (h2:∀ x r s,V x → E s → f x++r ≠ s) (hE:∀ r,E r → On stopC r ∧ r.head? ≠ some 44) (l l':List α) (r s:List UInt8) (hl:∀ x ∈ l,V x) (hl':∀ x ∈ l',V x) (hr:E r) (hs:E s) (h:rowB f l++r = rowB f l'++s):eqAll R l l' = true ∧ r = s:=by
 have on:∀ (m:List α) (u:List UInt8),E u → On stopC (flat (fun y=>[44,32]++f y) m++u):=fun m u hu=>by
  cases m with
  | nil=>exact (hE u hu).1
  | cons z m=>exact On.cons (by decide)
 have go:=flat_inj (fun y=>[44,32]++f y) R V (On stopC) E
  (fun x y r s hx hy pr ps he=>by
   simp only [List.append_assoc] at he
   exact h1 x y r s hx hy pr ps (List.append_cancel_left he))
  (fun x r s hx es he=>(hE s es).2 (by rw [← he];rfl)) (fun x r _=>On.cons (by decide)) (fun r er=>(hE r er).1)
 cases l with
 | nil=>cases l' with
  | nil=>exact ⟨rfl,h⟩
  | cons y l' =>
   simp only [rowB,List.nil_append,List.append_assoc] at h
   exact absurd h.symm (h2 y _ _ (hl' y (by simp)) hr)
 | cons x l=>cases l' with
  | nil =>
   simp only [rowB,List.nil_append,List.append_assoc] at h
   exact absurd h (h2 x _ _ (hl x (by simp)) hs)
  | cons y l' =>
   simp only [rowB,List.append_assoc] at h
   obtain ⟨a1,a2⟩:=h1 x y _ _ (hl x (by simp)) (hl' y (by simp)) (on l r hr) (on l' s hs) h
   obtain ⟨b1,b2⟩:=go l l' r s (fun z hz=>hl z (by simp [hz])) (fun z hz=>hl' z (by simp [hz])) hr hs a2
   exact ⟨by simp [eqAll,a1,b1],b2⟩
theorem stopC_off {r:List UInt8} (h:On stopC r):Off wd r:=stopA_off (stop_a h)
/-- Behind a row in brackets. -/
def E41 (r:List UInt8):Prop:=∃ z,r = 41 :: z
def E58 (r:List UInt8):Prop:=∃ z,r = 58 :: z
theorem e41:∀ r,E41 r → On stopC r ∧ r.head? ≠ some 44:=fun r ⟨z,h⟩=>by rw [h];exact ⟨On.cons (by decide),by simp⟩
theorem e58:∀ r,E58 r → On stopC r ∧ r.head? ≠ some 44:=fun r ⟨z,h⟩=>by rw [h];exact ⟨On.cons (by decide),by simp⟩
theorem lt_inj {x y:Lt} {r s:List UInt8} (hx:ltB x = true ∧ x.Ok) (hy:ltB y = true ∧ y.Ok) (hr:Off wd r) (hs:Off wd s) (h:x.tx++r = y.tx++s):x = y ∧ r = s:=by
 obtain ⟨h1,h2⟩:=split_word wd _ _ _ _ (lt_wd hx.1) (lt_wd hy.1) hr hs h
 exact ⟨lt_tx_inj hx.1 hy.1 hx.2 hy.2 h1,h2⟩
theorem eqLt_of {x y:Lt} (h:x = y):eqLt x y = true:=by rw [h];exact eqLt_refl y
theorem fd_w {x:Fd} (h:fdB x = true):0 ≤ x.w ∧ nameB x.name = true:=by
 unfold fdB widthB at h
 simp only [Bool.and_eq_true,decide_eq_true_eq] at h
 exact ⟨by omega,h.1⟩
theorem fd_inj {x y:Fd} {r s:List UInt8} (hx:fdB x = true) (hy:fdB y = true) (hr:Off wd r) (hs:Off wd s) (h:x.tx++r = y.tx++s):eqFd x y = true ∧ r = s:=by
 obtain ⟨a1,a2⟩:=fd_w hx
 obtain ⟨b1,b2⟩:=fd_w hy
 unfold Fd.tx at h
 simp only [List.append_assoc] at h
 have h:=List.append_cancel_left h
 rw [itoa_pos a1,itoa_pos b1] at h
 obtain ⟨c1,c2⟩:=split_word dgt _ _ _ _ (dec_dgt _) (dec_dgt _) (by exact Off.cons (by decide)) (by exact Off.cons (by decide)) h
 have c3:=dec_inj c1
 have c4:=List.append_cancel_left c2
 obtain ⟨d1,d2⟩:=name_split a2 b2 hr hs c4
 refine ⟨?_,d2⟩
 unfold eqFd
 rw [d1,show x.w = y.w by omega]
 simp
theorem fdln_inj {d:Nat} {x y:Fd} {r s:List UInt8} (hx:fdB x = true) (hy:fdB y = true) (h:Fd.ln d x++r = Fd.ln d y++s):eqFd x y = true ∧ r = s:=by
 unfold Fd.ln at h
 simp only [List.append_assoc] at h
 have h:=List.append_cancel_left h
 obtain ⟨a,b⟩:=fd_inj hx hy (by exact Off.cons (by decide)) (by exact Off.cons (by decide)) h
 exact ⟨a,List.append_cancel_left b⟩
theorem each_all {α:Type} {lo hi:Int} {f:α → Bool} {l:List α} (h:eachB lo hi f l = true):∀ x ∈ l,f x = true:=by
 unfold eachB at h
 simp only [Bool.and_eq_true] at h
 exact List.all_eq_true.1 h.2
theorem each_pos {α:Type} {lo hi:Int} {f:α → Bool} {l:List α} (h:eachB lo hi f l = true):lo ≤ (l.length:Int) ∧ (l.length:Int) ≤ hi:=by
 unfold eachB at h
 simp only [Bool.and_eq_true,decide_eq_true_eq] at h
 exact h.1
theorem fds_inj {d:Nat} {l l':List Fd} {r s:List UInt8} (hl:∀ x ∈ l,fdB x = true) (hl':∀ x ∈ l',fdB x = true) (h:blkB Fd.ln d l++r = blkB Fd.ln d l'++s):eqAll eqFd l l' = true ∧ r = s :=
 blk_inj Fd.ln eqFd (fun x=>fdB x = true) d (fun _ _ _ _ hx hy he=>fdln_inj hx hy he) (fun _ _=>⟨_,rfl⟩) l l' r s hl hl' h
theorem hr_inj {x y:Hr} {r s:List UInt8} (hx:hrB x = true) (hy:hrB y = true) (h:x.tx++r = y.tx++s):eqHr x y = true ∧ r = s:=by
 unfold hrB at hx hy
 rw [Bool.and_eq_true] at hx hy
 unfold Hr.tx at h
 simp only [List.append_assoc] at h
 have h:=List.append_cancel_left h
 obtain ⟨a1,a2⟩:=name_split hx.1 hy.1 (by exact Off.cons (by decide)) (by exact Off.cons (by decide)) h
 obtain ⟨b1,b2⟩:=fds_inj (each_all hx.2) (each_all hy.2) a2
 exact ⟨by unfold eqHr;rw [a1,b1,eqStr_refl];rfl,b2⟩
theorem list_inj {d:Nat} {x y:ByteArray} {r s:List UInt8} (hx:nameB x = true) (hy:nameB y = true) (h:listL d x++r = listL d y++s):eqStr x y = true ∧ r = s:=by
 unfold listL at h
 simp only [List.append_assoc] at h
 obtain ⟨a,b⟩:=name_split hx hy (by exact Off.cons (by decide)) (by exact Off.cons (by decide)) (List.append_cancel_left h)
 exact ⟨by rw [a,eqStr_refl],List.append_cancel_left b⟩
theorem take_inj {d:Nat} {x y:ByteArray} {r s:List UInt8} (hx:nameB x = true) (hy:nameB y = true) (h:takeL d x++r = takeL d y++s):eqStr x y = true ∧ r = s:=by
 unfold takeL at h
 simp only [List.append_assoc] at h
 obtain ⟨a,b⟩:=name_split hx hy (by exact Off.cons (by decide)) (by exact Off.cons (by decide)) (List.append_cancel_left (List.append_cancel_left h))
 exact ⟨by rw [a,eqStr_refl],List.append_cancel_left b⟩
theorem emit_inj {d:Nat} {x y:ByteArray} {r s:List UInt8} (hx:nameB x = true) (hy:nameB y = true) (h:emitL d x++r = emitL d y++s):eqStr x y = true ∧ r = s:=by
 unfold emitL at h
 simp only [List.append_assoc] at h
 obtain ⟨a,b⟩:=name_split hx hy (by exact Off.cons (by decide)) (by exact Off.cons (by decide)) (List.append_cancel_left (List.append_cancel_left h))
 exact ⟨by rw [a,eqStr_refl],List.append_cancel_left b⟩
theorem se_tx1 {x:Se} (k:x.kind = 1):x.tx = [95]:=by unfold Se.tx;rw [if_pos k]
theorem se_tx2 {x:Se} (k:x.kind = 2):x.tx = x.v.tx:=by unfold Se.tx;rw [if_neg (by omega),if_pos k]
theorem se_tx3 {x:Se} (k:x.kind = 3):x.tx = x.v.tx++([32,38,38,38,32]++x.m.tx):=by unfold Se.tx;rw [if_neg (by omega),if_neg (by omega),if_pos k]
theorem n32 {q z:List UInt8} (hq:On stopC q):q ≠ [32,38,38,38,32]++z:=fun e=>by
 have:=hq 32 (by rw [e];rfl)
 exact absurd this (by decide)
theorem n95 {t:Lt} {u z:List UInt8} (ht:ltB t = true):t.tx++u ≠ [95]++z:=fun e=>by
 obtain ⟨c,c1,c2⟩:=lt_first ht u
 rw [e] at c1
 have c3:(95:UInt8) = c:=Option.some.inj c1
 rw [← c3] at c2
 exact absurd c2 (by decide)
theorem off32 (z:List UInt8):Off wd ([32,38,38,38,32]++z):=Off.cons (by decide)
theorem se_fin {x y:Se} (a:x.kind = y.kind) (b:x.v = y.v) (c:x.m = y.m):eqSe x y = true:=by
 unfold eqSe
 rw [a,b,c,eqLt_refl,eqLt_refl]
 simp
theorem se_parts {x:Se} (hx:seB x = true):(x.kind = 1 ∧ x.v = ⟨0,0,0⟩ ∧ x.m = ⟨0,0,0⟩) ∨ (x.kind = 2 ∧ ltB x.v = true ∧ x.m = ⟨0,0,0⟩) ∨ (x.kind = 3 ∧ ltB x.v = true ∧ ltB x.m = true):=by
 unfold seB at hx
 simp only [Bool.and_eq_true] at hx
 obtain ⟨x0,x1,x2⟩:=hx
 unfold sIs at x0
 rw [decide_eq_true_eq] at x0
 have kx:x.kind = 1 ∨ x.kind = 2 ∨ x.kind = 3:=by omega
 rcases kx with kx | kx | kx <;> rw [kx] at x1 x2
 ·exact .inl ⟨kx,lit_zero x1,lit_zero x2⟩
 ·exact .inr (.inl ⟨kx,x1,lit_zero x2⟩)
 ·exact .inr (.inr ⟨kx,x1,x2⟩)
theorem se_inj {w:World} {x y:Se} {r s:List UInt8} (hx:seB x = true ∧ x.In w) (hy:seB y = true ∧ y.In w) (hr:On stopC r) (hs:On stopC s) (h:x.tx++r = y.tx++s):eqSe x y = true ∧ r = s:=by
 obtain ⟨hx,ix⟩:=hx
 obtain ⟨hy,iy⟩:=hy
 rcases se_parts hx with ⟨kx,xv,xm⟩ | ⟨kx,xv,xm⟩ | ⟨kx,xv,xm⟩ <;> rcases se_parts hy with ⟨ky,yv,ym⟩ | ⟨ky,yv,ym⟩ | ⟨ky,yv,ym⟩
 ·rw [se_tx1 kx,se_tx1 ky] at h
  exact ⟨se_fin (by rw [kx,ky]) (by rw [xv,yv]) (by rw [xm,ym]),List.append_cancel_left h⟩
 ·rw [se_tx1 kx,se_tx2 ky] at h
  exact (n95 yv h.symm).elim
 ·rw [se_tx1 kx,se_tx3 ky,List.append_assoc] at h
  exact (n95 yv h.symm).elim
 ·rw [se_tx2 kx,se_tx1 ky] at h
  exact (n95 xv h).elim
 ·rw [se_tx2 kx,se_tx2 ky] at h
  obtain ⟨a,b⟩:=lt_inj ⟨xv,ix.v⟩ ⟨yv,iy.v⟩ (stopC_off hr) (stopC_off hs) h
  exact ⟨se_fin (by rw [kx,ky]) a (by rw [xm,ym]),b⟩
 ·rw [se_tx2 kx,se_tx3 ky,List.append_assoc,List.append_assoc] at h
  obtain ⟨_,b⟩:=lt_inj ⟨xv,ix.v⟩ ⟨yv,iy.v⟩ (stopC_off hr) (off32 _) h
  exact (n32 hr b).elim
 ·rw [se_tx3 kx,se_tx1 ky,List.append_assoc] at h
  exact (n95 xv h).elim
 ·rw [se_tx3 kx,se_tx2 ky,List.append_assoc,List.append_assoc] at h
  obtain ⟨_,b⟩:=lt_inj ⟨xv,ix.v⟩ ⟨yv,iy.v⟩ (off32 _) (stopC_off hs) h
  exact (n32 hs b.symm).elim
 ·rw [se_tx3 kx,se_tx3 ky,List.append_assoc,List.append_assoc,List.append_assoc,List.append_assoc] at h
  obtain ⟨a,b⟩:=lt_inj ⟨xv,ix.v⟩ ⟨yv,iy.v⟩ (off32 _) (off32 _) h
  obtain ⟨c,e⟩:=lt_inj ⟨xm,ix.m⟩ ⟨ym,iy.m⟩ (stopC_off hr) (stopC_off hs) (List.append_cancel_left b)
  exact ⟨se_fin (by rw [kx,ky]) a c,e⟩
theorem se_first {x:Se} (hx:seB x = true) (r:List UInt8):∃ c,(x.tx++r).head? = some c ∧ (dgt c = true ∨ c = 95):=by
 rcases se_parts hx with ⟨kx,_,_⟩ | ⟨kx,xv,_⟩ | ⟨kx,xv,_⟩
 ·rw [se_tx1 kx]
  exact ⟨95,rfl,.inr rfl⟩
 ·rw [se_tx2 kx]
  obtain ⟨c,a,b⟩:=lt_first xv r
  exact ⟨c,a,.inl b⟩
 ·rw [se_tx3 kx,List.append_assoc]
  obtain ⟨c,a,b⟩:=lt_first xv (([32,38,38,38,32]++x.m.tx)++r)
  exact ⟨c,a,.inl b⟩
theorem tgt_wd {s:ByteArray} (h:tgtB s = true):∀ c ∈ s.data.toList,wd c = true:=by
 unfold tgtB at h
 simp only [Bool.or_eq_true,beq_iff_eq,Lib.toList_data] at h
 rcases h with h | h | h
 ·rw [h];simp only [List.mem_cons,List.not_mem_nil,or_false];rintro c (rfl | rfl | rfl | rfl | rfl | rfl) <;> decide
 ·rw [h];simp only [List.mem_cons,List.not_mem_nil,or_false];rintro c (rfl | rfl | rfl | rfl | rfl | rfl) <;> decide
 ·exact name_wd h
theorem tgt_split {a b:ByteArray} {r s:List UInt8} (ha:tgtB a = true) (hb:tgtB b = true) (hr:Off wd r) (hs:Off wd s) (h:a.data.toList++r = b.data.toList++s):a = b ∧ r = s:=by
 obtain ⟨h1,h2⟩:=split_word wd _ _ _ _ (tgt_wd ha) (tgt_wd hb) hr hs h
 exact ⟨bytes_eq h1,h2⟩
end Go.Proofs.YtpjhokdehcpjbaaGreatDoor
