/-
  WHAT IS PROVED HERE: a part of the proof (made narrower and merged by program; the parts: Qd Qe Qf).
-/
import Derived.Lib.ItoaLen
import Derived.OpenShut
import Derived.Test.YtpjhokdehcpjbaaGreatDoorM41
namespace Go.Proofs.YtpjhokdehcpjbaaGreatDoor
open Go.RowKit
theorem ca_inj {w:World} {d:Nat} {n:Int} (hn:1 ≤ n) {x y:Ca} {r s:List UInt8} (hx:caB n x = true ∧ x.In w) (hy:caB n y = true ∧ y.In w) (h:Ca.ln d x++r = Ca.ln d y++s):eqCa x y = true ∧ r = s:=by
 obtain ⟨hx,ix⟩:=hx
 obtain ⟨hy,iy⟩:=hy
 unfold caB at hx hy
 simp only [Bool.and_eq_true] at hx hy
 obtain ⟨tx,sx⟩:=hx
 obtain ⟨ty,sy⟩:=hy
 unfold Ca.ln at h
 simp only [List.append_assoc] at h
 have h:=List.append_cancel_left h
 have nil_of_dflt:∀ {z:Ca},z.dflt = true → eachB (caK n z) (caK n z) seB z.sets.l = true → z.sets.l = []:=fun {z} hz hs=>by
  have:=(each_pos hs).2
  unfold caK at this
  rw [if_pos hz] at this
  exact List.eq_nil_of_length_eq_zero (by omega)
 have first:∀ {z:Ca} (q:List UInt8),z.dflt = false → eachB (caK n z) (caK n z) seB z.sets.l = true → ∃ c,(rowB Se.tx z.sets.l++q).head? = some c ∧ (dgt c = true ∨ c = 95):=fun {z} q hz hs=>by
  have h1:=(each_pos hs).1
  unfold caK at h1
  rw [hz] at h1
  simp only [Bool.false_eq_true,if_false] at h1
  cases e:z.sets.l with
  | nil=>rw [e] at h1;simp at h1;omega
  | cons a l =>
   simp only [rowB,List.append_assoc]
   exact se_first (each_all hs a (by rw [e];simp)) _
 have behind:∀ {p q:List UInt8},[58,32]++(x.to.data.toList++([59,10]++p)) = [58,32]++(y.to.data.toList++([59,10]++q)) → x.to = y.to ∧ p = q:=fun {p q} e=>by
  obtain ⟨a,b⟩:=tgt_split tx ty (by exact Off.cons (by decide)) (by exact Off.cons (by decide)) (List.append_cancel_left e)
  exact ⟨a,List.append_cancel_left b⟩
 cases dx:x.dflt <;> cases dy:y.dflt <;> rw [dx] at h <;> rw [dy] at h
 ·simp only [Bool.false_eq_true,if_false] at h
  obtain ⟨a,b⟩:=row_inj Se.tx eqSe (fun z=>seB z = true ∧ z.In w) E58 (fun _ _ _ _ hp hq hu hv e=>se_inj hp hq hu hv e) (fun p u v hp ⟨z,hz⟩ e=>by
   obtain ⟨c,c1,c2⟩:=se_first hp.1 u
   rw [e,hz] at c1
   injection c1 with c1
   rw [← c1] at c2
   exact absurd c2 (by decide)) e58 x.sets.l y.sets.l _ _ (fun z hz=>⟨each_all sx z hz,ix.sets.kids z hz⟩) (fun z hz=>⟨each_all sy z hz,iy.sets.kids z hz⟩) (by exact ⟨_,rfl⟩) (by exact ⟨_,rfl⟩) h
  obtain ⟨c,e⟩:=behind b
  exact ⟨by unfold eqCa;rw [dx,dy,a,c,eqStr_refl];rfl,e⟩
 ·simp only [Bool.false_eq_true,if_false,if_true] at h
  obtain ⟨c,c1,c2⟩:=first ([58,32]++(x.to.data.toList++([59,10]++r))) dx sx
  rw [h] at c1
  injection c1 with c1
  rw [← c1] at c2
  exact absurd c2 (by decide)
 ·simp only [Bool.false_eq_true,if_false,if_true] at h
  obtain ⟨c,c1,c2⟩:=first ([58,32]++(y.to.data.toList++([59,10]++s))) dy sy
  rw [← h] at c1
  injection c1 with c1
  rw [← c1] at c2
  exact absurd c2 (by decide)
 ·simp only [if_true] at h
  obtain ⟨c,e⟩:=behind (List.append_cancel_left h)
  exact ⟨by unfold eqCa;rw [dx,dy,nil_of_dflt dx sx,nil_of_dflt dy sy,c,eqStr_refl];rfl,e⟩
/-- A row of expressions in brackets. -/
theorem exs_inj {w:World} {l l':List Ex} {r s:List UInt8} (hl:∀ x ∈ l,Ex.may 16 x = true ∧ x.In w) (hl':∀ x ∈ l',Ex.may 16 x = true ∧ x.In w) (hr:E41 r) (hs:E41 s) (h:rowB Ex.tx l++r = rowB Ex.tx l'++s):eqAll Ex.same l l' = true ∧ r = s :=
 row_inj Ex.tx Ex.same (fun x=>Ex.may 16 x = true ∧ x.In w) E41 (fun x y u v hx hy hu hv e=>tells_all x y 16 16 w w u v hx.1 hy.1 hx.2 hy.2 hu hv e) (fun x u v hx ⟨z,hz⟩ e=>by
  obtain ⟨c,c1,_,c2,_⟩:=tx_first hx.1 u
  rw [e,hz] at c1
  injection c1 with c1
  exact c2 c1.symm) e41 l l' r s hl hl' hr hs h
theorem tr_inj {w:World} {d:Nat} {x y:Sa} {r s:List UInt8} (hx:saB x = true ∧ x.In w) (hy:saB y = true ∧ y.In w) (h:Sa.tr d x++r = Sa.tr d y++s):(eqStr x.to y.to && (eqAll Ex.same x.keys.l y.keys.l && eqAll eqCa x.cases.l y.cases.l)) = true ∧ r = s:=by
 obtain ⟨hx,ix⟩:=hx
 obtain ⟨hy,iy⟩:=hy
 unfold saB saT at hx hy
 simp only [Bool.and_eq_true,beq_iff_eq,Lib.toList_data] at hx hy
 obtain ⟨_,_,tx⟩:=hx
 obtain ⟨_,_,ty⟩:=hy
 unfold Sa.tr at h
 have sel:∀ {t:ByteArray} {q u:List UInt8},tgtB t = true → ([116,114,97,110,115,105,116,105,111,110,32]:List UInt8)++(t.data.toList++([59,10]++q)) = [116,114,97,110,115,105,116,105,111,110,32,115,101,108,101,99,116,40]++u → False:=fun {t q u} ht e=>by
  have e:t.data.toList++([59,10]++q) = [115,101,108,101,99,116]++(40 :: u):=by
   injection e with _ e;injection e with _ e;injection e with _ e;injection e with _ e;injection e with _ e;injection e with _ e
   injection e with _ e;injection e with _ e;injection e with _ e;injection e with _ e;injection e with _ e
  obtain ⟨_,b⟩:=split_word wd _ _ _ _ (tgt_wd ht) (by simp only [List.mem_cons,List.not_mem_nil,or_false];rintro c (rfl | rfl | rfl | rfl | rfl | rfl) <;> decide) (by exact Off.cons (by decide)) (by exact Off.cons (by decide)) e
  injection b with b _
  exact absurd b (by decide)
 by_cases ex:x.to.data.toList = [] <;> by_cases ey:y.to.data.toList = []
 ·rw [if_pos ex] at h tx
  rw [if_pos ey] at h ty
  rw [Bool.and_eq_true] at tx ty
  simp only [List.append_assoc] at h
  have h:=List.append_cancel_left (List.append_cancel_left h)
  obtain ⟨a,b⟩:=exs_inj (fun z hz=>⟨each_all tx.1 z hz,ix.keys.kids z hz⟩) (fun z hz=>⟨each_all ty.1 z hz,iy.keys.kids z hz⟩) (by exact ⟨_,rfl⟩) (by exact ⟨_,rfl⟩) h
  have hlen:x.keys.l.length = y.keys.l.length:=eqAll_len a
  have hn:=(each_pos tx.1).1
  obtain ⟨c,e⟩:=blk_inj Ca.ln eqCa (fun z=>caB (x.keys.l.length:Int) z = true ∧ z.In w) d (fun _ _ _ _ hp hq he=>ca_inj hn hp hq he) (fun _ _=>⟨_,rfl⟩) x.cases.l y.cases.l r s (fun z hz=>⟨each_all tx.2 z hz,ix.cases.kids z hz⟩) (fun z hz=>⟨by rw [hlen];exact each_all ty.2 z hz,iy.cases.kids z hz⟩) (List.append_cancel_left b)
  exact ⟨by rw [a,c,bytes_eq (ex.trans ey.symm),eqStr_refl];rfl,e⟩
 ·rw [if_pos ex] at h tx
  rw [if_neg ey] at h ty
  simp only [List.append_assoc] at h
  rw [Bool.and_eq_true] at ty
  exact (sel ty.1 (List.append_cancel_left h).symm).elim
 ·rw [if_neg ex] at h tx
  rw [if_pos ey] at h ty
  simp only [List.append_assoc] at h
  rw [Bool.and_eq_true] at tx
  exact (sel tx.1 (List.append_cancel_left h)).elim
 ·rw [if_neg ex] at h tx
  rw [if_neg ey] at h ty
  simp only [Bool.and_eq_true,beq_iff_eq] at tx ty
  simp only [List.append_assoc] at h
  obtain ⟨a,b⟩:=tgt_split tx.1 ty.1 (by exact Off.cons (by decide)) (by exact Off.cons (by decide)) (List.append_cancel_left (List.append_cancel_left h))
  have z1:x.keys.l = []:=List.eq_nil_of_length_eq_zero (by have:=tx.2.1;omega)
  have z2:y.keys.l = []:=List.eq_nil_of_length_eq_zero (by have:=ty.2.1;omega)
  have z3:x.cases.l = []:=List.eq_nil_of_length_eq_zero (by have:=tx.2.2;omega)
  have z4:y.cases.l = []:=List.eq_nil_of_length_eq_zero (by have:=ty.2.2;omega)
  exact ⟨by rw [a,z1,z2,z3,z4,eqStr_refl];rfl,List.append_cancel_left b⟩
theorem sa_inj {w:World} {d:Nat} {x y:Sa} {r s:List UInt8} (hx:saB x = true ∧ x.In w) (hy:saB y = true ∧ y.In w) (h:Sa.ln d x++r = Sa.ln d y++s):eqSa x y = true ∧ r = s:=by
 have hx0:=hx
 have hy0:=hy
 obtain ⟨hx,ix⟩:=hx
 obtain ⟨hy,iy⟩:=hy
 unfold saB at hx hy
 simp only [Bool.and_eq_true] at hx hy
 unfold Sa.ln at h
 simp only [List.append_assoc] at h
 obtain ⟨a,h⟩:=name_split hx.1 hy.1 (by exact Off.cons (by decide)) (by exact Off.cons (by decide)) (List.append_cancel_left (List.append_cancel_left h))
 have h:=List.append_cancel_left h
 have et:∀ (z:Sa) (u:List UInt8),∃ q,Sa.tr (d + 1) z++u = padB (d + 1)++(116 :: q):=fun z u=>by
  unfold Sa.tr
  split
  ·exact ⟨_,by rw [List.append_assoc];rfl⟩
  ·exact ⟨_,by rw [List.append_assoc];rfl⟩
 obtain ⟨b,h⟩:=flat_inj (takeL (d + 1)) eqStr (fun z=>nameB z = true) (fun _=>True) (fun u=>∃ q,u = padB (d + 1)++(116 :: q)) (fun _ _ _ _ hp hq _ _ e=>take_inj hp hq e)
  (fun p u v _ ⟨q,hq⟩ e=>by
   rw [hq] at e
   unfold takeL at e
   simp only [List.append_assoc] at e
   have e:=List.append_cancel_left e
   injection e with e _
   exact absurd e (by decide)) (fun _ _ _=>trivial) (fun _ _=>trivial) x.takes.l y.takes.l _ _ (each_all hx.2.1) (each_all hy.2.1) (et x _) (et y _) h
 obtain ⟨c,h⟩:=tr_inj hx0 hy0 h
 simp only [Bool.and_eq_true] at c
 refine ⟨?_,List.append_cancel_left (List.append_cancel_left h)⟩
 unfold eqSa
 rw [a,b,c.1,c.2.1,c.2.2,eqStr_refl]
 rfl
theorem kw_inj:∀ i j:Fin 3,kwL ((i.val:Int) + 1) = kwL ((j.val:Int) + 1) → i = j:=by decide +kernel
theorem kw_wd:∀ i:Fin 3,∀ c ∈ kwL ((i.val:Int) + 1),wd c = true:=by decide +kernel
theorem ke_inj {w:World} {d:Nat} {x y:Ke} {r s:List UInt8} (hx:keB x = true ∧ x.In w) (hy:keB y = true ∧ y.In w) (h:Ke.ln d x++r = Ke.ln d y++s):eqKe x y = true ∧ r = s:=by
 obtain ⟨hx,ix⟩:=hx
 obtain ⟨hy,iy⟩:=hy
 unfold keB at hx hy
 simp only [Bool.and_eq_true,decide_eq_true_eq] at hx hy
 unfold Ke.ln at h
 simp only [List.append_assoc] at h
 obtain ⟨a,h⟩:=tells_all x.e y.e 16 16 w w _ _ hx.2.2 hy.2.2 ix.e iy.e (by exact On.cons (by decide)) (by exact On.cons (by decide)) (List.append_cancel_left h)
 obtain ⟨i,hi⟩:=fin_of (n:=3) (lo:=1) hx.1 (by omega)
 obtain ⟨j,hj⟩:=fin_of (n:=3) (lo:=1) hy.1 (by omega)
 obtain ⟨b,h⟩:=split_word wd _ _ _ _ (by rw [← hi];exact kw_wd i) (by rw [← hj];exact kw_wd j) (by exact Off.cons (by decide)) (by exact Off.cons (by decide)) (List.append_cancel_left h)
 rw [← hi,← hj] at b
 have e:=kw_inj i j b
 refine ⟨?_,List.append_cancel_left h⟩
 unfold eqKe
 rw [a,← hi,← hj,e]
 simp
theorem ta_inj {w:World} {x y:Ta} {r s:List UInt8} (hx:taB x = true ∧ x.In w) (hy:taB y = true ∧ y.In w) (h:x.tx++r = y.tx++s):eqTa x y = true ∧ r = s:=by
 obtain ⟨hx,ix⟩:=hx
 obtain ⟨hy,iy⟩:=hy
 unfold taB at hx hy
 simp only [Bool.and_eq_true] at hx hy
 unfold Ta.tx at h
 simp only [List.append_assoc] at h
 obtain ⟨a,h⟩:=name_split hx.1 hy.1 (by exact Off.cons (by decide)) (by exact Off.cons (by decide)) (List.append_cancel_left h)
 have h:=List.append_cancel_left (List.append_cancel_left (List.append_cancel_left h))
 obtain ⟨b,h⟩:=blk_inj Ke.ln eqKe (fun z=>keB z = true ∧ z.In w) 1 (fun _ _ _ _ hp hq he=>ke_inj hp hq he) (fun _ _=>⟨_,rfl⟩) x.keys.l y.keys.l _ _ (fun z hz=>⟨each_all hx.2.1 z hz,ix.keys.kids z hz⟩) (fun z hz=>⟨each_all hy.2.1 z hz,iy.keys.kids z hz⟩) h
 have h:=List.append_cancel_left (List.append_cancel_left h)
 obtain ⟨c,h⟩:=blk_inj listL eqStr (fun z=>nameB z = true) 1 (fun _ _ _ _ hp hq he=>list_inj hp hq he) (fun _ _=>⟨_,rfl⟩) x.actions.l y.actions.l _ _ (each_all hx.2.2.1) (each_all hy.2.2.1) h
 have h:=List.append_cancel_left (List.append_cancel_left h)
 obtain ⟨e,h⟩:=name_split hx.2.2.2.1 hy.2.2.2.1 (by exact Off.cons (by decide)) (by exact Off.cons (by decide)) h
 obtain ⟨f,h⟩:=row_inj Lt.tx eqLt (fun z=>ltB z = true ∧ z.Ok) E41 (fun _ _ _ _ hp hq hu hv he=>by
  obtain ⟨g1,g2⟩:=lt_inj hp hq (stopC_off hu) (stopC_off hv) he
  exact ⟨eqLt_of g1,g2⟩) (fun p u v hp ⟨z,hz⟩ he=>by
   obtain ⟨c,c1,c2⟩:=lt_first hp.1 u
   rw [he,hz] at c1
   injection c1 with c1
   rw [← c1] at c2
   exact absurd c2 (by decide)) e41 x.dflt.args.l y.dflt.args.l _ _ (fun z hz=>⟨each_all hx.2.2.2.2 z hz,ix.dflt.args.kids z hz⟩) (fun z hz=>⟨each_all hy.2.2.2.2 z hz,iy.dflt.args.kids z hz⟩) (by exact ⟨_,rfl⟩) (by exact ⟨_,rfl⟩) (List.append_cancel_left h)
 refine ⟨?_,List.append_cancel_left (List.append_cancel_left h)⟩
 unfold eqTa
 rw [a,b,c,e,f,eqStr_refl,eqStr_refl]
 rfl
/-- A statement that may be, with so many blocks in it. -/
def St.ok (n:Nat) (s:St):Prop:=s.one = true ∧ St.mayB n s.thn = true ∧ St.mayB n s.els = true
theorem may_ok {n:Nat} {l:List St} (h:St.mayB n l = true):∀ x ∈ l,∃ m,St.ok m x:=by
 cases n with
 | zero =>
  intro x hx
  simp only [St.mayB,beq_iff_eq] at h
  have:l = []:=List.eq_nil_of_length_eq_zero (by omega)
  rw [this] at hx
  simp at hx
 | succ n =>
  intro x hx
  rw [St.mayB] at h
  have h1:=each_all h x hx
  simp only [Bool.and_eq_true] at h1
  exact ⟨n,h1⟩
structure StP (s:St):Prop where
 lo:1 ≤ s.kind
 hi:s.kind ≤ 7
 head:nmB s.head (tHead s.kind) = true
 name:nmB s.name (tName s.kind) = true
 blocks:s.kind ≠ 2 → s.thn = [] ∧ s.els = []
 expr:tExpr s.kind = true → Ex.may 16 s.e = true
 none:tExpr s.kind = false → s.e.same zeroEx = true
theorem one_parts {s:St} (h:s.one = true):StP s:=by
 unfold St.one St.fits at h
 simp only [Bool.and_eq_true] at h
 obtain ⟨h1,⟨h2,h3,h4⟩,h5⟩:=h
 unfold tIs at h1
 rw [decide_eq_true_eq] at h1
 refine ⟨h1.1,h1.2,h2,h3,fun hk=>?_,fun ht=>by rw [if_pos ht] at h5;exact h5,fun ht=>by rw [ht] at h5;simpa using h5⟩
 have hb:tBlocks s.kind = false:=by unfold tBlocks;simpa using hk
 rw [hb] at h4
 simp only [Bool.false_or,Bool.and_eq_true,beq_iff_eq] at h4
 exact ⟨List.eq_nil_of_length_eq_zero (by omega),List.eq_nil_of_length_eq_zero (by omega)⟩
theorem St_e_in {w:World} {s:St} (h:s.In w):s.e.In w:=by cases h;assumption
theorem St_thn_in {w:World} {s:St} (h:s.In w):∀ x ∈ s.thn,x.In w:=by cases h;assumption
theorem St_els_in {w:World} {s:St} (h:s.In w):∀ x ∈ s.els,x.In w:=by cases h;assumption
/-- A statement's first word, and what is behind it. -/
def stW0 (k:Int):List UInt8 :=
 if k = 2 then [105,102] else if k = 3 then [97,112,112,108,121] else if k = 4 then [100,114,111,112] else if k = 5 then [102,111,114,119,97,114,100] else
 if k = 6 then [118,97,108,105,100] else [105,110,118,97,108,105,100]
def stW (k:Int) (head:ByteArray):List UInt8:=if k = 1 then (if head.data.toList = [] then [109,101,116,97] else head.data.toList) else stW0 k
theorem stW0_wd:∀ i:Fin 6,∀ c ∈ stW0 ((i.val:Int) + 2),wd c = true:=by decide +kernel
def stX (k:Int) (head name:ByteArray) (t pad thn:List UInt8) (els:Option (List UInt8)):List UInt8 :=
 if k = 1 then 46 :: (name.data.toList++([32,61,32]++(t++[59,10]))) else
 if k = 2 then 32 :: (40 :: (t++([41,32,123,10]++(thn++((match els with | none=>[] | some x=>pad++([125,32,101,108,115,101,32,123,10]++x))++(pad++[125,10])))))) else
 if k = 3 then 32 :: (name.data.toList++[59,10]) else if k = 4 then [59,10] else if k = 5 then 40 :: (t++[41,59,10]) else 32 :: (head.data.toList++[59,10])
theorem kinds {k:Int} (h1:1 ≤ k) (h2:k ≤ 7):k = 1 ∨ k = 2 ∨ k = 3 ∨ k = 4 ∨ k = 5 ∨ k = 6 ∨ k = 7:=by omega
theorem stL_parts {k:Int} (h1:1 ≤ k) (h2:k ≤ 7) (head name:ByteArray) (t pad thn:List UInt8) (els:Option (List UInt8)):stL k head name t pad thn els = stW k head++stX k head name t pad thn els:=by
 rcases kinds h1 h2 with k | k | k | k | k | k | k <;> subst k <;> cases els <;> simp [stL,stW,stW0,stX,asgL]
theorem stX_off {k:Int} (h1:1 ≤ k) (h2:k ≤ 7) (head name:ByteArray) (t pad thn:List UInt8) (els:Option (List UInt8)) (r:List UInt8):Off wd (stX k head name t pad thn els++r):=by
 rcases kinds h1 h2 with k | k | k | k | k | k | k <;> subst k <;> exact Off.cons (by decide)
theorem head_of {s:ByteArray} (h:nmB s 2 = true) (hs:s.data.toList ≠ []):nameB s = true:=by
 unfold nmB at h
 rw [if_neg (by rw [beq_iff_eq,Lib.toList_data];exact hs)] at h
 simpa using h
theorem stW_wd {s:St} (h:StP s):∀ c ∈ stW s.kind s.head,wd c = true:=by
 have hh:=h.head
 have lo:=h.lo
 have hi:=h.hi
 unfold stW
 by_cases k:s.kind = 1
 ·rw [if_pos k]
  rw [k] at hh
  split
  ·exact meta_wd
  ·exact name_wd (head_of hh ‹_›)
 ·rw [if_neg k]
  obtain ⟨i,hi⟩:=fin_of (k:=s.kind) (n:=6) (lo:=2) (by omega) (by omega)
  rw [← hi]
  exact stW0_wd i
/-- A statement's kind, by these. -/
def stK (W:List UInt8) (c:Option UInt8):Int :=
 if c = some 46 then 1 else if W = [105,102] then 2 else if W = [97,112,112,108,121] then 3 else if W = [100,114,111,112] then 4 else if W = [102,111,114,119,97,114,100] then 5 else if W = [118,97,108,105,100] then 6 else 7
theorem st_kind {k:Int} (h1:1 ≤ k) (h2:k ≤ 7) (head name:ByteArray) (t pad thn:List UInt8) (els:Option (List UInt8)) (r:List UInt8):k = stK (stW k head) (stX k head name t pad thn els++r).head?:=by
 rcases kinds h1 h2 with k | k | k | k | k | k | k <;> subst k <;> simp [stK,stW,stW0,stX]
theorem st_inj {w:World}:∀ (x:St) (d n m:Nat) (y:St) (r s:List UInt8),St.ok n x → St.ok m y → x.In w → y.In w → St.ln d x++r = St.ln d y++s → x.same y = true ∧ r = s:=by
 intro x
 induction x using St.ind with
 | _ x ih1 ih2 =>
 intro d n m y r s hx hy ix iy h
 have px:=one_parts hx.1
 have py:=one_parts hy.1
 rw [St.ln_eq,St.ln_eq,List.append_assoc,List.append_assoc] at h
 have h:=List.append_cancel_left h
 rw [stL_parts px.lo px.hi,stL_parts py.lo py.hi,List.append_assoc,List.append_assoc] at h
 obtain ⟨hW,hX⟩:=split_word wd _ _ _ _ (stW_wd px) (stW_wd py) (stX_off px.lo px.hi _ _ _ _ _ _ _) (stX_off py.lo py.hi _ _ _ _ _ _ _) h
 have hk:x.kind = y.kind:=by
  rw [st_kind px.lo px.hi x.head x.name x.e.tx (padB d) (flat (St.ln (d + 1)) x.thn) (if x.els.length = 0 then none else some (flat (St.ln (d + 1)) x.els)) r,
   st_kind py.lo py.hi y.head y.name y.e.tx (padB d) (flat (St.ln (d + 1)) y.thn) (if y.els.length = 0 then none else some (flat (St.ln (d + 1)) y.els)) s,hW,hX]
 have fin:x.head = y.head → x.name = y.name → x.e.same y.e = true → eqAll St.same x.thn y.thn = true → eqAll St.same x.els y.els = true → x.same y = true:=fun a b c e f=>by
  rw [St.same_eq,St.sames_eq,St.sames_eq,hk,a,b,c,e,f]
  simp
 have hh:=px.head
 have hn:=px.name
 have gh:=py.head
 have gn:=py.name
 have hb:=px.blocks
 have gb:=py.blocks
 have he:=px.expr
 have ge:=py.expr
 have hz:=px.none
 have gz:=py.none
 rw [← hk] at gh gn gb ge gz
 rw [← hk] at hX hW
 have zero:tExpr x.kind = false → x.e.same y.e = true:=fun ht=>by
  rw [Ex.same_trans_zero (hz ht),Ex.same_symm]
  exact gz ht
 have noblk:x.kind ≠ 2 → eqAll St.same x.thn y.thn = true ∧ eqAll St.same x.els y.els = true:=fun h2=>by
  rw [(hb h2).1,(hb h2).2,(gb h2).1,(gb h2).2]
  exact ⟨rfl,rfl⟩
 have ex:∀ {u v:List UInt8},tExpr x.kind = true → On stopC u → On stopC v → x.e.tx++u = y.e.tx++v → x.e.same y.e = true ∧ u = v:=fun {u v} ht hu hv e =>
  tells_all x.e y.e 16 16 w w u v (he ht) (ge ht) (St_e_in ix) (St_e_in iy) hu hv e
 rcases kinds px.lo px.hi with k | k | k | k | k | k | k <;> rw [k] at hX hW hh hn gh gn ex zero noblk
 ·have hX:x.name.data.toList++([32,61,32]++(x.e.tx++([59,10]++r))) = y.name.data.toList++([32,61,32]++(y.e.tx++([59,10]++s))):=by simpa [stX] using hX
  obtain ⟨a,b⟩:=name_split (name_of hn) (name_of gn) (by exact Off.cons (by decide)) (by exact Off.cons (by decide)) hX
  obtain ⟨c,e⟩:=ex rfl (by exact On.cons (by decide)) (by exact On.cons (by decide)) (List.append_cancel_left b)
  have f:x.head = y.head:=by
   simp only [stW,if_true] at hW
   split at hW <;> split at hW
   ·rename_i p q
    exact bytes_eq (p.trans q.symm)
   ·rename_i p q
    exact absurd hW.symm (name_not (head_of gh q) (by decide +kernel))
   ·rename_i p q
    exact absurd hW (name_not (head_of hh p) (by decide +kernel))
   ·exact bytes_eq hW
  exact ⟨fin f a c (noblk (by decide)).1 (noblk (by decide)).2,List.append_cancel_left e⟩
 ·obtain ⟨X,eX⟩:∃ X,X = (if x.els.length = 0 then none else some (flat (St.ln (d + 1)) x.els)):=⟨_,rfl⟩
  obtain ⟨Y,eY⟩:∃ Y,Y = (if y.els.length = 0 then none else some (flat (St.ln (d + 1)) y.els)):=⟨_,rfl⟩
  rw [← eX,← eY] at hX
  have hX:x.e.tx++([41,32,123,10]++(flat (St.ln (d + 1)) x.thn++((match X with | none=>[] | some x=>padB d++([125,32,101,108,115,101,32,123,10]++x))++(padB d++([125,10]++r))))) =
    y.e.tx++([41,32,123,10]++(flat (St.ln (d + 1)) y.thn++((match Y with | none=>[] | some x=>padB d++([125,32,101,108,115,101,32,123,10]++x))++(padB d++([125,10]++s))))):=by
   simpa [stX] using hX
  obtain ⟨a,b⟩:=ex rfl (by exact On.cons (by decide)) (by exact On.cons (by decide)) hX
  have b:=List.append_cancel_left b
  let E:List UInt8 → Prop:=fun u=>∃ z,u = padB d++(125 :: z)
  have en:∀ (Z:Option (List UInt8)) (q:List UInt8),E ((match Z with | none=>[] | some x=>padB d++([125,32,101,108,115,101,32,123,10]++x))++(padB d++([125,10]++q))):=fun Z q=>by
   cases Z with
   | none=>exact ⟨10 :: q,rfl⟩
   | some x=>exact ⟨_,by simp only [List.append_assoc];rfl⟩
  have lines:∀ (l l':List St) (u v:List UInt8),(∀ z ∈ l,z ∈ x.thn ∨ z ∈ x.els) → (∀ z ∈ l,∃ k,St.ok k z) → (∀ z ∈ l',∃ k,St.ok k z) → (∀ z ∈ l,z.In w) → (∀ z ∈ l',z.In w) → E u → E v → flat (St.ln (d + 1)) l++u = flat (St.ln (d + 1)) l'++v → eqAll St.same l l' = true ∧ u = v:=by
   intro l
   induction l with
   | nil =>
    intro l' u v _ _ _ _ _ hu hv e
    cases l' with
    | nil=>exact ⟨rfl,e⟩
    | cons z l' =>
     obtain ⟨q,hq⟩:=hu
     rw [hq] at e
     simp only [flat,List.nil_append,List.append_assoc] at e
     rw [St.ln_eq] at e
     simp only [padB,List.append_assoc] at e
     have e:=List.append_cancel_left e
     injection e with e _
     exact absurd e (by decide)
   | cons p l il =>
    intro l' u v hl hk1 hk2 hi1 hi2 hu hv e
    cases l' with
    | nil =>
     obtain ⟨q,hq⟩:=hv
     rw [hq] at e
     simp only [flat,List.nil_append,List.append_assoc] at e
     rw [St.ln_eq] at e
     simp only [padB,List.append_assoc] at e
     have e:=List.append_cancel_left e
     injection e with e _
     exact absurd e (by decide)
    | cons z l' =>
     simp only [flat,List.append_assoc] at e
     obtain ⟨k1,o1⟩:=hk1 p (by simp)
     obtain ⟨k2,o2⟩:=hk2 z (by simp)
     have step:p.same z = true ∧ flat (St.ln (d + 1)) l++u = flat (St.ln (d + 1)) l'++v:=by
      rcases hl p (by simp) with hp | hp
      ·exact ih1 p hp (d + 1) k1 k2 z _ _ o1 o2 (hi1 p (by simp)) (hi2 z (by simp)) e
      ·exact ih2 p hp (d + 1) k1 k2 z _ _ o1 o2 (hi1 p (by simp)) (hi2 z (by simp)) e
     obtain ⟨t1,t2⟩:=il l' u v (fun a ha=>hl a (by simp [ha])) (fun a ha=>hk1 a (by simp [ha])) (fun a ha=>hk2 a (by simp [ha])) (fun a ha=>hi1 a (by simp [ha])) (fun a ha=>hi2 a (by simp [ha])) hu hv step.2
     exact ⟨by simp [eqAll,step.1,t1],t2⟩
  obtain ⟨c,e⟩:=lines x.thn y.thn _ _ (fun z hz=>.inl hz) (may_ok hx.2.1) (may_ok hy.2.1) (St_thn_in ix) (St_thn_in iy) (en X r) (en Y s) b
  have tail:eqAll St.same x.els y.els = true ∧ r = s:=by
   by_cases zx:x.els.length = 0 <;> by_cases zy:y.els.length = 0
   ·rw [if_pos zx] at eX
    rw [if_pos zy] at eY
    subst eX;subst eY
    rw [List.eq_nil_of_length_eq_zero zx,List.eq_nil_of_length_eq_zero zy]
    exact ⟨rfl,List.append_cancel_left (List.append_cancel_left e)⟩
   ·rw [if_pos zx] at eX
    rw [if_neg zy] at eY
    subst eX;subst eY
    simp only [List.nil_append,List.append_assoc] at e
    have e:=List.append_cancel_left e
    injection e with _ e
    injection e with e _
    exact absurd e (by decide)
   ·rw [if_neg zx] at eX
    rw [if_pos zy] at eY
    subst eX;subst eY
    simp only [List.nil_append,List.append_assoc] at e
    have e:=List.append_cancel_left e
    injection e with _ e
    injection e with e _
    exact absurd e (by decide)
   ·rw [if_neg zx] at eX
    rw [if_neg zy] at eY
    subst eX;subst eY
    simp only [List.append_assoc] at e
    have e:=List.append_cancel_left (List.append_cancel_left e)
    obtain ⟨f,g⟩:=lines x.els y.els _ _ (fun z hz=>.inr hz) (may_ok hx.2.2) (may_ok hy.2.2) (St_els_in ix) (St_els_in iy) (by exact ⟨10 :: r,rfl⟩) (by exact ⟨10 :: s,rfl⟩) e
    exact ⟨f,List.append_cancel_left (List.append_cancel_left g)⟩
  have hn2:=nil_of hn
  have gn2:=nil_of gn
  have hh2:=nil_of hh
  have gh2:=nil_of gh
  exact ⟨fin (hh2.trans gh2.symm) (hn2.trans gn2.symm) a c tail.1,tail.2⟩
 ·have hX:x.name.data.toList++([59,10]++r) = y.name.data.toList++([59,10]++s):=by simpa [stX] using hX
  obtain ⟨a,b⟩:=name_split (name_of hn) (name_of gn) (by exact Off.cons (by decide)) (by exact Off.cons (by decide)) hX
  exact ⟨fin ((nil_of hh).trans (nil_of gh).symm) a (zero rfl) (noblk (by decide)).1 (noblk (by decide)).2,List.append_cancel_left b⟩
 ·have hX:([59,10]:List UInt8)++r = [59,10]++s:=by simpa [stX] using hX
  exact ⟨fin ((nil_of hh).trans (nil_of gh).symm) ((nil_of hn).trans (nil_of gn).symm) (zero rfl) (noblk (by decide)).1 (noblk (by decide)).2,List.append_cancel_left hX⟩
 ·have hX:x.e.tx++([41,59,10]++r) = y.e.tx++([41,59,10]++s):=by simpa [stX] using hX
  obtain ⟨a,b⟩:=ex rfl (by exact On.cons (by decide)) (by exact On.cons (by decide)) hX
  exact ⟨fin ((nil_of hh).trans (nil_of gh).symm) ((nil_of hn).trans (nil_of gn).symm) a (noblk (by decide)).1 (noblk (by decide)).2,List.append_cancel_left b⟩
 ·have hX:x.head.data.toList++([59,10]++r) = y.head.data.toList++([59,10]++s):=by simpa [stX] using hX
  obtain ⟨a,b⟩:=name_split (name_of hh) (name_of gh) (by exact Off.cons (by decide)) (by exact Off.cons (by decide)) hX
  exact ⟨fin a ((nil_of hn).trans (nil_of gn).symm) (zero rfl) (noblk (by decide)).1 (noblk (by decide)).2,List.append_cancel_left b⟩
 ·have hX:x.head.data.toList++([59,10]++r) = y.head.data.toList++([59,10]++s):=by simpa [stX] using hX
  obtain ⟨a,b⟩:=name_split (name_of hh) (name_of gh) (by exact Off.cons (by decide)) (by exact Off.cons (by decide)) hX
  exact ⟨fin a ((nil_of hn).trans (nil_of gn).symm) (zero rfl) (noblk (by decide)).1 (noblk (by decide)).2,List.append_cancel_left b⟩
theorem sts_inj {w:World} {d n:Nat} {l l':List St} {r s:List UInt8} (hl:St.mayB n l = true) (hl':St.mayB n l' = true) (il:∀ x ∈ l,x.In w) (il':∀ x ∈ l',x.In w) (h:blkB St.ln d l++r = blkB St.ln d l'++s):eqAll St.same l l' = true ∧ r = s :=
 blk_inj St.ln St.same (fun x=>(∃ m,St.ok m x) ∧ x.In w) d (fun x y u v hx hy e=>by
  obtain ⟨⟨a,ha⟩,hi⟩:=hx
  obtain ⟨⟨b,hb⟩,hj⟩:=hy
  exact st_inj x (d + 1) a b y u v ha hb hi hj e) (fun _ _=>⟨_,St.ln_eq _ _⟩) l l' r s (fun x hx=>⟨may_ok hl x hx,il x hx⟩) (fun x hx=>⟨may_ok hl' x hx,il' x hx⟩) h
theorem ac_inj {w:World} {x y:Ac} {r s:List UInt8} (hx:acB x = true ∧ x.In w) (hy:acB y = true ∧ y.In w) (h:x.tx++r = y.tx++s):eqAc x y = true ∧ r = s:=by
 obtain ⟨hx,ix⟩:=hx
 obtain ⟨hy,iy⟩:=hy
 unfold acB at hx hy
 simp only [Bool.and_eq_true] at hx hy
 unfold Ac.tx at h
 simp only [List.append_assoc] at h
 obtain ⟨a,h⟩:=name_split hx.1 hy.1 (by exact Off.cons (by decide)) (by exact Off.cons (by decide)) (List.append_cancel_left h)
 obtain ⟨b,h⟩:=row_inj Fd.tx eqFd (fun z=>fdB z = true) E41 (fun _ _ _ _ hp hq hu hv e=>fd_inj hp hq (stopC_off hu) (stopC_off hv) e) (fun p u v _ ⟨z,hz⟩ e=>by
  rw [hz] at e
  unfold Fd.tx at e
  simp only [List.append_assoc] at e
  injection e with e _
  exact absurd e (by decide)) e41 x.params.l y.params.l _ _ (each_all hx.2.1) (each_all hy.2.1) (by exact ⟨_,rfl⟩) (by exact ⟨_,rfl⟩) (List.append_cancel_left h)
 obtain ⟨c,h⟩:=sts_inj hx.2.2 hy.2.2 ix.body.kids iy.body.kids (List.append_cancel_left h)
 refine ⟨?_,h⟩
 unfold eqAc
 rw [a,b,St.sames_eq,c,eqStr_refl]
 rfl
/-- Programs have the same text only if they are the same. -/
theorem pr_inj {w:World} {x y:Pr} (hx:prB x = true) (hy:prB y = true) (ix:x.In w) (iy:y.In w) (h:x.tx = y.tx):eqPr x y = true:=by
 unfold prB at hx hy
 simp only [Bool.and_eq_true] at hx hy
 obtain ⟨x1,x2,x3,x4,x5,x6,x7⟩:=hx
 obtain ⟨y1,y2,y3,y4,y5,y6,y7⟩:=hy
 unfold Pr.tx at h
 have begins:∀ {c b:UInt8} {z u:List UInt8},c ≠ b → c :: z ≠ b :: u:=fun hc e=>by injection e with e _;exact hc e
 obtain ⟨a1,h⟩:=flat_inj Hr.tx eqHr (fun z=>hrB z = true) (fun _=>True) (fun u=>∃ z,u = 109 :: z) (fun _ _ _ _ hp hq _ _ e=>hr_inj hp hq e) (fun p u v _ ⟨z,hz⟩ e=>by
  rw [hz] at e
  unfold Hr.tx at e
  exact begins (by decide) e) (fun _ _ _=>trivial) (fun _ _=>trivial) x.headers.l y.headers.l _ _ (each_all x1) (each_all y1) (by exact ⟨_,rfl⟩) (by exact ⟨_,rfl⟩) h
 obtain ⟨a2,h⟩:=fds_inj (each_all x2) (each_all y2) (List.append_cancel_left h)
 obtain ⟨a3,h⟩:=blk_inj Sa.ln eqSa (fun z=>saB z = true ∧ z.In w) 0 (fun _ _ _ _ hp hq e=>sa_inj hp hq e) (fun _ _=>⟨_,rfl⟩) x.states.l y.states.l _ _ (fun z hz=>⟨each_all x3 z hz,ix.states.kids z hz⟩) (fun z hz=>⟨each_all y3 z hz,iy.states.kids z hz⟩) (List.append_cancel_left h)
 have notc:∀ {c:UInt8} {z:List UInt8} (m:List Ta) (u:List UInt8),c ≠ 116 → c ≠ 99 → flat Ta.tx m++([99,111,110,116,114,111,108]++u) ≠ c :: z:=fun {c z} m u h1 h2 e=>by
  cases m with
  | nil=>exact begins (Ne.symm h2) e
  | cons p m =>
   simp only [flat,List.append_assoc] at e
   unfold Ta.tx at e
   exact begins (Ne.symm h1) e
 obtain ⟨a4,h⟩:=flat_inj Ac.tx eqAc (fun z=>acB z = true ∧ z.In w) (fun _=>True) (fun u=>∃ (m:List Ta) (z:List UInt8),u = flat Ta.tx m++([99,111,110,116,114,111,108]++z)) (fun _ _ _ _ hp hq _ _ e=>ac_inj hp hq e) (fun p u v _ ⟨m,z,hz⟩ e=>by
  rw [hz] at e
  unfold Ac.tx at e
  exact notc m z (by decide) (by decide) e.symm) (fun _ _ _=>trivial) (fun _ _=>trivial) x.actions.l y.actions.l _ _ (fun z hz=>⟨each_all x4 z hz,ix.actions.kids z hz⟩) (fun z hz=>⟨each_all y4 z hz,iy.actions.kids z hz⟩) (by exact ⟨_,_,rfl⟩) (by exact ⟨_,_,rfl⟩) h
 obtain ⟨a5,h⟩:=flat_inj Ta.tx eqTa (fun z=>taB z = true ∧ z.In w) (fun _=>True) (fun u=>∃ z,u = 99 :: z) (fun _ _ _ _ hp hq _ _ e=>ta_inj hp hq e) (fun p u v _ ⟨z,hz⟩ e=>by
  rw [hz] at e
  unfold Ta.tx at e
  exact begins (by decide) e) (fun _ _ _=>trivial) (fun _ _=>trivial) x.tables.l y.tables.l _ _ (fun z hz=>⟨each_all x5 z hz,ix.tables.kids z hz⟩) (fun z hz=>⟨each_all y5 z hz,iy.tables.kids z hz⟩) (by exact ⟨_,rfl⟩) (by exact ⟨_,rfl⟩) h
 obtain ⟨a6,h⟩:=sts_inj x6 y6 ix.control.kids iy.control.kids (List.append_cancel_left h)
 have h:=List.append_cancel_left h
 rw [← List.append_nil (blkB emitL 0 x.emit.l),← List.append_nil (blkB emitL 0 y.emit.l)] at h
 obtain ⟨a7,_⟩:=blk_inj emitL eqStr (fun z=>nameB z = true) 0 (fun _ _ _ _ hp hq e=>emit_inj hp hq e) (fun _ _=>⟨_,rfl⟩) x.emit.l y.emit.l [] [] (each_all x7) (each_all y7) h
 unfold eqPr
 rw [a1,a2,a3,a4,a5,St.sames_eq,a6,a7]
 rfl
theorem pr_some (x:Pr):x.tx ≠ []:=by
 unfold Pr.tx
 intro h
 have:=congrArg List.length h
 simp only [List.length_append,List.length_cons,List.length_nil] at this
 omega
theorem flat_eq {α:Type} {f:α → List UInt8} {R:α → α → Bool}:∀ (l r:List α),(∀ x ∈ l,∀ y,R x y = true → f x = f y) → eqAll R l r = true → flat f l = flat f r
 | [],[],_,_=>rfl
 | [],_ :: _,_,h=>by simp [eqAll] at h
 | _ :: _,[],_,h=>by simp [eqAll] at h
 | a :: l,b :: r,hf,h=>by
  simp only [eqAll,Bool.and_eq_true] at h
  simp only [flat]
  rw [hf a (by simp) b h.1,flat_eq l r (fun x hx=>hf x (by simp [hx])) h.2]
theorem rowB_eq {α:Type} {f:α → List UInt8} {R:α → α → Bool} (l r:List α) (hf:∀ x ∈ l,∀ y,R x y = true → f x = f y) (h:eqAll R l r = true):rowB f l = rowB f r:=by
 cases l with
 | nil=>cases r with
  | nil=>rfl
  | cons _ _=>simp [eqAll] at h
 | cons a l=>cases r with
  | nil=>simp [eqAll] at h
  | cons b r =>
   simp only [eqAll,Bool.and_eq_true] at h
   simp only [rowB]
   rw [hf a (by simp) b h.1,flat_eq (f:=fun y=>[44,32]++f y) l r (fun x hx y hy=>by rw [hf x (by simp [hx]) y hy]) h.2]
theorem blkB_eq {α:Type} {f:Nat → α → List UInt8} {R:α → α → Bool} (d:Nat) (l r:List α) (hf:∀ x ∈ l,∀ y,R x y = true → f (d + 1) x = f (d + 1) y) (h:eqAll R l r = true):blkB f d l = blkB f d r:=by
 unfold blkB
 rw [flat_eq l r hf h]
theorem hr_tx {x y:Hr} (h:eqHr x y = true):x.tx = y.tx:=by
 obtain ⟨a,b⟩:=hr_eq h
 unfold Hr.tx
 rw [a,b]
theorem ca_tx {x y:Ca} (d:Nat) (h:eqCa x y = true):Ca.ln d x = Ca.ln d y:=by
 unfold eqCa at h
 simp only [Bool.and_eq_true,beq_iff_eq] at h
 unfold Ca.ln
 rw [h.1,eqAll_eq (fun _ _=>eqSe_eq) _ _ h.2.1,eqStr_eq h.2.2]
theorem sa_tx {x y:Sa} (d:Nat) (h:eqSa x y = true):Sa.ln d x = Sa.ln d y:=by
 unfold eqSa at h
 simp only [Bool.and_eq_true] at h
 obtain ⟨a,b,c,e,f⟩:=h
 unfold Sa.ln Sa.tr
 rw [eqStr_eq a,eqAll_eq (fun _ _=>eqStr_eq) _ _ b,eqStr_eq c,rowB_eq _ _ (fun p _ q hq=>same_tx p q hq) e,blkB_eq _ _ _ (fun p _ q hq=>ca_tx _ hq) f]
theorem st_tx:∀ (x:St) (d:Nat) (y:St),x.same y = true → St.ln d x = St.ln d y:=by
 intro x
 induction x using St.ind with
 | _ x ih1 ih2 =>
 intro d y h
 rw [St.same_eq,St.sames_eq,St.sames_eq] at h
 simp only [Bool.and_eq_true,beq_iff_eq,Lib.toList_data] at h
 obtain ⟨a,b,c,e,f,g⟩:=h
 rw [St.ln_eq,St.ln_eq,a,bytes_eq b,bytes_eq c,same_tx _ _ e,flat_eq _ _ (fun p hp q hq=>ih1 p hp (d + 1) q hq) f,flat_eq _ _ (fun p hp q hq=>ih2 p hp (d + 1) q hq) g,eqAll_len g]
theorem ac_tx {x y:Ac} (h:eqAc x y = true):x.tx = y.tx:=by
 unfold eqAc at h
 rw [St.sames_eq] at h
 simp only [Bool.and_eq_true] at h
 obtain ⟨a,b,c⟩:=h
 unfold Ac.tx
 rw [eqStr_eq a,eqAll_eq (fun _ _=>eqFd_eq) _ _ b,blkB_eq _ _ _ (fun p _ q hq=>st_tx p _ q hq) c]
theorem ke_tx {x y:Ke} (d:Nat) (h:eqKe x y = true):Ke.ln d x = Ke.ln d y:=by
 unfold eqKe at h
 simp only [Bool.and_eq_true,beq_iff_eq] at h
 unfold Ke.ln
 rw [h.1,same_tx _ _ h.2]
theorem ta_tx {x y:Ta} (h:eqTa x y = true):x.tx = y.tx:=by
 unfold eqTa at h
 simp only [Bool.and_eq_true] at h
 obtain ⟨a,b,c,e,f⟩:=h
 unfold Ta.tx
 rw [eqStr_eq a,blkB_eq _ _ _ (fun p _ q hq=>ke_tx _ hq) b,eqAll_eq (fun _ _=>eqStr_eq) _ _ c,eqStr_eq e,eqAll_eq (fun _ _=>eqLt_eq) _ _ f]
theorem pr_tx {x y:Pr} (h:eqPr x y = true):x.tx = y.tx:=by
 unfold eqPr at h
 rw [St.sames_eq] at h
 simp only [Bool.and_eq_true] at h
 obtain ⟨a,b,c,e,f,g,i⟩:=h
 unfold Pr.tx
 rw [flat_eq _ _ (fun p _ q hq=>hr_tx hq) a,eqAll_eq (fun _ _=>eqFd_eq) _ _ b,blkB_eq _ _ _ (fun p _ q hq=>sa_tx _ hq) c,flat_eq _ _ (fun p _ q hq=>ac_tx hq) e,flat_eq _ _ (fun p _ q hq=>ta_tx hq) f,blkB_eq _ _ _ (fun p _ q hq=>st_tx p _ q hq) g,eqAll_eq (fun _ _=>eqStr_eq) _ _ i]
theorem flat_len {α:Type} {f:α → List UInt8} {g:α → Nat} {C:Nat}:∀ l:List α,(∀ x ∈ l,(f x).length ≤ C * g x) → (flat f l).length ≤ C * (l.map g).sum
 | [],_=>by simp [flat]
 | x :: l,h=>by
  have h1:=h x (by simp)
  have h2:=flat_len l (fun y hy=>h y (by simp [hy]))
  simp only [flat,List.length_append,List.map_cons,List.sum_cons,Nat.mul_add]
  omega
theorem rowB_len {α:Type} {f:α → List UInt8} {g:α → Nat} {C:Nat} (l:List α) (h:∀ x ∈ l,(f x).length + 2 ≤ C * g x):(rowB f l).length ≤ C * (l.map g).sum:=by
 cases l with
 | nil=>simp [rowB]
 | cons x l =>
  have h1:=h x (by simp)
  have h2:=flat_len (f:=fun y=>[44,32]++f y) (g:=g) (C:=C) l (fun y hy=>by
   have:=h y (by simp [hy])
   simp only [List.length_append,List.length_cons,List.length_nil]
   omega)
  simp only [rowB,List.length_append,List.map_cons,List.sum_cons,Nat.mul_add]
  omega
theorem blkB_len {α:Type} {f:Nat → α → List UInt8} {g:α → Nat} {C:Nat} (d:Nat) (l:List α) (h:∀ x ∈ l,(f (d + 1) x).length ≤ C * g x):(blkB f d l).length ≤ C * (l.map g).sum + 2 * d + 5:=by
 have:=flat_len l h
 unfold blkB
 simp only [List.length_append,List.length_cons,List.length_nil,padB_length]
 omega
theorem str_len (s:ByteArray):s.data.toList.length = s.size:=by rw [Array.length_toList];rfl
theorem itoa_le {k:Int} (h:(Lit.int .i64 k).wf = true):(Lib.itoa k).length ≤ 21:=by
 have:=bounds_i64 h
 exact Lib.itoa_length_le k (by omega) (by omega)
theorem lt_len {t:Lt} (h:t.Ok):t.tx.length ≤ 61:=by
 have h1:=numS_len t.n (Lt.n_lt h)
 have h2:=itoa_le h.w
 unfold Lt.tx
 split
 ·simp only [List.length_append,List.length_cons,List.length_nil];omega
 ·simp only [List.length_append,List.length_nil];omega
theorem ite_len {p:Prop} [Decidable p] {a b:List UInt8} {n:Nat} (ha:a.length ≤ n) (hb:b.length ≤ n):(if p then a else b).length ≤ n:=by
 split
 ·exact ha
 ·exact hb
theorem sg_len (op:Int):(sgL op).length ≤ 2:=by
 unfold sgL
 repeat' refine ite_len (by decide) ?_
 decide
theorem kw_len (k:Int):(kwL k).length ≤ 7:=by
 unfold kwL
 repeat' refine ite_len (by decide) ?_
 decide
theorem at_len (e:Ex):e.at.length ≤ e.tx.length + 2:=by
 unfold Ex.at brL
 split
 ·omega
 ·simp only [List.length_append,List.length_cons,List.length_nil];omega
theorem In_hi {w:World} {e:Ex} (h:e.In w):(Lit.int .i64 e.hi).wf = true ∧ (Lit.int .i64 e.lo).wf = true:=by cases h;exact ⟨by assumption,by assumption⟩
theorem ex_len {w:World} (e:Ex):e.In w → e.tx.length + 100 ≤ 1000 * e.wt:=by
 induction e using Ex.ind with
 | _ e ih =>
 intro hi
 have hl:=lt_len (In_lit hi)
 have h1:=itoa_le (In_hi hi).1
 have h2:=itoa_le (In_hi hi).2
 have h3:=sg_len e.op
 have hk:=In_kids hi
 have hh:=str_len e.head
 have hn:=str_len e.name
 rw [Ex.tx_eq,Ex.wt_eq]
 cases ha:e.args with
 | nil =>
  simp only [List.map_nil,exL,leafL,List.sum_nil]
  repeat' split
  all_goals try simp only [List.length_append,List.length_cons,List.length_nil]
  all_goals omega
 | cons a l =>
  have a1:=ih a (by rw [ha];simp) (hk a (by rw [ha];simp))
  have a2:=at_len a
  cases l with
  | nil =>
   simp only [List.map_cons,List.map_nil,exL,List.sum_cons,List.sum_nil]
   split
   all_goals try simp only [List.length_append,List.length_cons,List.length_nil]
   all_goals omega
  | cons b l =>
   have b1:=ih b (by rw [ha];simp) (hk b (by rw [ha];simp))
   have b2:=at_len b
   simp only [List.map_cons,exL,List.sum_cons,List.length_append,List.length_cons,List.length_nil]
   omega
theorem fd_len {w:World} {x:Fd} (h:x.In w):x.tx.length + 100 ≤ 1000 * x.sz:=by
 have h1:=itoa_le h.w
 have h2:=str_len x.name
 unfold Fd.tx Fd.sz
 simp only [List.length_append,List.length_cons,List.length_nil]
 omega
theorem fdln_len {w:World} {x:Fd} {d:Nat} (hd:d ≤ 20) (h:x.In w):(Fd.ln d x).length ≤ 1000 * x.sz:=by
 have h1:=fd_len h
 unfold Fd.ln
 simp only [List.length_append,List.length_cons,List.length_nil,padB_length]
 omega
theorem hr_len {w:World} {x:Hr} (h:x.In w):x.tx.length ≤ 1000 * x.sz:=by
 have h1:=blkB_len (f:=Fd.ln) (g:=Fd.sz) (C:=1000) 0 x.fields.l (fun y hy=>fdln_len (by omega) (h.fields.kids y hy))
 have h2:=str_len x.name
 unfold Hr.tx Hr.sz Sl.size
 simp only [List.length_append,List.length_cons,List.length_nil]
 omega
theorem se_len {w:World} {x:Se} (h:x.In w):x.tx.length + 2 ≤ 1000 * x.sz:=by
 have h1:=lt_len h.v
 have h2:=lt_len h.m
 unfold Se.tx Se.sz
 repeat' split
 all_goals try simp only [List.length_append,List.length_cons,List.length_nil]
 all_goals omega
theorem ca_len {w:World} {x:Ca} {d:Nat} (hd:d ≤ 20) (h:x.In w):(Ca.ln d x).length ≤ 1000 * x.sz:=by
 have h1:=rowB_len (f:=Se.tx) (g:=Se.sz) (C:=1000) x.sets.l (fun y hy=>se_len (h.sets.kids y hy))
 have h2:=str_len x.to
 unfold Ca.ln Ca.sz Sl.size
 split
 all_goals try simp only [List.length_append,List.length_cons,List.length_nil,padB_length]
 all_goals omega
theorem names_len (f:ByteArray → List UInt8) (l:List ByteArray) (h:∀ s,(f s).length ≤ 100 + s.size):(flat f l).length ≤ 1000 * (l.map strSize).sum :=
 flat_len l (fun s _=>by
  have:=h s
  unfold strSize
  omega)
theorem sa_len {w:World} {x:Sa} {d:Nat} (hd:d ≤ 10) (h:x.In w):(Sa.ln d x).length ≤ 1000 * x.sz:=by
 have h1:=str_len x.name
 have h2:=str_len x.to
 have h3:=names_len (takeL (d + 1)) x.takes.l (fun s=>by
  have:=str_len s
  unfold takeL
  simp only [List.length_append,List.length_cons,List.length_nil,padB_length]
  omega)
 have h4:=rowB_len (f:=Ex.tx) (g:=Ex.wt) (C:=1000) x.keys.l (fun y hy=>by
  have:=ex_len y (h.keys.kids y hy)
  omega)
 have h5:=blkB_len (f:=Ca.ln) (g:=Ca.sz) (C:=1000) (d + 1) x.cases.l (fun y hy=>ca_len (by omega) (h.cases.kids y hy))
 unfold Sa.ln Sa.tr Sa.sz Sl.size
 split
 all_goals try simp only [List.length_append,List.length_cons,List.length_nil,padB_length]
 all_goals omega
theorem stL_len (k:Int) (head name:ByteArray) (t pad thn:List UInt8) (els:Option (List UInt8)) (n:Nat) (hn:∀ x,els = some x → x.length ≤ n):(stL k head name t pad thn els).length ≤ head.size + name.size + t.length + 2 * pad.length + thn.length + n + 40:=by
 have hh:=str_len head
 have hm:=str_len name
 cases els with
 | none =>
  unfold stL asgL
  dsimp only
  repeat' split
  all_goals try simp only [List.length_append,List.length_cons,List.length_nil]
  all_goals omega
 | some x =>
  have:=hn x rfl
  unfold stL asgL
  dsimp only
  repeat' split
  all_goals try simp only [List.length_append,List.length_cons,List.length_nil]
  all_goals omega
theorem mayB_pos {n:Nat} {l:List St} (h:St.mayB n l = true):∀ x ∈ l,∃ m,n = m + 1 ∧ St.ok m x:=by
 cases n with
 | zero =>
  intro x hx
  simp only [St.mayB,beq_iff_eq] at h
  have:l = []:=List.eq_nil_of_length_eq_zero (by omega)
  rw [this] at hx
  simp at hx
 | succ n =>
  intro x hx
  rw [St.mayB] at h
  have h1:=each_all h x hx
  simp only [Bool.and_eq_true] at h1
  exact ⟨n,rfl,h1⟩
theorem st_len {w:World}:∀ (x:St) (d n:Nat),d + n ≤ 20 → St.ok n x → x.In w → (St.ln d x).length ≤ 1000 * x.sz:=by
 intro x
 induction x using St.ind with
 | _ x ih1 ih2 =>
 intro d n hd ho hi
 have h1:=ex_len x.e (St_e_in hi)
 have h2:=flat_len (f:=St.ln (d + 1)) (g:=St.sz) (C:=1000) x.thn (fun y hy=>by
  obtain ⟨m,rfl,hm⟩:=mayB_pos ho.2.1 y hy
  exact ih1 y hy (d + 1) m (by omega) hm (St_thn_in hi y hy))
 have h3:=flat_len (f:=St.ln (d + 1)) (g:=St.sz) (C:=1000) x.els (fun y hy=>by
  obtain ⟨m,rfl,hm⟩:=mayB_pos ho.2.2 y hy
  exact ih2 y hy (d + 1) m (by omega) hm (St_els_in hi y hy))
 have h4:=stL_len x.kind x.head x.name x.e.tx (padB d) (flat (St.ln (d + 1)) x.thn) (if x.els.length = 0 then none else some (flat (St.ln (d + 1)) x.els)) _ (fun y hy=>by
  split at hy
  ·cases hy
  ·rw [← Option.some.inj hy];exact h3)
 rw [St.ln_eq,St.sz_eq,List.length_append,padB_length]
 rw [padB_length] at h4
 omega
theorem sts_len {w:World} {l:List St} {d n:Nat} (hd:d + 1 + n ≤ 21) (ho:St.mayB n l = true) (hi:∀ x ∈ l,x.In w):(blkB St.ln d l).length ≤ 1000 * (l.map St.sz).sum + 2 * d + 5 :=
 blkB_len d l (fun y hy=>by
  obtain ⟨m,rfl,hm⟩:=mayB_pos ho y hy
  exact st_len y (d + 1) m (by omega) hm (hi y hy))
theorem ac_len {w:World} {x:Ac} (hb:acB x = true) (h:x.In w):x.tx.length ≤ 1000 * x.sz:=by
 have h1:=str_len x.name
 have h2:=rowB_len (f:=Fd.tx) (g:=Fd.sz) (C:=1000) x.params.l (fun y hy=>by
  have:=fd_len (h.params.kids y hy)
  omega)
 unfold acB at hb
 simp only [Bool.and_eq_true] at hb
 have h3:=sts_len (d:=0) (by omega) hb.2.2 h.body.kids
 unfold Ac.tx Ac.sz Sl.size
 simp only [List.length_append,List.length_cons,List.length_nil]
 omega
theorem ke_len {w:World} {x:Ke} {d:Nat} (hd:d ≤ 20) (h:x.In w):(Ke.ln d x).length ≤ 1000 * x.sz:=by
 have h1:=ex_len x.e h.e
 have h2:=kw_len x.kind
 unfold Ke.ln Ke.sz
 simp only [List.length_append,List.length_cons,List.length_nil,padB_length]
 omega
theorem ta_len {w:World} {x:Ta} (h:x.In w):x.tx.length ≤ 1000 * x.sz:=by
 have h1:=str_len x.name
 have h2:=str_len x.dflt.name
 have h3:=blkB_len (f:=Ke.ln) (g:=Ke.sz) (C:=1000) 1 x.keys.l (fun y hy=>ke_len (by omega) (h.keys.kids y hy))
 have h4:=names_len (listL 2) x.actions.l (fun s=>by
  have:=str_len s
  unfold listL
  simp only [List.length_append,List.length_cons,List.length_nil,padB_length]
  omega)
 have h5:=rowB_len (f:=Lt.tx) (g:=fun _=>1) (C:=1000) x.dflt.args.l (fun y hy=>by
  have:=lt_len (h.dflt.args.kids y hy)
  omega)
 unfold Ta.tx Ta.sz Cl.sz Sl.size
 unfold blkB at h3 ⊢
 simp only [List.length_append,List.length_cons,List.length_nil,padB_length] at h3 ⊢
 simp only [Nat.reduceAdd] at h3 ⊢
 omega
theorem pr_len {w:World} {x:Pr} (hb:prB x = true) (h:x.In w):x.tx.length ≤ 1000 * x.sz + 1000:=by
 unfold prB at hb
 simp only [Bool.and_eq_true] at hb
 obtain ⟨_,_,_,b4,_,b6,_⟩:=hb
 have h1:=flat_len (f:=Hr.tx) (g:=Hr.sz) (C:=1000) x.headers.l (fun y hy=>hr_len (h.headers.kids y hy))
 have h2:=blkB_len (f:=Fd.ln) (g:=Fd.sz) (C:=1000) 0 x.metas.l (fun y hy=>fdln_len (by omega) (h.metas.kids y hy))
 have h3:=blkB_len (f:=Sa.ln) (g:=Sa.sz) (C:=1000) 0 x.states.l (fun y hy=>sa_len (by omega) (h.states.kids y hy))
 have h4:=flat_len (f:=Ac.tx) (g:=Ac.sz) (C:=1000) x.actions.l (fun y hy=>ac_len (each_all b4 y hy) (h.actions.kids y hy))
 have h5:=flat_len (f:=Ta.tx) (g:=Ta.sz) (C:=1000) x.tables.l (fun y hy=>ta_len (h.tables.kids y hy))
 have h6:=sts_len (d:=0) (by omega) b6 h.control.kids
 have h7:=names_len (emitL 1) x.emit.l (fun s=>by
  have:=str_len s
  unfold emitL
  simp only [List.length_append,List.length_cons,List.length_nil,padB_length]
  omega)
 unfold Pr.tx Pr.sz Sl.size
 unfold blkB at h2 h3 h6 ⊢
 simp only [List.length_append,List.length_cons,List.length_nil,padB_length] at h2 h3 h6 ⊢
 simp only [Nat.reduceAdd] at h2 h3 h6 ⊢
 omega
end Go.Proofs.YtpjhokdehcpjbaaGreatDoor
