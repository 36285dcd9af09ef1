/-
  WHAT IS PROVED HERE: a part of the proof (made narrower and merged by program; the parts: HL).
-/
import Derived.Test.YtobhijbncchpiaaGreatM14
namespace Go.Proofs.YtobhijbncchpiaaGreat
open Go.RowKit
structure FormsIn (w:World) (m1 m2 m3:Nat):Prop where
 x:MapAt w m1 (esX 26)
 s:MapAt w m2 (esS 3)
 t:MapAt w m3 (esT 7)
theorem FormsIn.plus {w:World} {m1 m2 m3:Nat} (h:FormsIn w m1 m2 m3) (y:Ext):FormsIn (plus w y) m1 m2 m3:=⟨h.x.plus y,h.s.plus y,h.t.plus y⟩
abbrev fmV (m1 m2 m3:Nat):Value:=.agg #[.map (some m1),.map (some m2),.map (some m3)]
def seB (s:Se):Bool:=sIs s.kind && (litB (sV s.kind) s.v && litB (sM s.kind) s.m)
def caK (n:Int) (c:Ca):Int:=if c.dflt then 0 else n
def caB (n:Int) (c:Ca):Bool:=tgtB c.to && eachB (caK n c) (caK n c) seB c.sets.l
def saT (s:Sa):Bool:=if s.to.toList == [] then (eachB 1 4 (Ex.may 16) s.keys.l && eachB 1 16 (caB (s.keys.l.length:Int)) s.cases.l) else (tgtB s.to && (((s.keys.l.length:Int) == 0) && ((s.cases.l.length:Int) == 0)))
def saB (s:Sa):Bool:=nameB s.name && (eachB 0 8 nameB s.takes.l && saT s)
def keB (k:Ke):Bool:=decide (1≤k.kind) && (decide (k.kind≤3) && Ex.may 16 k.e)
def taB (t:Ta):Bool:=nameB t.name && (eachB 1 4 keB t.keys.l && (eachB 1 16 nameB t.actions.l && (nameB t.dflt.name && eachB 0 8 ltB t.dflt.args.l)))
def zeroEx:Ex:=.mk 0 ⟨0,0,0⟩ ⟨#[]⟩ ⟨#[]⟩ 0 0 none 0 []
def St.fits (s:St):Bool:=nmB s.head (tHead s.kind) && (nmB s.name (tName s.kind) && (tBlocks s.kind || (((s.thn.length:Int) == 0) && ((s.els.length:Int) == 0))))
def St.one (s:St):Bool:=tIs s.kind && (s.fits && (if tExpr s.kind then Ex.may 16 s.e else s.e.same zeroEx))
def St.mayB:Nat→List St→Bool
 | 0,l=>((l.length:Int) == 0)
 | n+1,l=>eachB 0 32 (fun s=>s.one && (St.mayB n s.thn && St.mayB n s.els)) l
def acB (a:Ac):Bool:=nameB a.name && (eachB 0 8 fdB a.params.l && St.mayB 8 a.body.l)
theorem zeroEx_in (w:World):zeroEx.In w:=by
 refine .mk _ (by decide) ⟨by decide,by decide,by decide⟩ (by decide) (by decide) (Nat.zero_le _) (Nat.zero_le _) (Nat.zero_le _) (Nat.zero_le _) (fun i x h=>by simp [zeroEx,Ex.args] at h) (fun x h=>by simp [zeroEx,Ex.args] at h)
theorem set_in (s:Se) (m1 m2 m3:Nat) (w:World) (h:s.In w) (hm:FormsIn w m1 m2 m3):Kp Tryz.prog w 215 #[fmV m1 m2 m3,.agg s.cells.toArray] (.bool (seB s)) :=
 mayset_of m1 m2 m3 s.kind s.v.w s.v.h s.v.l s.m.w s.m.h s.m.l _ _ _ _ w (fun W z hW=>look_s W m2 (hW ▸ hm.s.plus z) s.kind)
  (setfits_of _ _ s.kind s.v.w s.v.h s.v.l s.m.w s.m.h s.m.l _ _ w (litfits_in s.v _ w h.v) (litfits_in s.m _ w h.m))
theorem branch_in (c:Ca) (n:Int) (m1 m2 m3:Nat) (w:World) (h:c.In w) (hz:c.sz≤1048576) (hm:FormsIn w m1 m2 m3):Kp Tryz.prog w 193 #[fmV m1 m2 m3,.agg c.cells.toArray,.int .i64 n] (.bool (caB n c)):=by
 unfold Ca.sz at hz
 have ht:=target_in c.to w (by omega)
 have hl:c.sets.l.length≤1048576:=len_le Se.sz (fun _=>Nat.le_refl _) c.sets (by omega)
 have hE:=fun lo hi=>each_Set Se.cells shp_se seB 215 #[fmV m1 m2 m3] #[] _ w c.sets lo hi h.sets hl (enters_of Tryz.func215 (by kernel_rfl) rfl) (fun x hx=>set_in x m1 m2 m3 w (h.sets.kids x hx) hm)
 obtain⟨d,sets,tgt⟩:=c
 cases d with
 | true=>exact branch_true m1 m2 m3 sets.p sets.l.length sets.cap tgt n _ _ w ht (hE 0 0)
 | false=>exact branch_false m1 m2 m3 sets.p sets.l.length sets.cap tgt n _ _ w ht (hE n n)
theorem names_in (L:Sl ByteArray) (lo hi:Int) (w:World) (h:L.In w 1 strCells strOk) (hz:L.size strSize≤1048576):Kp Tryz.prog w 64 #[L.v,.int .i64 lo,.int .i64 hi,.func (.func 65) #[] #[]] (.bool (eachB lo hi nameB L.l)) :=
 each_string nameB 65 #[] #[] _ w L lo hi h (strSize_le _ hz) (enters_of Tryz.func65 (by kernel_rfl) rfl) (fun x hx=>name_in x w (by have:=one_sz hz hx;unfold strSize at this;omega))
theorem fields_in (L:Sl Fd) (lo hi:Int) (w:World) (h:L.In w 2 Fd.cells (Fd.In w)) (hz:L.size Fd.sz≤1048576):Kp Tryz.prog w 55 #[L.v,.int .i64 lo,.int .i64 hi,.func (.func 56) #[] #[]] (.bool (eachB lo hi fdB L.l)) :=
 each_Field Fd.cells shp_fd fdB 56 #[] #[] _ w L lo hi h (len_le Fd.sz Fd.sz_pos _ hz) (enters_of Tryz.func56 (by kernel_rfl) rfl) (fun x hx=>field_in x w (one_sz hz hx))
theorem header_in (h:Hr) (w:World) (hi:h.In w) (hz:h.sz≤1048576):Kp Tryz.prog w 54 #[.agg h.cells.toArray] (.bool (hrB h)):=by
 unfold Hr.sz at hz
 exact mayhdr_of h.name h.fields.p h.fields.l.length h.fields.cap _ _ w (name_in h.name w (by omega)) (fields_in h.fields 1 16 w hi.fields (by omega))
theorem exprs_in (L:Sl Ex) (lo hi:Int) (m1 m2 m3:Nat) (w:World) (h:L.In w 9 Ex.cells (Ex.In w)) (hz:L.size Ex.wt≤1048576) (hm:FormsIn w m1 m2 m3):Kp Tryz.prog w 188 #[L.v,.int .i64 lo,.int .i64 hi,.func (.func 124) #[fmV m1 m2 m3] #[]] (.bool (eachB lo hi (Ex.may 16) L.l)) :=
 each_Expr Ex.cells shp_ex (Ex.may 16) 124 #[fmV m1 m2 m3] #[] _ w L lo hi h (len_le Ex.wt Ex.wt_pos _ hz) (enters_of Tryz.func124 (by kernel_rfl) rfl) (fun x hx=>ast_expr x m1 (some m2) (some m3) w (h.kids x hx) (one_sz hz hx) hm.x)
theorem trans_in (s:Sa) (m1 m2 m3:Nat) (w:World) (h:s.In w) (hz:s.sz≤1048576) (hm:FormsIn w m1 m2 m3):Kp Tryz.prog w 132 #[fmV m1 m2 m3,.agg s.cells.toArray] (.bool (saT s)):=by
 unfold Sa.sz at hz
 unfold saT
 cases ht:(s.to.toList == []) with
 | false =>
  exact trans_to m1 m2 m3 s.name s.takes.p s.takes.l.length s.takes.cap s.to s.keys.p s.keys.l.length s.keys.cap s.cases.p s.cases.l.length s.cases.cap _ w ht (target_in s.to w (by omega))
 | true =>
  have hc:s.cases.size Ca.sz≤1048576:=by omega
  refine trans_keys m1 m2 m3 s.name s.takes.p s.takes.l.length s.takes.cap s.to s.keys.p s.keys.l.length s.keys.cap s.cases.p s.cases.l.length s.cases.cap _ _ w ht (exprs_in s.keys 1 4 m1 m2 m3 w h.keys (by omega) hm) ?_
  intro W z fb sb hW hf hs
  have hC:Sl.In W 3 Ca.cells (Ca.In W) s.cases:=hW ▸ h.cases.plus (fun _ a=>a.plus z) z
  have hm':FormsIn W m1 m2 m3:=hW ▸ hm.plus z
  exact each_Case Ca.cells shp_ca (caB (s.keys.l.length:Int)) 192 #[] #[.pointer (some ⟨fb,0,none⟩),.pointer (some ⟨sb,0,none⟩)] _ W s.cases 1 16 hC (len_le Ca.sz sz_pos_ca _ hc) (enters_of Tryz.func192 (by kernel_rfl) rfl)
   (fun x hx=>trans1_of m1 m2 m3 x.dflt x.sets.p x.sets.l.length x.sets.cap x.to fb sb s.keys.p s.keys.l.length s.keys.cap _ W (hf 0 _ rfl) (hf 1 _ rfl) (hf 2 _ rfl) hs (branch_in x _ m1 m2 m3 W (hC.kids x hx) (one_sz hc hx) hm'))
theorem state_in (s:Sa) (m1 m2 m3:Nat) (w:World) (h:s.In w) (hz:s.sz≤1048576) (hm:FormsIn w m1 m2 m3):Kp Tryz.prog w 58 #[fmV m1 m2 m3,.agg s.cells.toArray] (.bool (saB s)):=by
 have hT:=trans_in s m1 m2 m3 w h hz hm
 unfold Sa.sz at hz
 exact maystate_of m1 m2 m3 s.name s.takes.p s.takes.l.length s.takes.cap s.to s.keys.p s.keys.l.length s.keys.cap s.cases.p s.cases.l.length s.cases.cap _ _ _ w (name_in s.name w (by omega)) (names_in s.takes 0 8 w h.takes (by omega)) hT
theorem key_in (k:Ke) (m1 m2 m3:Nat) (w:World) (h:k.In w) (hz:k.sz≤1048576) (hm:FormsIn w m1 m2 m3):Kp Tryz.prog w 134 #[fmV m1 m2 m3,.agg k.cells.toArray] (.bool (keB k)):=by
 unfold Ke.sz at hz
 exact maykey_of m1 m2 m3 k.e.op k.e.lit.w k.e.lit.h k.e.lit.l k.e.head k.e.name k.e.hi k.e.lo k.e.p k.e.args.length k.e.cap k.kind _ w (ast_expr k.e m1 (some m2) (some m3) w h.e (by omega) hm.x)
theorem table_in (t:Ta) (m1 m2 m3:Nat) (w:World) (h:t.In w) (hz:t.sz≤1048576) (hm:FormsIn w m1 m2 m3):Kp Tryz.prog w 62 #[fmV m1 m2 m3,.agg t.cells.toArray] (.bool (taB t)):=by
 unfold Ta.sz Cl.sz at hz
 have hk:t.keys.size Ke.sz≤1048576:=by omega
 exact maytable_of m1 m2 m3 t.name t.keys.p t.keys.l.length t.keys.cap t.actions.p t.actions.l.length t.actions.cap t.dflt.name t.dflt.args.p t.dflt.args.l.length t.dflt.args.cap _ _ _ _ _ w (name_in t.name w (by omega))
  (each_Key Ke.cells shp_ke keB 134 #[fmV m1 m2 m3] #[] _ w t.keys 1 4 h.keys (len_le Ke.sz sz_pos_ke _ hk) (enters_of Tryz.func134 (by kernel_rfl) rfl) (fun x hx=>key_in x m1 m2 m3 w (h.keys.kids x hx) (one_sz hk hx) hm))
  (names_in t.actions 1 16 w h.actions (by omega)) (name_in t.dflt.name w (by omega))
  (each_Lit Lt.cells shp_lt ltB 136 #[] #[] _ w t.dflt.args 0 8 h.dflt.args (lt_sz _ (by omega)) (enters_of Tryz.func136 (by kernel_rfl) rfl) (fun x hx=>lit_in x w (h.dflt.args.kids x hx)))
theorem stmt_in (s:St) (m1 m2 m3:Nat) (w:World) (h:s.In w) (hz:s.sz≤1048576) (hm:FormsIn w m1 m2 m3):Kp Tryz.prog w 140 #[fmV m1 m2 m3,.agg s.cells.toArray] (.bool s.one):=by
 have e1:=St.sz_eq s
 have hE:=h.inE
 exact maystmt_of m1 m2 m3 s.kind s.head s.name s.e.op s.e.lit.w s.e.lit.h s.e.lit.l s.e.head s.e.name s.e.hi s.e.lo s.e.p s.e.args.length s.e.cap s.p s.thn.length s.cap s.q s.els.length s.cbp _ _ _ _ _ _ _ _ w (fun W z hW=>look_t W m3 (hW ▸ hm.t.plus z) s.kind)
  (stmtfits_of _ _ _ _ s.kind s.head s.name s.e.op s.e.lit.w s.e.lit.h s.e.lit.l s.e.head s.e.name s.e.hi s.e.lo s.e.p s.e.args.length s.e.cap s.p s.thn.length s.cap s.q s.els.length s.cbp _ _ w (namefits_in s.head _ w (by omega)) (namefits_in s.name _ w (by omega)))
  (ast_sameExpr s.e zeroEx w hE (zeroEx_in w) (by omega)) (ast_expr s.e m1 (some m2) (some m3) w hE (by omega) hm.x)
theorem block1_in:∀ (n:Nat),n≤8→∀ (L:Sl St) (w:World) (fb c m1 m2 m3:Nat),L.In w 14 St.cells (St.In w)→L.size St.sz≤1048576→FormsIn w m1 m2 m3→(∀ j v,(#[.map (some m1),.map (some m2),.map (some m3)]:Array Value)[j]?=some v→w.cell? ⟨fb,j,none⟩=some v)→w.cell? ⟨c,0,none⟩=some (fv_block fb c) →
  Kp Tryz.prog w 137 #[L.v,.int .i64 (n:Int),.pointer (some ⟨fb,0,none⟩),.pointer (some ⟨c,0,none⟩)] (.bool (St.mayB n L.l))
 | 0,_,L,w,fb,c,m1,m2,m3,hin,hz,hm,hf,hc=>block1_none L.p L.l.length L.cap fb c w
 | n+1,hn,L,w,fb,c,m1,m2,m3,hin,hz,hm,hf,hc=>by
  refine block1_some L.p L.l.length L.cap fb c ((n+1:Nat):Int) _ w (by first|(simp;done)|(simp;omega)) ?_
  intro W z rc hW hr
  have hL:L.In W 14 St.cells (St.In W):=hW ▸ hin.plus (fun _ a=>a.plus z) z
  have hc':W.cell? ⟨c,0,none⟩=some (fv_block fb c):=hW ▸ cell_keep hc z
  have hf':∀ j v,(#[.map (some m1),.map (some m2),.map (some m3)]:Array Value)[j]?=some v→W.cell? ⟨fb,j,none⟩=some v:=fun j v hj=>hW ▸ cell_keep (hf j v hj) z
  have hm':FormsIn W m1 m2 m3:=hW ▸ hm.plus z
  exact each_Stmt St.cells shp_st (fun s=>s.one && (St.mayB n s.thn && St.mayB n s.els)) 139 #[] #[.pointer (some ⟨fb,0,none⟩),.pointer (some ⟨c,0,none⟩),.pointer (some ⟨rc,0,none⟩)] (St.In W) W L 0 32 hL (len_le St.sz St.sz_pos _ hz) (enters_of Tryz.func139 (by kernel_rfl) rfl)
   (fun s hs=>by
    have hsz:=one_sz hz hs
    have e1:=St.sz_eq s
    have hi:=hL.kids s hs
    exact stmt11_of m1 m2 m3 s.kind s.head s.name s.e.op s.e.lit.w s.e.lit.h s.e.lit.l s.e.head s.e.name s.e.hi s.e.lo s.e.p s.e.args.length s.e.cap s.p s.thn.length s.cap s.q s.els.length s.cbp fb c rc ((n+1:Nat):Int) (n:Int) _ _ _ W (hf' 0 _ rfl) (hf' 1 _ rfl) (hf' 2 _ rfl) hc' hr (by rw [wr_in _ (by omega)];omega)
     (stmt_in s m1 m2 m3 W hi hsz hm') (block1_in n (by omega) s.thnS W fb c m1 m2 m3 hi.inThn (show (s.thn.map St.sz).sum≤_ by omega) hm' hf' hc') (block1_in n (by omega) s.elsS W fb c m1 m2 m3 hi.inEls (show (s.els.map St.sz).sum≤_ by omega) hm' hf' hc'))
theorem mayblock_in (L:Sl St) (m1 m2 m3:Nat) (w:World) (h:L.In w 14 St.cells (St.In w)) (hz:L.size St.sz≤1048576) (hm:FormsIn w m1 m2 m3):Kp Tryz.prog w 63 #[fmV m1 m2 m3,L.v] (.bool (St.mayB 8 L.l)) :=
 block_of m1 m2 m3 L.p L.l.length L.cap _ w (fun W z fb c hW hf hc=>block1_in 8 (Nat.le_refl _) L W fb c m1 m2 m3 (hW ▸ h.plus (fun _ a=>a.plus z) z) hz (hW ▸ hm.plus z) hf hc)
theorem action_in (a:Ac) (m1 m2 m3:Nat) (w:World) (h:a.In w) (hz:a.sz≤1048576) (hm:FormsIn w m1 m2 m3):Kp Tryz.prog w 60 #[fmV m1 m2 m3,.agg a.cells.toArray] (.bool (acB a)):=by
 unfold Ac.sz at hz
 exact mayaction_of m1 m2 m3 a.name a.params.p a.params.l.length a.params.cap a.body.p a.body.l.length a.body.cap _ _ _ w (name_in a.name w (by omega)) (fields_in a.params 0 8 w h.params (by omega)) (mayblock_in a.body m1 m2 m3 w h.body (by omega) hm)
theorem MapAt.set {w:World} {r:Nat} {es:Array MapEntry} (h:MapAt w r es) (b o:Nat) (v:Value) (hr:r≠b):MapAt (w.setCell ⟨b,o,none⟩ v) r es:=by
 obtain⟨n,h⟩:=h
 exact⟨n,by rw [Below.heap_setCell w ⟨b,o,none⟩ v r hr];exact h⟩
theorem map_after {W w1 w':World} {es:Array MapEntry} {n:Nat} (h:∃ y,w1=plus W y) (hw:w'=w1.alloc (.map es n)):∃ x,w'=plus W x∧MapAt w' w1.heap.size es∧W.heap.size≤w1.heap.size∧∀ r es',MapAt w1 r es'→MapAt w' r es':=by
 obtain⟨y,rfl⟩:=h
 subst hw
 obtain⟨x,hx⟩:=plus_alloc1 W y (.map es n)
 exact⟨_,hx,⟨n,by show ((plus W y).heap.push _)[(plus W y).heap.size]?=_;simp⟩,size_plus W y,fun r es' h=>h.alloc _⟩
set_option maxRecDepth 100000 in
set_option maxHeartbeats 8000000 in
theorem ast_allForms (V:World):Calls Tryz.prog 52 #[] V fun e w'=>∃ m1 m2 m3,e=.returned (fmV m1 m2 m3)∧(∃ x,w'=plus V x)∧FormsIn w' m1 m2 m3:=by
 go_enter Tryz.func52,Tryz.ntmps52
 go_wp2_with fail
 obtain⟨W,hW,hB,hs,ca,fa⟩:=box1 V _ 117
 rw [← hW]
 have ca0:=ca 0 _ rfl
 have ca1:=ca 1 _ rfl
 have ca2:=ca 2 _ rfl
 have hB':=Lib.hid hB
 have hs':=Lib.hid hs
 clear hW hB ca hs
 refine (forms_X _).mono ?_
 rintro r w' ⟨rfl,hw⟩
 obtain⟨x,rfl,hm1,hl1,_⟩:=map_after (W:=W) ⟨⟨#[],W.drawn⟩,(plus_self W).symm⟩ hw
 clear hw
 have hm1:=Lib.hid hm1
 have hl1:=Lib.hid hl1
 go_wp2_with (first|(go_at_call 129;refine (forms_S _).mono ?_;rintro r w' ⟨rfl,hw⟩;obtain⟨x2,rfl,hm2,hl2,hk2⟩:=map_after (W:=W) ⟨x,rfl⟩ hw;have hm2:=Lib.hid hm2;have hl2:=Lib.hid hl2;have hk2:=Lib.hid hk2;clear hw)|(go_at_call 130;refine (forms_T _).mono ?_;rintro r w' ⟨rfl,hw⟩;obtain⟨x3,rfl,hm3,hl3,hk3⟩:=map_after (W:=W) ⟨x2,rfl⟩ hw;have hm3:=Lib.hid hm3;have hl3:=Lib.hid hl3;have hk3:=Lib.hid hk3;clear hw))
 refine bodyPost_ret (v:=fmV W.heap.size (plus W x).heap.size (plus W x2).heap.size) (by simp [results,Tryz.results52,go_sem,ca0,ca1,ca2]) rfl ⟨_,_,_,rfl,?_,?_⟩
 ·exact plus_of_below ((((hB'.out.trans ((below_plus W x3).mono hB'.out.size)).setCell (Nat.le_refl _) _).setCell (Nat.le_refl _) _).setCell (Nat.le_refl _) _)
 ·have s0:=hs'.out
  have s2:=hl2.out
  have s3:=hl3.out
  exact⟨(((hk3.out _ _ (hk2.out _ _ hm1.out)).set _ _ _ (by omega)).set _ _ _ (by omega)).set _ _ _ (by omega),(((hk3.out _ _ hm2.out).set _ _ _ (by omega)).set _ _ _ (by omega)).set _ _ _ (by omega),((hm3.out.set _ _ _ (by omega)).set _ _ _ (by omega)).set _ _ _ (by omega)⟩
set_option maxRecDepth 100000 in
set_option maxHeartbeats 8000000 in
theorem may_of (a0p:Option Addr) (a0n:Nat) (a0c:Nat) (a1p:Option Addr) (a1n:Nat) (a1c:Nat) (a2p:Option Addr) (a2n:Nat) (a2c:Nat) (a3p:Option Addr) (a3n:Nat) (a3c:Nat) (a4p:Option Addr) (a4n:Nat) (a4c:Nat) (a5p:Option Addr) (a5n:Nat) (a5c:Nat) (a6p:Option Addr) (a6n:Nat) (a6c:Nat) (s0:Bool) (s1:Bool) (s2:Bool) (s3:Bool) (s4:Bool) (s5:Bool) (s6:Bool) (w:World)
  (h0:Kp Tryz.prog w 53 #[.slice a0p a0n a0c,.int .i64 0,.int .i64 8,.func (.func 54) #[] #[]] (.bool s0))
  (h1:Kp Tryz.prog w 55 #[.slice a1p a1n a1c,.int .i64 0,.int .i64 16,.func (.func 56) #[] #[]] (.bool s1))
  (h2:∀ W z m1 m2 m3,W=plus w z→FormsIn W m1 m2 m3→Kp Tryz.prog W 57 #[.slice a2p a2n a2c,.int .i64 1,.int .i64 16,.func (.func 58) #[.agg #[.map (some m1),.map (some m2),.map (some m3)]] #[]] (.bool s2))
  (h3:∀ W z m1 m2 m3,W=plus w z→FormsIn W m1 m2 m3→Kp Tryz.prog W 59 #[.slice a3p a3n a3c,.int .i64 0,.int .i64 16,.func (.func 60) #[.agg #[.map (some m1),.map (some m2),.map (some m3)]] #[]] (.bool s3))
  (h4:∀ W z m1 m2 m3,W=plus w z→FormsIn W m1 m2 m3→Kp Tryz.prog W 61 #[.slice a4p a4n a4c,.int .i64 0,.int .i64 8,.func (.func 62) #[.agg #[.map (some m1),.map (some m2),.map (some m3)]] #[]] (.bool s4))
  (h5:∀ W z m1 m2 m3,W=plus w z→FormsIn W m1 m2 m3→Kp Tryz.prog W 63 #[.agg #[.map (some m1),.map (some m2),.map (some m3)],.slice a5p a5n a5c] (.bool s5))
  (h6:Kp Tryz.prog w 64 #[.slice a6p a6n a6c,.int .i64 0,.int .i64 8,.func (.func 65) #[] #[]] (.bool s6)) :
  Kp Tryz.prog w 29 #[.agg #[.slice a0p a0n a0c,.slice a1p a1n a1c,.slice a2p a2n a2c,.slice a3p a3n a3c,.slice a4p a4n a4c,.slice a5p a5n a5c,.slice a6p a6n a6c]] (.bool (((s0) && ((s1) && ((s2) && ((s3) && ((s4) && ((s5) && (s6))))))))):=by
 intro y0
 have h0:=h0.up y0
 have h1:=h1.up y0
 have h2:∀ W z m1 m2 m3,W=plus ((plus w y0)) z→FormsIn W m1 m2 m3→Kp Tryz.prog W 57 #[.slice a2p a2n a2c,.int .i64 1,.int .i64 16,.func (.func 58) #[.agg #[.map (some m1),.map (some m2),.map (some m3)]] #[]] (.bool s2):=fun W z m1 m2 m3 hW=>h2 W _ m1 m2 m3 (hW.trans (plus_plus _ _ _))
 have h3:∀ W z m1 m2 m3,W=plus ((plus w y0)) z→FormsIn W m1 m2 m3→Kp Tryz.prog W 59 #[.slice a3p a3n a3c,.int .i64 0,.int .i64 16,.func (.func 60) #[.agg #[.map (some m1),.map (some m2),.map (some m3)]] #[]] (.bool s3):=fun W z m1 m2 m3 hW=>h3 W _ m1 m2 m3 (hW.trans (plus_plus _ _ _))
 have h4:∀ W z m1 m2 m3,W=plus ((plus w y0)) z→FormsIn W m1 m2 m3→Kp Tryz.prog W 61 #[.slice a4p a4n a4c,.int .i64 0,.int .i64 8,.func (.func 62) #[.agg #[.map (some m1),.map (some m2),.map (some m3)]] #[]] (.bool s4):=fun W z m1 m2 m3 hW=>h4 W _ m1 m2 m3 (hW.trans (plus_plus _ _ _))
 have h5:∀ W z m1 m2 m3,W=plus ((plus w y0)) z→FormsIn W m1 m2 m3→Kp Tryz.prog W 63 #[.agg #[.map (some m1),.map (some m2),.map (some m3)],.slice a5p a5n a5c] (.bool s5):=fun W z m1 m2 m3 hW=>h5 W _ m1 m2 m3 (hW.trans (plus_plus _ _ _))
 have h6:=h6.up y0
 obtain⟨V,hV⟩:∃ V,plus w y0=V:=⟨_,rfl⟩
 rw [hV] at h0 h1 h2 h3 h4 h5 h6 ⊢
 clear hV
 have hmf:∀ (fn:Fn) (first cap:Array Value) (w:World),(Instr.makeFunc fn first cap).run Tryz.prog w=.ok (.func fn first cap) w:=fun _ _ _ _=>rfl
 obtain⟨R,hR⟩:∃ R,(((s0) && ((s1) && ((s2) && ((s3) && ((s4) && ((s5) && (s6))))))))=R:=⟨_,rfl⟩
 rw [hR]
 cases s0
 case false =>
  have hF:=Lib.hid hR
  clear hR
  have h0:=Lib.hid h0
  clear h1 h2 h3 h4 h5 h6
  go_enter Tryz.func29,Tryz.ntmps29
  go_wp2_with fail
  obtain⟨W0,yy,hW,⟨z,hz⟩,ca⟩:=box1n V _ 30
  rw [hW]
  have ca0:=ca 0 _ rfl
  have ca1:=ca 1 _ rfl
  have ca2:=ca 2 _ rfl
  have ca3:=ca 3 _ rfl
  have ca4:=ca 4 _ rfl
  have ca5:=ca 5 _ rfl
  have ca6:=ca 6 _ rfl
  have hz2:=Lib.hid hz
  clear hW ca hz
  refine (ast_allForms _).mono ?_
  rintro r w' ⟨m1,m2,m3,rfl,⟨x,hx⟩,hm⟩
  rw [plus_plus] at hx
  obtain⟨x0,rfl⟩:∃ x0,w'=plus W0 x0:=⟨_,hx⟩
  clear hx
  have hm:=Lib.hid hm
  have cx0:=fun a=>cell_alloc (ca0 x0) a
  have cx1:=fun a=>cell_alloc (ca1 x0) a
  have cx2:=fun a=>cell_alloc (ca2 x0) a
  have cx3:=fun a=>cell_alloc (ca3 x0) a
  have cx4:=fun a=>cell_alloc (ca4 x0) a
  have cx5:=fun a=>cell_alloc (ca5 x0) a
  have cx6:=fun a=>cell_alloc (ca6 x0) a
  go_wp2_with fail
  obtain⟨W,y1,hW,⟨z1,hz1⟩,cb⟩:=box1n (plus W0 x0) _ 117
  rw [hW]
  have cb0:=cb 0 _ rfl
  have cb1:=cb 1 _ rfl
  have cb2:=cb 2 _ rfl
  have cp0:=fun y=>cell_keep (cell_at hz1 (ca0 x0)) y
  have cp1:=fun y=>cell_keep (cell_at hz1 (ca1 x0)) y
  have cp2:=fun y=>cell_keep (cell_at hz1 (ca2 x0)) y
  have cp3:=fun y=>cell_keep (cell_at hz1 (ca3 x0)) y
  have cp4:=fun y=>cell_keep (cell_at hz1 (ca4 x0)) y
  have cp5:=fun y=>cell_keep (cell_at hz1 (ca5 x0)) y
  have cp6:=fun y=>cell_keep (cell_at hz1 (ca6 x0)) y
  obtain⟨zz,hzz⟩:∃ zz,W=plus V zz:=⟨_,by rw [hz1,hz2.out,plus_plus,plus_plus]⟩
  have hmW:FormsIn W m1 m2 m3:=hz1 ▸ hm.out.plus z1
  have q0:=Lib.hid (kp_at hzz h0.out)
  have hz':=Lib.hid hzz
  clear hW hz2 hz1 hzz cb hmW hm h0 ca0 cx0 ca1 cx1 ca2 cx2 ca3 cx3 ca4 cx4 ca5 cx5 ca6 cx6
  refine (q0.out _).mono ?_
  rintro r w' ⟨rfl,x1,rfl⟩
  go_wp2_with fail
  go_ret
  exact⟨rb hF.out,pp hz'.out⟩
 cases s1
 case false =>
  have hF:=Lib.hid hR
  clear hR
  have h0:=Lib.hid h0
  have h1:=Lib.hid h1
  clear h2 h3 h4 h5 h6
  go_enter Tryz.func29,Tryz.ntmps29
  go_wp2_with fail
  obtain⟨W0,yy,hW,⟨z,hz⟩,ca⟩:=box1n V _ 30
  rw [hW]
  have ca0:=ca 0 _ rfl
  have ca1:=ca 1 _ rfl
  have ca2:=ca 2 _ rfl
  have ca3:=ca 3 _ rfl
  have ca4:=ca 4 _ rfl
  have ca5:=ca 5 _ rfl
  have ca6:=ca 6 _ rfl
  have hz2:=Lib.hid hz
  clear hW ca hz
  refine (ast_allForms _).mono ?_
  rintro r w' ⟨m1,m2,m3,rfl,⟨x,hx⟩,hm⟩
  rw [plus_plus] at hx
  obtain⟨x0,rfl⟩:∃ x0,w'=plus W0 x0:=⟨_,hx⟩
  clear hx
  have hm:=Lib.hid hm
  have cx0:=fun a=>cell_alloc (ca0 x0) a
  have cx1:=fun a=>cell_alloc (ca1 x0) a
  have cx2:=fun a=>cell_alloc (ca2 x0) a
  have cx3:=fun a=>cell_alloc (ca3 x0) a
  have cx4:=fun a=>cell_alloc (ca4 x0) a
  have cx5:=fun a=>cell_alloc (ca5 x0) a
  have cx6:=fun a=>cell_alloc (ca6 x0) a
  go_wp2_with fail
  obtain⟨W,y1,hW,⟨z1,hz1⟩,cb⟩:=box1n (plus W0 x0) _ 117
  rw [hW]
  have cb0:=cb 0 _ rfl
  have cb1:=cb 1 _ rfl
  have cb2:=cb 2 _ rfl
  have cp0:=fun y=>cell_keep (cell_at hz1 (ca0 x0)) y
  have cp1:=fun y=>cell_keep (cell_at hz1 (ca1 x0)) y
  have cp2:=fun y=>cell_keep (cell_at hz1 (ca2 x0)) y
  have cp3:=fun y=>cell_keep (cell_at hz1 (ca3 x0)) y
  have cp4:=fun y=>cell_keep (cell_at hz1 (ca4 x0)) y
  have cp5:=fun y=>cell_keep (cell_at hz1 (ca5 x0)) y
  have cp6:=fun y=>cell_keep (cell_at hz1 (ca6 x0)) y
  obtain⟨zz,hzz⟩:∃ zz,W=plus V zz:=⟨_,by rw [hz1,hz2.out,plus_plus,plus_plus]⟩
  have hmW:FormsIn W m1 m2 m3:=hz1 ▸ hm.out.plus z1
  have q0:=Lib.hid (kp_at hzz h0.out)
  have q1:=Lib.hid (kp_at hzz h1.out)
  have hz':=Lib.hid hzz
  clear hW hz2 hz1 hzz cb hmW hm h0 h1 ca0 cx0 ca1 cx1 ca2 cx2 ca3 cx3 ca4 cx4 ca5 cx5 ca6 cx6
  refine (q0.out _).mono ?_
  rintro r w' ⟨rfl,x1,rfl⟩
  go_wp2_with (first|(go_at_call 55;with_reducible refine (q1.out _).mono ?_;rintro r w' ⟨rfl,x,rfl⟩))
  go_ret
  exact⟨rb hF.out,pp hz'.out⟩
 cases s2
 case false =>
  have hF:=Lib.hid hR
  clear hR
  have h0:=Lib.hid h0
  have h1:=Lib.hid h1
  have h2:=Lib.hid h2
  clear h3 h4 h5 h6
  go_enter Tryz.func29,Tryz.ntmps29
  go_wp2_with fail
  obtain⟨W0,yy,hW,⟨z,hz⟩,ca⟩:=box1n V _ 30
  rw [hW]
  have ca0:=ca 0 _ rfl
  have ca1:=ca 1 _ rfl
  have ca2:=ca 2 _ rfl
  have ca3:=ca 3 _ rfl
  have ca4:=ca 4 _ rfl
  have ca5:=ca 5 _ rfl
  have ca6:=ca 6 _ rfl
  have hz2:=Lib.hid hz
  clear hW ca hz
  refine (ast_allForms _).mono ?_
  rintro r w' ⟨m1,m2,m3,rfl,⟨x,hx⟩,hm⟩
  rw [plus_plus] at hx
  obtain⟨x0,rfl⟩:∃ x0,w'=plus W0 x0:=⟨_,hx⟩
  clear hx
  have hm:=Lib.hid hm
  have cx0:=fun a=>cell_alloc (ca0 x0) a
  have cx1:=fun a=>cell_alloc (ca1 x0) a
  have cx2:=fun a=>cell_alloc (ca2 x0) a
  have cx3:=fun a=>cell_alloc (ca3 x0) a
  have cx4:=fun a=>cell_alloc (ca4 x0) a
  have cx5:=fun a=>cell_alloc (ca5 x0) a
  have cx6:=fun a=>cell_alloc (ca6 x0) a
  go_wp2_with fail
  obtain⟨W,y1,hW,⟨z1,hz1⟩,cb⟩:=box1n (plus W0 x0) _ 117
  rw [hW]
  have cb0:=cb 0 _ rfl
  have cb1:=cb 1 _ rfl
  have cb2:=cb 2 _ rfl
  have cp0:=fun y=>cell_keep (cell_at hz1 (ca0 x0)) y
  have cp1:=fun y=>cell_keep (cell_at hz1 (ca1 x0)) y
  have cp2:=fun y=>cell_keep (cell_at hz1 (ca2 x0)) y
  have cp3:=fun y=>cell_keep (cell_at hz1 (ca3 x0)) y
  have cp4:=fun y=>cell_keep (cell_at hz1 (ca4 x0)) y
  have cp5:=fun y=>cell_keep (cell_at hz1 (ca5 x0)) y
  have cp6:=fun y=>cell_keep (cell_at hz1 (ca6 x0)) y
  obtain⟨zz,hzz⟩:∃ zz,W=plus V zz:=⟨_,by rw [hz1,hz2.out,plus_plus,plus_plus]⟩
  have hmW:FormsIn W m1 m2 m3:=hz1 ▸ hm.out.plus z1
  have q0:=Lib.hid (kp_at hzz h0.out)
  have q1:=Lib.hid (kp_at hzz h1.out)
  have q2:=Lib.hid ((h2.out W zz m1 m2 m3 hzz hmW).pure)
  have hz':=Lib.hid hzz
  clear hW hz2 hz1 hzz cb hmW hm h0 h1 h2 ca0 cx0 ca1 cx1 ca2 cx2 ca3 cx3 ca4 cx4 ca5 cx5 ca6 cx6
  refine (q0.out _).mono ?_
  rintro r w' ⟨rfl,x1,rfl⟩
  go_wp2_with (first|(go_at_call 55;with_reducible refine (q1.out _).mono ?_;rintro r w' ⟨rfl,x,rfl⟩)|(go_at_call 57;with_reducible refine (q2.out _).mono ?_;rintro r w' ⟨rfl,x,rfl⟩))
  go_ret
  exact⟨rb hF.out,pp hz'.out⟩
 cases s3
 case false =>
  have hF:=Lib.hid hR
  clear hR
  have h0:=Lib.hid h0
  have h1:=Lib.hid h1
  have h2:=Lib.hid h2
  have h3:=Lib.hid h3
  clear h4 h5 h6
  go_enter Tryz.func29,Tryz.ntmps29
  go_wp2_with fail
  obtain⟨W0,yy,hW,⟨z,hz⟩,ca⟩:=box1n V _ 30
  rw [hW]
  have ca0:=ca 0 _ rfl
  have ca1:=ca 1 _ rfl
  have ca2:=ca 2 _ rfl
  have ca3:=ca 3 _ rfl
  have ca4:=ca 4 _ rfl
  have ca5:=ca 5 _ rfl
  have ca6:=ca 6 _ rfl
  have hz2:=Lib.hid hz
  clear hW ca hz
  refine (ast_allForms _).mono ?_
  rintro r w' ⟨m1,m2,m3,rfl,⟨x,hx⟩,hm⟩
  rw [plus_plus] at hx
  obtain⟨x0,rfl⟩:∃ x0,w'=plus W0 x0:=⟨_,hx⟩
  clear hx
  have hm:=Lib.hid hm
  have cx0:=fun a=>cell_alloc (ca0 x0) a
  have cx1:=fun a=>cell_alloc (ca1 x0) a
  have cx2:=fun a=>cell_alloc (ca2 x0) a
  have cx3:=fun a=>cell_alloc (ca3 x0) a
  have cx4:=fun a=>cell_alloc (ca4 x0) a
  have cx5:=fun a=>cell_alloc (ca5 x0) a
  have cx6:=fun a=>cell_alloc (ca6 x0) a
  go_wp2_with fail
  obtain⟨W,y1,hW,⟨z1,hz1⟩,cb⟩:=box1n (plus W0 x0) _ 117
  rw [hW]
  have cb0:=cb 0 _ rfl
  have cb1:=cb 1 _ rfl
  have cb2:=cb 2 _ rfl
  have cp0:=fun y=>cell_keep (cell_at hz1 (ca0 x0)) y
  have cp1:=fun y=>cell_keep (cell_at hz1 (ca1 x0)) y
  have cp2:=fun y=>cell_keep (cell_at hz1 (ca2 x0)) y
  have cp3:=fun y=>cell_keep (cell_at hz1 (ca3 x0)) y
  have cp4:=fun y=>cell_keep (cell_at hz1 (ca4 x0)) y
  have cp5:=fun y=>cell_keep (cell_at hz1 (ca5 x0)) y
  have cp6:=fun y=>cell_keep (cell_at hz1 (ca6 x0)) y
  obtain⟨zz,hzz⟩:∃ zz,W=plus V zz:=⟨_,by rw [hz1,hz2.out,plus_plus,plus_plus]⟩
  have hmW:FormsIn W m1 m2 m3:=hz1 ▸ hm.out.plus z1
  have q0:=Lib.hid (kp_at hzz h0.out)
  have q1:=Lib.hid (kp_at hzz h1.out)
  have q2:=Lib.hid ((h2.out W zz m1 m2 m3 hzz hmW).pure)
  have q3:=Lib.hid ((h3.out W zz m1 m2 m3 hzz hmW).pure)
  have hz':=Lib.hid hzz
  clear hW hz2 hz1 hzz cb hmW hm h0 h1 h2 h3 ca0 cx0 ca1 cx1 ca2 cx2 ca3 cx3 ca4 cx4 ca5 cx5 ca6 cx6
  refine (q0.out _).mono ?_
  rintro r w' ⟨rfl,x1,rfl⟩
  go_wp2_with (first|(go_at_call 55;with_reducible refine (q1.out _).mono ?_;rintro r w' ⟨rfl,x,rfl⟩)|(go_at_call 57;with_reducible refine (q2.out _).mono ?_;rintro r w' ⟨rfl,x,rfl⟩)|(go_at_call 59;with_reducible refine (q3.out _).mono ?_;rintro r w' ⟨rfl,x,rfl⟩))
  go_ret
  exact⟨rb hF.out,pp hz'.out⟩
 cases s4
 case false =>
  have hF:=Lib.hid hR
  clear hR
  have h0:=Lib.hid h0
  have h1:=Lib.hid h1
  have h2:=Lib.hid h2
  have h3:=Lib.hid h3
  have h4:=Lib.hid h4
  clear h5 h6
  go_enter Tryz.func29,Tryz.ntmps29
  go_wp2_with fail
  obtain⟨W0,yy,hW,⟨z,hz⟩,ca⟩:=box1n V _ 30
  rw [hW]
  have ca0:=ca 0 _ rfl
  have ca1:=ca 1 _ rfl
  have ca2:=ca 2 _ rfl
  have ca3:=ca 3 _ rfl
  have ca4:=ca 4 _ rfl
  have ca5:=ca 5 _ rfl
  have ca6:=ca 6 _ rfl
  have hz2:=Lib.hid hz
  clear hW ca hz
  refine (ast_allForms _).mono ?_
  rintro r w' ⟨m1,m2,m3,rfl,⟨x,hx⟩,hm⟩
  rw [plus_plus] at hx
  obtain⟨x0,rfl⟩:∃ x0,w'=plus W0 x0:=⟨_,hx⟩
  clear hx
  have hm:=Lib.hid hm
  have cx0:=fun a=>cell_alloc (ca0 x0) a
  have cx1:=fun a=>cell_alloc (ca1 x0) a
  have cx2:=fun a=>cell_alloc (ca2 x0) a
  have cx3:=fun a=>cell_alloc (ca3 x0) a
  have cx4:=fun a=>cell_alloc (ca4 x0) a
  have cx5:=fun a=>cell_alloc (ca5 x0) a
  have cx6:=fun a=>cell_alloc (ca6 x0) a
  go_wp2_with fail
  obtain⟨W,y1,hW,⟨z1,hz1⟩,cb⟩:=box1n (plus W0 x0) _ 117
  rw [hW]
  have cb0:=cb 0 _ rfl
  have cb1:=cb 1 _ rfl
  have cb2:=cb 2 _ rfl
  have cp0:=fun y=>cell_keep (cell_at hz1 (ca0 x0)) y
  have cp1:=fun y=>cell_keep (cell_at hz1 (ca1 x0)) y
  have cp2:=fun y=>cell_keep (cell_at hz1 (ca2 x0)) y
  have cp3:=fun y=>cell_keep (cell_at hz1 (ca3 x0)) y
  have cp4:=fun y=>cell_keep (cell_at hz1 (ca4 x0)) y
  have cp5:=fun y=>cell_keep (cell_at hz1 (ca5 x0)) y
  have cp6:=fun y=>cell_keep (cell_at hz1 (ca6 x0)) y
  obtain⟨zz,hzz⟩:∃ zz,W=plus V zz:=⟨_,by rw [hz1,hz2.out,plus_plus,plus_plus]⟩
  have hmW:FormsIn W m1 m2 m3:=hz1 ▸ hm.out.plus z1
  have q0:=Lib.hid (kp_at hzz h0.out)
  have q1:=Lib.hid (kp_at hzz h1.out)
  have q2:=Lib.hid ((h2.out W zz m1 m2 m3 hzz hmW).pure)
  have q3:=Lib.hid ((h3.out W zz m1 m2 m3 hzz hmW).pure)
  have q4:=Lib.hid ((h4.out W zz m1 m2 m3 hzz hmW).pure)
  have hz':=Lib.hid hzz
  clear hW hz2 hz1 hzz cb hmW hm h0 h1 h2 h3 h4 ca0 cx0 ca1 cx1 ca2 cx2 ca3 cx3 ca4 cx4 ca5 cx5 ca6 cx6
  refine (q0.out _).mono ?_
  rintro r w' ⟨rfl,x1,rfl⟩
  go_wp2_with (first|(go_at_call 55;with_reducible refine (q1.out _).mono ?_;rintro r w' ⟨rfl,x,rfl⟩)|(go_at_call 57;with_reducible refine (q2.out _).mono ?_;rintro r w' ⟨rfl,x,rfl⟩)|(go_at_call 59;with_reducible refine (q3.out _).mono ?_;rintro r w' ⟨rfl,x,rfl⟩)|(go_at_call 61;with_reducible refine (q4.out _).mono ?_;rintro r w' ⟨rfl,x,rfl⟩))
  go_ret
  exact⟨rb hF.out,pp hz'.out⟩
 cases s5
 case false =>
  have hF:=Lib.hid hR
  clear hR
  have h0:=Lib.hid h0
  have h1:=Lib.hid h1
  have h2:=Lib.hid h2
  have h3:=Lib.hid h3
  have h4:=Lib.hid h4
  have h5:=Lib.hid h5
  clear h6
  go_enter Tryz.func29,Tryz.ntmps29
  go_wp2_with fail
  obtain⟨W0,yy,hW,⟨z,hz⟩,ca⟩:=box1n V _ 30
  rw [hW]
  have ca0:=ca 0 _ rfl
  have ca1:=ca 1 _ rfl
  have ca2:=ca 2 _ rfl
  have ca3:=ca 3 _ rfl
  have ca4:=ca 4 _ rfl
  have ca5:=ca 5 _ rfl
  have ca6:=ca 6 _ rfl
  have hz2:=Lib.hid hz
  clear hW ca hz
  refine (ast_allForms _).mono ?_
  rintro r w' ⟨m1,m2,m3,rfl,⟨x,hx⟩,hm⟩
  rw [plus_plus] at hx
  obtain⟨x0,rfl⟩:∃ x0,w'=plus W0 x0:=⟨_,hx⟩
  clear hx
  have hm:=Lib.hid hm
  have cx0:=fun a=>cell_alloc (ca0 x0) a
  have cx1:=fun a=>cell_alloc (ca1 x0) a
  have cx2:=fun a=>cell_alloc (ca2 x0) a
  have cx3:=fun a=>cell_alloc (ca3 x0) a
  have cx4:=fun a=>cell_alloc (ca4 x0) a
  have cx5:=fun a=>cell_alloc (ca5 x0) a
  have cx6:=fun a=>cell_alloc (ca6 x0) a
  go_wp2_with fail
  obtain⟨W,y1,hW,⟨z1,hz1⟩,cb⟩:=box1n (plus W0 x0) _ 117
  rw [hW]
  have cb0:=cb 0 _ rfl
  have cb1:=cb 1 _ rfl
  have cb2:=cb 2 _ rfl
  have cp0:=fun y=>cell_keep (cell_at hz1 (ca0 x0)) y
  have cp1:=fun y=>cell_keep (cell_at hz1 (ca1 x0)) y
  have cp2:=fun y=>cell_keep (cell_at hz1 (ca2 x0)) y
  have cp3:=fun y=>cell_keep (cell_at hz1 (ca3 x0)) y
  have cp4:=fun y=>cell_keep (cell_at hz1 (ca4 x0)) y
  have cp5:=fun y=>cell_keep (cell_at hz1 (ca5 x0)) y
  have cp6:=fun y=>cell_keep (cell_at hz1 (ca6 x0)) y
  obtain⟨zz,hzz⟩:∃ zz,W=plus V zz:=⟨_,by rw [hz1,hz2.out,plus_plus,plus_plus]⟩
  have hmW:FormsIn W m1 m2 m3:=hz1 ▸ hm.out.plus z1
  have q0:=Lib.hid (kp_at hzz h0.out)
  have q1:=Lib.hid (kp_at hzz h1.out)
  have q2:=Lib.hid ((h2.out W zz m1 m2 m3 hzz hmW).pure)
  have q3:=Lib.hid ((h3.out W zz m1 m2 m3 hzz hmW).pure)
  have q4:=Lib.hid ((h4.out W zz m1 m2 m3 hzz hmW).pure)
  have q5:=Lib.hid ((h5.out W zz m1 m2 m3 hzz hmW).pure)
  have hz':=Lib.hid hzz
  clear hW hz2 hz1 hzz cb hmW hm h0 h1 h2 h3 h4 h5 ca0 cx0 ca1 cx1 ca2 cx2 ca3 cx3 ca4 cx4 ca5 cx5 ca6 cx6
  refine (q0.out _).mono ?_
  rintro r w' ⟨rfl,x1,rfl⟩
  go_wp2_with (first|(go_at_call 55;with_reducible refine (q1.out _).mono ?_;rintro r w' ⟨rfl,x,rfl⟩)|(go_at_call 57;with_reducible refine (q2.out _).mono ?_;rintro r w' ⟨rfl,x,rfl⟩)|(go_at_call 59;with_reducible refine (q3.out _).mono ?_;rintro r w' ⟨rfl,x,rfl⟩)|(go_at_call 61;with_reducible refine (q4.out _).mono ?_;rintro r w' ⟨rfl,x,rfl⟩)|(go_at_call 63;with_reducible refine (q5.out _).mono ?_;rintro r w' ⟨rfl,x,rfl⟩))
  go_ret
  exact⟨rb hF.out,pp hz'.out⟩
 cases s6
 case false =>
  have hF:=Lib.hid hR
  clear hR
  have h0:=Lib.hid h0
  have h1:=Lib.hid h1
  have h2:=Lib.hid h2
  have h3:=Lib.hid h3
  have h4:=Lib.hid h4
  have h5:=Lib.hid h5
  have h6:=Lib.hid h6
  go_enter Tryz.func29,Tryz.ntmps29
  go_wp2_with fail
  obtain⟨W0,yy,hW,⟨z,hz⟩,ca⟩:=box1n V _ 30
  rw [hW]
  have ca0:=ca 0 _ rfl
  have ca1:=ca 1 _ rfl
  have ca2:=ca 2 _ rfl
  have ca3:=ca 3 _ rfl
  have ca4:=ca 4 _ rfl
  have ca5:=ca 5 _ rfl
  have ca6:=ca 6 _ rfl
  have hz2:=Lib.hid hz
  clear hW ca hz
  refine (ast_allForms _).mono ?_
  rintro r w' ⟨m1,m2,m3,rfl,⟨x,hx⟩,hm⟩
  rw [plus_plus] at hx
  obtain⟨x0,rfl⟩:∃ x0,w'=plus W0 x0:=⟨_,hx⟩
  clear hx
  have hm:=Lib.hid hm
  have cx0:=fun a=>cell_alloc (ca0 x0) a
  have cx1:=fun a=>cell_alloc (ca1 x0) a
  have cx2:=fun a=>cell_alloc (ca2 x0) a
  have cx3:=fun a=>cell_alloc (ca3 x0) a
  have cx4:=fun a=>cell_alloc (ca4 x0) a
  have cx5:=fun a=>cell_alloc (ca5 x0) a
  have cx6:=fun a=>cell_alloc (ca6 x0) a
  go_wp2_with fail
  obtain⟨W,y1,hW,⟨z1,hz1⟩,cb⟩:=box1n (plus W0 x0) _ 117
  rw [hW]
  have cb0:=cb 0 _ rfl
  have cb1:=cb 1 _ rfl
  have cb2:=cb 2 _ rfl
  have cp0:=fun y=>cell_keep (cell_at hz1 (ca0 x0)) y
  have cp1:=fun y=>cell_keep (cell_at hz1 (ca1 x0)) y
  have cp2:=fun y=>cell_keep (cell_at hz1 (ca2 x0)) y
  have cp3:=fun y=>cell_keep (cell_at hz1 (ca3 x0)) y
  have cp4:=fun y=>cell_keep (cell_at hz1 (ca4 x0)) y
  have cp5:=fun y=>cell_keep (cell_at hz1 (ca5 x0)) y
  have cp6:=fun y=>cell_keep (cell_at hz1 (ca6 x0)) y
  obtain⟨zz,hzz⟩:∃ zz,W=plus V zz:=⟨_,by rw [hz1,hz2.out,plus_plus,plus_plus]⟩
  have hmW:FormsIn W m1 m2 m3:=hz1 ▸ hm.out.plus z1
  have q0:=Lib.hid (kp_at hzz h0.out)
  have q1:=Lib.hid (kp_at hzz h1.out)
  have q2:=Lib.hid ((h2.out W zz m1 m2 m3 hzz hmW).pure)
  have q3:=Lib.hid ((h3.out W zz m1 m2 m3 hzz hmW).pure)
  have q4:=Lib.hid ((h4.out W zz m1 m2 m3 hzz hmW).pure)
  have q5:=Lib.hid ((h5.out W zz m1 m2 m3 hzz hmW).pure)
  have q6:=Lib.hid (kp_at hzz h6.out)
  have hz':=Lib.hid hzz
  clear hW hz2 hz1 hzz cb hmW hm h0 h1 h2 h3 h4 h5 h6 ca0 cx0 ca1 cx1 ca2 cx2 ca3 cx3 ca4 cx4 ca5 cx5 ca6 cx6
  refine (q0.out _).mono ?_
  rintro r w' ⟨rfl,x1,rfl⟩
  go_wp2_with (first|(go_at_call 55;with_reducible refine (q1.out _).mono ?_;rintro r w' ⟨rfl,x,rfl⟩)|(go_at_call 57;with_reducible refine (q2.out _).mono ?_;rintro r w' ⟨rfl,x,rfl⟩)|(go_at_call 59;with_reducible refine (q3.out _).mono ?_;rintro r w' ⟨rfl,x,rfl⟩)|(go_at_call 61;with_reducible refine (q4.out _).mono ?_;rintro r w' ⟨rfl,x,rfl⟩)|(go_at_call 63;with_reducible refine (q5.out _).mono ?_;rintro r w' ⟨rfl,x,rfl⟩)|(go_at_call 64;with_reducible refine (q6.out _).mono ?_;rintro r w' ⟨rfl,x,rfl⟩))
  go_ret
  exact⟨rb hF.out,pp hz'.out⟩
 have hF:=Lib.hid hR
 clear hR
 have h0:=Lib.hid h0
 have h1:=Lib.hid h1
 have h2:=Lib.hid h2
 have h3:=Lib.hid h3
 have h4:=Lib.hid h4
 have h5:=Lib.hid h5
 have h6:=Lib.hid h6
 go_enter Tryz.func29,Tryz.ntmps29
 go_wp2_with fail
 obtain⟨W0,yy,hW,⟨z,hz⟩,ca⟩:=box1n V _ 30
 rw [hW]
 have ca0:=ca 0 _ rfl
 have ca1:=ca 1 _ rfl
 have ca2:=ca 2 _ rfl
 have ca3:=ca 3 _ rfl
 have ca4:=ca 4 _ rfl
 have ca5:=ca 5 _ rfl
 have ca6:=ca 6 _ rfl
 have hz2:=Lib.hid hz
 clear hW ca hz
 refine (ast_allForms _).mono ?_
 rintro r w' ⟨m1,m2,m3,rfl,⟨x,hx⟩,hm⟩
 rw [plus_plus] at hx
 obtain⟨x0,rfl⟩:∃ x0,w'=plus W0 x0:=⟨_,hx⟩
 clear hx
 have hm:=Lib.hid hm
 have cx0:=fun a=>cell_alloc (ca0 x0) a
 have cx1:=fun a=>cell_alloc (ca1 x0) a
 have cx2:=fun a=>cell_alloc (ca2 x0) a
 have cx3:=fun a=>cell_alloc (ca3 x0) a
 have cx4:=fun a=>cell_alloc (ca4 x0) a
 have cx5:=fun a=>cell_alloc (ca5 x0) a
 have cx6:=fun a=>cell_alloc (ca6 x0) a
 go_wp2_with fail
 obtain⟨W,y1,hW,⟨z1,hz1⟩,cb⟩:=box1n (plus W0 x0) _ 117
 rw [hW]
 have cb0:=cb 0 _ rfl
 have cb1:=cb 1 _ rfl
 have cb2:=cb 2 _ rfl
 have cp0:=fun y=>cell_keep (cell_at hz1 (ca0 x0)) y
 have cp1:=fun y=>cell_keep (cell_at hz1 (ca1 x0)) y
 have cp2:=fun y=>cell_keep (cell_at hz1 (ca2 x0)) y
 have cp3:=fun y=>cell_keep (cell_at hz1 (ca3 x0)) y
 have cp4:=fun y=>cell_keep (cell_at hz1 (ca4 x0)) y
 have cp5:=fun y=>cell_keep (cell_at hz1 (ca5 x0)) y
 have cp6:=fun y=>cell_keep (cell_at hz1 (ca6 x0)) y
 obtain⟨zz,hzz⟩:∃ zz,W=plus V zz:=⟨_,by rw [hz1,hz2.out,plus_plus,plus_plus]⟩
 have hmW:FormsIn W m1 m2 m3:=hz1 ▸ hm.out.plus z1
 have q0:=Lib.hid (kp_at hzz h0.out)
 have q1:=Lib.hid (kp_at hzz h1.out)
 have q2:=Lib.hid ((h2.out W zz m1 m2 m3 hzz hmW).pure)
 have q3:=Lib.hid ((h3.out W zz m1 m2 m3 hzz hmW).pure)
 have q4:=Lib.hid ((h4.out W zz m1 m2 m3 hzz hmW).pure)
 have q5:=Lib.hid ((h5.out W zz m1 m2 m3 hzz hmW).pure)
 have q6:=Lib.hid (kp_at hzz h6.out)
 have hz':=Lib.hid hzz
 clear hW hz2 hz1 hzz cb hmW hm h0 h1 h2 h3 h4 h5 h6 ca0 cx0 ca1 cx1 ca2 cx2 ca3 cx3 ca4 cx4 ca5 cx5 ca6 cx6
 refine (q0.out _).mono ?_
 rintro r w' ⟨rfl,x1,rfl⟩
 go_wp2_with (first|(go_at_call 55;with_reducible refine (q1.out _).mono ?_;rintro r w' ⟨rfl,x,rfl⟩)|(go_at_call 57;with_reducible refine (q2.out _).mono ?_;rintro r w' ⟨rfl,x,rfl⟩)|(go_at_call 59;with_reducible refine (q3.out _).mono ?_;rintro r w' ⟨rfl,x,rfl⟩)|(go_at_call 61;with_reducible refine (q4.out _).mono ?_;rintro r w' ⟨rfl,x,rfl⟩)|(go_at_call 63;with_reducible refine (q5.out _).mono ?_;rintro r w' ⟨rfl,x,rfl⟩)|(go_at_call 64;with_reducible refine (q6.out _).mono ?_;rintro r w' ⟨rfl,x,rfl⟩))
 go_ret
 exact⟨rb hF.out,pp hz'.out⟩
def prB (p:Pr):Bool:=eachB 0 8 hrB p.headers.l && (eachB 0 16 fdB p.metas.l && (eachB 1 16 saB p.states.l && (eachB 0 16 acB p.actions.l && (eachB 0 8 taB p.tables.l && (St.mayB 8 p.control.l && eachB 0 8 nameB p.emit.l)))))
theorem ast_may (p:Pr) (w:World) (h:p.In w) (hz:p.sz≤1048576):Kp Tryz.prog w 29 #[.agg p.cells.toArray] (.bool (prB p)):=by
 unfold Pr.sz at hz
 have z0:p.headers.size Hr.sz≤1048576:=by omega
 have z2:p.states.size Sa.sz≤1048576:=by omega
 have z3:p.actions.size Ac.sz≤1048576:=by omega
 have z4:p.tables.size Ta.sz≤1048576:=by omega
 refine may_of p.headers.p p.headers.l.length p.headers.cap p.metas.p p.metas.l.length p.metas.cap p.states.p p.states.l.length p.states.cap p.actions.p p.actions.l.length p.actions.cap p.tables.p p.tables.l.length p.tables.cap p.control.p p.control.l.length p.control.cap p.emit.p p.emit.l.length p.emit.cap _ _ _ _ _ _ _ w
  (each_Header Hr.cells shp_hr hrB 54 #[] #[] _ w p.headers 0 8 h.headers (len_le Hr.sz sz_pos_hr _ z0) (enters_of Tryz.func54 (by kernel_rfl) rfl) (fun x hx=>header_in x w (h.headers.kids x hx) (one_sz z0 hx)))
  (fields_in p.metas 0 16 w h.metas (by omega)) ?_ ?_ ?_ ?_ (names_in p.emit 0 8 w h.emit (by omega))
 ·intro W z m1 m2 m3 hW hm
  have hC:Sl.In W 5 Sa.cells (Sa.In W) p.states:=hW ▸ h.states.plus (fun _ a=>a.plus z) z
  exact each_State Sa.cells shp_sa saB 58 #[fmV m1 m2 m3] #[] _ W p.states 1 16 hC (len_le Sa.sz sz_pos_sa _ z2) (enters_of Tryz.func58 (by kernel_rfl) rfl) (fun x hx=>state_in x m1 m2 m3 W (hC.kids x hx) (one_sz z2 hx) hm)
 ·intro W z m1 m2 m3 hW hm
  have hC:Sl.In W 3 Ac.cells (Ac.In W) p.actions:=hW ▸ h.actions.plus (fun _ a=>a.plus z) z
  exact each_Action Ac.cells shp_ac acB 60 #[fmV m1 m2 m3] #[] _ W p.actions 0 16 hC (len_le Ac.sz sz_pos_ac _ z3) (enters_of Tryz.func60 (by kernel_rfl) rfl) (fun x hx=>action_in x m1 m2 m3 W (hC.kids x hx) (one_sz z3 hx) hm)
 ·intro W z m1 m2 m3 hW hm
  have hC:Sl.In W 5 Ta.cells (Ta.In W) p.tables:=hW ▸ h.tables.plus (fun _ a=>a.plus z) z
  exact each_Table Ta.cells shp_ta taB 62 #[fmV m1 m2 m3] #[] _ W p.tables 0 8 hC (len_le Ta.sz sz_pos_ta _ z4) (enters_of Tryz.func62 (by kernel_rfl) rfl) (fun x hx=>table_in x m1 m2 m3 W (hC.kids x hx) (one_sz z4 hx) hm)
 ·intro W z m1 m2 m3 hW hm
  have hC:p.control.In W 14 St.cells (St.In W):=hW ▸ h.control.plus (fun _ a=>a.plus z) z
  exact mayblock_in p.control m1 m2 m3 W hC (by omega) hm
end Go.Proofs.YtobhijbncchpiaaGreat
