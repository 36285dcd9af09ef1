/-
  WHAT IS PROVED HERE: what may be, of states, actions, tables, statements, in plain words; and what the landed ast's methods state, action, table, block hand back, of any that lie in memory and are not too great.
-/
import Derived.Test.YtpnaibfefpeikaaRows
import Derived.Test.YtpnaibfefpeikaaHj
import Derived.Test.YtpnaibfefpeikaaHk
namespace Go.Proofs.Ytpnaibfefpeikaa
open Go.RowKit
structure FormsIn (w : World) (m1 m2 m3 : Nat) : Prop where
  x : MapAt w m1 (esX 26)
  s : MapAt w m2 (esS 3)
  t : MapAt w m3 (esT 7)
theorem FormsIn.plus {w : World} {m1 m2 m3 : Nat} (h : FormsIn w m1 m2 m3) (y : Ext) : FormsIn (plus w y) m1 m2 m3 := ⟨h.x.plus y, h.s.plus y, h.t.plus y⟩
abbrev fmV (m1 m2 m3 : Nat) : Value := .agg #[.map (some m1), .map (some m2), .map (some m3)]
def seB (s : Se) : Bool := sIs s.kind && (litB (sV s.kind) s.v && litB (sM s.kind) s.m)
def caK (n : Int) (c : Ca) : Int := if c.dflt then 0 else n
def caB (n : Int) (c : Ca) : Bool := tgtB c.to && eachB (caK n c) (caK n c) seB c.sets.l
def saT (s : Sa) : Bool := if s.to.toList == [] then (eachB 1 4 (Ex.may 16) s.keys.l && eachB 1 16 (caB (s.keys.l.length : Int)) s.cases.l) else (tgtB s.to && (((s.keys.l.length : Int) == 0) && ((s.cases.l.length : Int) == 0)))
def saB (s : Sa) : Bool := nameB s.name && (eachB 0 8 nameB s.takes.l && saT s)
def keB (k : Ke) : Bool := decide (1 ≤ k.kind) && (decide (k.kind ≤ 3) && Ex.may 16 k.e)
def taB (t : Ta) : Bool := nameB t.name && (eachB 1 4 keB t.keys.l && (eachB 1 16 nameB t.actions.l && (nameB t.dflt.name && eachB 0 8 ltB t.dflt.args.l)))
def zeroEx : Ex := .mk 0 ⟨0, 0, 0⟩ ⟨#[]⟩ ⟨#[]⟩ 0 0 none 0 []
def St.fits (s : St) : Bool := nmB s.head (tHead s.kind) && (nmB s.name (tName s.kind) && (tBlocks s.kind || (((s.thn.length : Int) == 0) && ((s.els.length : Int) == 0))))
def St.one (s : St) : Bool := tIs s.kind && (s.fits && (if tExpr s.kind then Ex.may 16 s.e else s.e.same zeroEx))
def St.mayB : Nat → List St → Bool
  | 0, l => ((l.length : Int) == 0)
  | n + 1, l => eachB 0 32 (fun s => s.one && (St.mayB n s.thn && St.mayB n s.els)) l
def acB (a : Ac) : Bool := nameB a.name && (eachB 0 8 fdB a.params.l && St.mayB 8 a.body.l)
theorem zeroEx_in (w : World) : zeroEx.In w := by
  refine .mk _ (by decide) ⟨by decide, by decide, by decide⟩ (by decide) (by decide) (Nat.zero_le _) (Nat.zero_le _) (Nat.zero_le _) (Nat.zero_le _) (fun i x h => by simp [zeroEx, Ex.args] at h) (fun x h => by simp [zeroEx, Ex.args] at h)
theorem set_in (s : Se) (m1 m2 m3 : Nat) (w : World) (h : s.In w) (hm : FormsIn w m1 m2 m3) : Kp Try.prog w 89 #[fmV m1 m2 m3, .agg s.cells.toArray] (.bool (seB s)) :=
  mayset_of m1 m2 m3 s.kind s.v.w s.v.h s.v.l s.m.w s.m.h s.m.l _ _ _ _ w (fun W z hW => look_s W m2 (hW ▸ hm.s.plus z) s.kind)
    (setfits_of _ _ s.kind s.v.w s.v.h s.v.l s.m.w s.m.h s.m.l _ _ w (litfits_in s.v _ w h.v) (litfits_in s.m _ w h.m))
theorem branch_in (c : Ca) (n : Int) (m1 m2 m3 : Nat) (w : World) (h : c.In w) (hz : c.sz ≤ 1048576) (hm : FormsIn w m1 m2 m3) : Kp Try.prog w 82 #[fmV m1 m2 m3, .agg c.cells.toArray, .int .i64 n] (.bool (caB n c)) := by
  unfold Ca.sz at hz
  have ht := target_in c.to w (by omega)
  have hl : c.sets.l.length ≤ 1048576 := len_le Se.sz (fun _ => Nat.le_refl _) c.sets (by omega)
  have hE := fun lo hi => each_Set Se.cells shp_se seB 89 #[fmV m1 m2 m3] #[] _ w c.sets lo hi h.sets hl (enters_of Try.func89 (by kernel_rfl) rfl) (fun x hx => set_in x m1 m2 m3 w (h.sets.kids x hx) hm)
  obtain ⟨d, sets, tgt⟩ := c
  cases d with
  | true => exact branch_true m1 m2 m3 sets.p sets.l.length sets.cap tgt n _ _ w ht (hE 0 0)
  | false => exact branch_false m1 m2 m3 sets.p sets.l.length sets.cap tgt n _ _ w ht (hE n n)
theorem names_in (L : Sl ByteArray) (lo hi : Int) (w : World) (h : L.In w 1 strCells strOk) (hz : L.size strSize ≤ 1048576) : Kp Try.prog w 45 #[L.v, .int .i64 lo, .int .i64 hi, .func (.func 46) #[] #[]] (.bool (eachB lo hi nameB L.l)) :=
  each_string nameB 46 #[] #[] _ w L lo hi h (strSize_le _ hz) (enters_of Try.func46 (by kernel_rfl) rfl) (fun x hx => name_in x w (by have := one_sz hz hx; unfold strSize at this; omega))
theorem fields_in (L : Sl Fd) (lo hi : Int) (w : World) (h : L.In w 2 Fd.cells (Fd.In w)) (hz : L.size Fd.sz ≤ 1048576) : Kp Try.prog w 36 #[L.v, .int .i64 lo, .int .i64 hi, .func (.func 37) #[] #[]] (.bool (eachB lo hi fdB L.l)) :=
  each_Field Fd.cells shp_fd fdB 37 #[] #[] _ w L lo hi h (len_le Fd.sz Fd.sz_pos _ hz) (enters_of Try.func37 (by kernel_rfl) rfl) (fun x hx => field_in x w (one_sz hz hx))
theorem header_in (h : Hr) (w : World) (hi : h.In w) (hz : h.sz ≤ 1048576) : Kp Try.prog w 35 #[.agg h.cells.toArray] (.bool (hrB h)) := by
  unfold Hr.sz at hz
  exact mayhdr_of h.name h.fields.p h.fields.l.length h.fields.cap _ _ w (name_in h.name w (by omega)) (fields_in h.fields 1 16 w hi.fields (by omega))
theorem exprs_in (L : Sl Ex) (lo hi : Int) (m1 m2 m3 : Nat) (w : World) (h : L.In w 9 Ex.cells (Ex.In w)) (hz : L.size Ex.wt ≤ 1048576) (hm : FormsIn w m1 m2 m3) : Kp Try.prog w 57 #[L.v, .int .i64 lo, .int .i64 hi, .func (.func 32) #[fmV m1 m2 m3] #[]] (.bool (eachB lo hi (Ex.may 16) L.l)) :=
  each_Expr Ex.cells shp_ex (Ex.may 16) 32 #[fmV m1 m2 m3] #[] _ w L lo hi h (len_le Ex.wt Ex.wt_pos _ hz) (enters_of Try.func32 (by kernel_rfl) rfl) (fun x hx => ast_expr x m1 (some m2) (some m3) w (h.kids x hx) (one_sz hz hx) hm.x)
theorem trans_in (s : Sa) (m1 m2 m3 : Nat) (w : World) (h : s.In w) (hz : s.sz ≤ 1048576) (hm : FormsIn w m1 m2 m3) : Kp Try.prog w 62 #[fmV m1 m2 m3, .agg s.cells.toArray] (.bool (saT s)) := by
  unfold Sa.sz at hz
  unfold saT
  cases ht : (s.to.toList == []) with
  | false =>
    exact trans_to m1 m2 m3 s.name s.takes.p s.takes.l.length s.takes.cap s.to s.keys.p s.keys.l.length s.keys.cap s.cases.p s.cases.l.length s.cases.cap _ w ht (target_in s.to w (by omega))
  | true =>
    have hc : s.cases.size Ca.sz ≤ 1048576 := by omega
    refine trans_keys m1 m2 m3 s.name s.takes.p s.takes.l.length s.takes.cap s.to s.keys.p s.keys.l.length s.keys.cap s.cases.p s.cases.l.length s.cases.cap _ _ w ht (exprs_in s.keys 1 4 m1 m2 m3 w h.keys (by omega) hm) ?_
    intro W z fb sb hW hf hs
    have hC : Sl.In W 3 Ca.cells (Ca.In W) s.cases := hW ▸ h.cases.plus (fun _ a => a.plus z) z
    have hm' : FormsIn W m1 m2 m3 := hW ▸ hm.plus z
    exact each_Case Ca.cells shp_ca (caB (s.keys.l.length : Int)) 81 #[] #[.pointer (some ⟨fb, 0, none⟩), .pointer (some ⟨sb, 0, none⟩)] _ W s.cases 1 16 hC (len_le Ca.sz sz_pos_ca _ hc) (enters_of Try.func81 (by kernel_rfl) rfl)
      (fun x hx => trans1_of m1 m2 m3 x.dflt x.sets.p x.sets.l.length x.sets.cap x.to fb sb s.keys.p s.keys.l.length s.keys.cap _ W (hf 0 _ rfl) (hf 1 _ rfl) (hf 2 _ rfl) hs (branch_in x _ m1 m2 m3 W (hC.kids x hx) (one_sz hc hx) hm'))
theorem state_in (s : Sa) (m1 m2 m3 : Nat) (w : World) (h : s.In w) (hz : s.sz ≤ 1048576) (hm : FormsIn w m1 m2 m3) : Kp Try.prog w 39 #[fmV m1 m2 m3, .agg s.cells.toArray] (.bool (saB s)) := by
  have hT := trans_in s m1 m2 m3 w h hz hm
  unfold Sa.sz at hz
  exact maystate_of m1 m2 m3 s.name s.takes.p s.takes.l.length s.takes.cap s.to s.keys.p s.keys.l.length s.keys.cap s.cases.p s.cases.l.length s.cases.cap _ _ _ w (name_in s.name w (by omega)) (names_in s.takes 0 8 w h.takes (by omega)) hT
theorem key_in (k : Ke) (m1 m2 m3 : Nat) (w : World) (h : k.In w) (hz : k.sz ≤ 1048576) (hm : FormsIn w m1 m2 m3) : Kp Try.prog w 64 #[fmV m1 m2 m3, .agg k.cells.toArray] (.bool (keB k)) := by
  unfold Ke.sz at hz
  exact maykey_of m1 m2 m3 k.e.op k.e.lit.w k.e.lit.h k.e.lit.l k.e.head k.e.name k.e.hi k.e.lo k.e.p k.e.args.length k.e.cap k.kind _ w (ast_expr k.e m1 (some m2) (some m3) w h.e (by omega) hm.x)
theorem table_in (t : Ta) (m1 m2 m3 : Nat) (w : World) (h : t.In w) (hz : t.sz ≤ 1048576) (hm : FormsIn w m1 m2 m3) : Kp Try.prog w 43 #[fmV m1 m2 m3, .agg t.cells.toArray] (.bool (taB t)) := by
  unfold Ta.sz Cl.sz at hz
  have hk : t.keys.size Ke.sz ≤ 1048576 := by omega
  exact maytable_of m1 m2 m3 t.name t.keys.p t.keys.l.length t.keys.cap t.actions.p t.actions.l.length t.actions.cap t.dflt.name t.dflt.args.p t.dflt.args.l.length t.dflt.args.cap _ _ _ _ _ w (name_in t.name w (by omega))
    (each_Key Ke.cells shp_ke keB 64 #[fmV m1 m2 m3] #[] _ w t.keys 1 4 h.keys (len_le Ke.sz sz_pos_ke _ hk) (enters_of Try.func64 (by kernel_rfl) rfl) (fun x hx => key_in x m1 m2 m3 w (h.keys.kids x hx) (one_sz hk hx) hm))
    (names_in t.actions 1 16 w h.actions (by omega)) (name_in t.dflt.name w (by omega))
    (each_Lit Lt.cells shp_lt ltB 66 #[] #[] _ w t.dflt.args 0 8 h.dflt.args (lt_sz _ (by omega)) (enters_of Try.func66 (by kernel_rfl) rfl) (fun x hx => lit_in x w (h.dflt.args.kids x hx)))
theorem stmt_in (s : St) (m1 m2 m3 : Nat) (w : World) (h : s.In w) (hz : s.sz ≤ 1048576) (hm : FormsIn w m1 m2 m3) : Kp Try.prog w 70 #[fmV m1 m2 m3, .agg s.cells.toArray] (.bool s.one) := by
  have e1 := St.sz_eq s
  have hE := h.inE
  exact maystmt_of m1 m2 m3 s.kind s.head s.name s.e.op s.e.lit.w s.e.lit.h s.e.lit.l s.e.head s.e.name s.e.hi s.e.lo s.e.p s.e.args.length s.e.cap s.p s.thn.length s.cap s.q s.els.length s.cbp _ _ _ _ _ _ _ _ w (fun W z hW => look_t W m3 (hW ▸ hm.t.plus z) s.kind)
    (stmtfits_of _ _ _ _ s.kind s.head s.name s.e.op s.e.lit.w s.e.lit.h s.e.lit.l s.e.head s.e.name s.e.hi s.e.lo s.e.p s.e.args.length s.e.cap s.p s.thn.length s.cap s.q s.els.length s.cbp _ _ w (namefits_in s.head _ w (by omega)) (namefits_in s.name _ w (by omega)))
    (ast_sameExpr s.e zeroEx w hE (zeroEx_in w) (by omega)) (ast_expr s.e m1 (some m2) (some m3) w hE (by omega) hm.x)
theorem block1_in : ∀ (n : Nat), n ≤ 8 → ∀ (L : Sl St) (w : World) (fb c m1 m2 m3 : Nat), L.In w 14 St.cells (St.In w) → L.size St.sz ≤ 1048576 → FormsIn w m1 m2 m3 → (∀ j v, (#[.map (some m1), .map (some m2), .map (some m3)] : Array Value)[j]? = some v → w.cell? ⟨fb, j, none⟩ = some v) → w.cell? ⟨c, 0, none⟩ = some (fv_block fb c) →
    Kp Try.prog w 67 #[L.v, .int .i64 (n : Int), .pointer (some ⟨fb, 0, none⟩), .pointer (some ⟨c, 0, none⟩)] (.bool (St.mayB n L.l))
  | 0, _, L, w, fb, c, m1, m2, m3, hin, hz, hm, hf, hc => block1_none L.p L.l.length L.cap fb c w
  | n + 1, hn, L, w, fb, c, m1, m2, m3, hin, hz, hm, hf, hc => by
    refine block1_some L.p L.l.length L.cap fb c ((n + 1 : Nat) : Int) _ w (by first | (simp; done) | (simp; omega)) ?_
    intro W z rc hW hr
    have hL : L.In W 14 St.cells (St.In W) := hW ▸ hin.plus (fun _ a => a.plus z) z
    have hc' : W.cell? ⟨c, 0, none⟩ = some (fv_block fb c) := hW ▸ cell_keep hc z
    have hf' : ∀ j v, (#[.map (some m1), .map (some m2), .map (some m3)] : Array Value)[j]? = some v → W.cell? ⟨fb, j, none⟩ = some v := fun j v hj => hW ▸ cell_keep (hf j v hj) z
    have hm' : FormsIn W m1 m2 m3 := hW ▸ hm.plus z
    exact each_Stmt St.cells shp_st (fun s => s.one && (St.mayB n s.thn && St.mayB n s.els)) 69 #[] #[.pointer (some ⟨fb, 0, none⟩), .pointer (some ⟨c, 0, none⟩), .pointer (some ⟨rc, 0, none⟩)] (St.In W) W L 0 32 hL (len_le St.sz St.sz_pos _ hz) (enters_of Try.func69 (by kernel_rfl) rfl)
      (fun s hs => by
        have hsz := one_sz hz hs
        have e1 := St.sz_eq s
        have hi := hL.kids s hs
        exact stmt11_of m1 m2 m3 s.kind s.head s.name s.e.op s.e.lit.w s.e.lit.h s.e.lit.l s.e.head s.e.name s.e.hi s.e.lo s.e.p s.e.args.length s.e.cap s.p s.thn.length s.cap s.q s.els.length s.cbp fb c rc ((n + 1 : Nat) : Int) (n : Int) _ _ _ W (hf' 0 _ rfl) (hf' 1 _ rfl) (hf' 2 _ rfl) hc' hr (by rw [wr_in _ (by omega)]; omega)
          (stmt_in s m1 m2 m3 W hi hsz hm') (block1_in n (by omega) s.thnS W fb c m1 m2 m3 hi.inThn (show (s.thn.map St.sz).sum ≤ _ by omega) hm' hf' hc') (block1_in n (by omega) s.elsS W fb c m1 m2 m3 hi.inEls (show (s.els.map St.sz).sum ≤ _ by omega) hm' hf' hc'))
theorem mayblock_in (L : Sl St) (m1 m2 m3 : Nat) (w : World) (h : L.In w 14 St.cells (St.In w)) (hz : L.size St.sz ≤ 1048576) (hm : FormsIn w m1 m2 m3) : Kp Try.prog w 44 #[fmV m1 m2 m3, L.v] (.bool (St.mayB 8 L.l)) :=
  block_of m1 m2 m3 L.p L.l.length L.cap _ w (fun W z fb c hW hf hc => block1_in 8 (Nat.le_refl _) L W fb c m1 m2 m3 (hW ▸ h.plus (fun _ a => a.plus z) z) hz (hW ▸ hm.plus z) hf hc)
theorem action_in (a : Ac) (m1 m2 m3 : Nat) (w : World) (h : a.In w) (hz : a.sz ≤ 1048576) (hm : FormsIn w m1 m2 m3) : Kp Try.prog w 41 #[fmV m1 m2 m3, .agg a.cells.toArray] (.bool (acB a)) := by
  unfold Ac.sz at hz
  exact mayaction_of m1 m2 m3 a.name a.params.p a.params.l.length a.params.cap a.body.p a.body.l.length a.body.cap _ _ _ w (name_in a.name w (by omega)) (fields_in a.params 0 8 w h.params (by omega)) (mayblock_in a.body m1 m2 m3 w h.body (by omega) hm)
end Go.Proofs.Ytpnaibfefpeikaa
