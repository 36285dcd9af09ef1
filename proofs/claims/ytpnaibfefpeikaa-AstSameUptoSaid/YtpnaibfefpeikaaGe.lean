/-
  WHAT IS PROVED HERE: what SameExpr and sameBlock of the landed ast hand back, of any trees that lie in memory and are not too great.
-/
import Derived.Test.YtpnaibfefpeikaaRows
import Derived.Test.YtpnaibfefpeikaaGc
import Derived.Test.YtpnaibfefpeikaaFa
import Derived.Test.YtpnaibfefpeikaaFb
import Derived.Test.YtpnaibfefpeikaaFf
import Derived.WalkKit
import Derived.Lib.Hide
import Derived.WalkSpells
import Derived.WalkLawsBesides
import Derived.Laws.EntriesVeiled
import Derived.Shelf.Abstract
namespace Go.Proofs.Ytpnaibfefpeikaa
open Go.RowKit
theorem clo1 (V : World) (v : Value) (t : TypeId) : ∃ W, V.alloc (.cells #[v] t) = W ∧ (∃ z, W = plus V z) ∧ W.cell? ⟨V.heap.size, 0, none⟩ = some v :=
  ⟨_, rfl, alloc1_plus V _, cell_new _ _ _ _ _ rfl⟩
theorem clo2 (V : World) (A : Obj) (v : Value) (t : TypeId) : ∃ W, (V.alloc A).alloc (.cells #[v] t) = W ∧ (∃ z, W = plus V z) ∧ W.cell? ⟨V.heap.size + 1, 0, none⟩ = some v :=
  ⟨_, rfl, alloc2_plus V _ _, cell_new _ _ _ _ _ (by simp)⟩
theorem clo3 (V : World) (A B : Obj) (v : Value) (t : TypeId) : ∃ W, ((V.alloc A).alloc B).alloc (.cells #[v] t) = W ∧ (∃ z, W = plus V z) ∧ W.cell? ⟨V.heap.size + 1 + 1, 0, none⟩ = some v := by
  refine ⟨_, rfl, ?_, cell_new _ _ _ _ _ (by simp)⟩
  obtain ⟨x, hx⟩ := alloc2_plus V A B
  rw [hx]
  exact plus_alloc1 V x _
theorem shp_ex (x : Ex) : shp_Expr x.cells := ⟨_, _, _, _, _, _, _, _, _, _, _, rfl⟩
theorem shp_st (x : St) : shp_Stmt x.cells := ⟨_, _, _, _, _, _, _, _, _, _, _, _, _, _, _, _, _, _, _, _, rfl⟩
theorem Ex.sames_eq : ∀ l r : List Ex, Ex.sames l r = eqAll Ex.same l r
  | [], [] => by rw [Ex.sames, eqAll]
  | a :: l, b :: r => by rw [Ex.sames, eqAll, Ex.sames_eq l r]
  | [], _ :: _ => by rw [Ex.sames, eqAll]
  | _ :: _, [] => by rw [Ex.sames, eqAll]
theorem St.sames_eq : ∀ l r : List St, St.sames l r = eqAll St.same l r
  | [], [] => by rw [St.sames, eqAll]
  | a :: l, b :: r => by rw [St.sames, eqAll, St.sames_eq l r]
  | [], _ :: _ => by rw [St.sames, eqAll]
  | _ :: _, [] => by rw [St.sames, eqAll]
theorem St.same_eq (a b : St) : a.same b = (a.kind == b.kind && (a.head.toList == b.head.toList && (a.name.toList == b.name.toList && (a.e.same b.e && (St.sames a.thn b.thn && St.sames a.els b.els))))) := by cases a; rw [St.same]; rfl
def fv_expr (c : Nat) : Value := .func (.func 28) #[] #[.pointer (some ⟨c, 0, none⟩)]
def fv_stmt (c : Nat) : Value := .func (.func 53) #[] #[.pointer (some ⟨c, 0, none⟩)]
theorem same1 : ∀ (a b : Ex) (w : World) (c : Nat), a.In w → b.In w → a.wt ≤ 1048576 → w.cell? ⟨c, 0, none⟩ = some (fv_expr c) → Kp Try.prog w 28 #[a.val, b.val, .pointer (some ⟨c, 0, none⟩)] (.bool (a.same b)) := by
  intro a
  induction a using Ex.ind with
  | _ a ih =>
  intro b w c ha hb wa hc
  have h1 := ha
  have h2 := hb
  obtain ⟨_, _, _, _, _, _, _, l1, c1, r1, k1⟩ := h1
  obtain ⟨_, _, _, _, _, _, _, l2, c2, r2, k2⟩ := h2
  have e1 := Ex.wt_eq a
  have hl : a.args.length ≤ 1048576 := by have := length_le_sum Ex.wt Ex.wt_pos a.args; omega
  have hE := eqf_Expr Ex.cells shp_ex Ex.same 28 #[.pointer (some ⟨c, 0, none⟩)] (Ex.In w) w ⟨a.p, a.cap, a.args⟩ ⟨b.p, b.cap, b.args⟩ ⟨l1, c1, r1, k1⟩ ⟨l2, c2, r2, k2⟩ hl (enters_of Try.func28 (by kernel_rfl) rfl)
    (fun x hx y hy => ih x hx y w c (k1 x hx) (k2 y hy) (Nat.le_trans (le_sum_of Ex.wt a.args x hx) (by omega)) hc)
  refine (expr1_of a.op a.lit.w a.lit.h a.lit.l a.head a.name a.hi a.lo a.p a.args.length a.cap b.op b.lit.w b.lit.h b.lit.l b.head b.name b.hi b.lo b.p b.args.length b.cap c _ w hc hE).eqv ?_
  simp only [Ex.same_eq, Ex.top, Ex.sames_eq, Bool.and_assoc]
set_option maxRecDepth 100000 in
set_option maxHeartbeats 8000000 in
theorem ast_sameExpr (a b : Ex) (w : World) (ha : a.In w) (hb : b.In w) (wa : a.wt ≤ 1048576) : Kp Try.prog w 8 #[a.val, b.val] (.bool (a.same b)) := by
  intro y0
  have ha := ha.plus y0
  have hb := hb.plus y0
  obtain ⟨V, hV⟩ : ∃ V, plus w y0 = V := ⟨_, rfl⟩
  rw [hV] at ha hb ⊢
  clear hV
  have hq := fun (W : World) (c : Nat) (z : Ext) (hz : W = plus V z) (hc : W.cell? ⟨c, 0, none⟩ = some (fv_expr c)) => calls_self (same1 a b W c (hz ▸ ha.plus z) (hz ▸ hb.plus z) wa hc)
  obtain ⟨S, hS⟩ : ∃ S, a.same b = S := ⟨_, rfl⟩
  rw [hS] at hq ⊢
  clear hS ha hb wa
  obtain ⟨op, ⟨lw, lh, ll⟩, hd, nm, eh, el, p, cap, args⟩ := a
  obtain ⟨op2, ⟨lw2, lh2, ll2⟩, hd2, nm2, eh2, el2, p2, cap2, args2⟩ := b
  have hq : ∀ (W : World) (c : Nat) (z : Ext), W = plus V z → W.cell? ⟨c, 0, none⟩ = some (fv_expr c) → Calls Try.prog 28 #[.agg #[.int .u8 op, .int .i64 lw, .int .u64 lh, .int .u64 ll, .string hd, .string nm, .int .i64 eh, .int .i64 el, .slice p args.length cap], .agg #[.int .u8 op2, .int .i64 lw2, .int .u64 lh2, .int .u64 ll2, .string hd2, .string nm2, .int .i64 eh2, .int .i64 el2, .slice p2 args2.length cap2], .pointer (some ⟨c, 0, none⟩)] W fun e w' => e = .returned (.bool S) ∧ ∃ x, w' = plus W x := hq
  show Calls Try.prog 8 #[.agg #[.int .u8 op, .int .i64 lw, .int .u64 lh, .int .u64 ll, .string hd, .string nm, .int .i64 eh, .int .i64 el, .slice p args.length cap], .agg #[.int .u8 op2, .int .i64 lw2, .int .u64 lh2, .int .u64 ll2, .string hd2, .string nm2, .int .i64 eh2, .int .i64 el2, .slice p2 args2.length cap2]] V _
  generalize args.length = n1 at hq ⊢
  generalize args2.length = n2 at hq ⊢
  have hq' := Lib.hid hq
  clear hq
  have hmf : ∀ (fn : Fn) (first cap : Array Value) (w : World), (Instr.makeFunc fn first cap).run Try.prog w = .ok (.func fn first cap) w := fun _ _ _ _ => rfl
  go_enter Try.func8, Try.ntmps8
  go_wp2_with fail
  obtain ⟨W, hW, ⟨z, hz⟩, hc⟩ := clo3 V _ _ _ _
  rw [hW]
  have hz' := Lib.hid hz
  refine (hq'.out W _ z hz hc).mono ?_
  clear hW hz hc
  rintro r w' ⟨rfl, x, rfl⟩
  go_wp2
  go_ret
  exact ⟨rfl, by rw [hz'.out, plus_plus]; exact ⟨_, rfl⟩⟩
theorem St.In.inE {w : World} {s : St} (h : s.In w) : s.e.In w := by obtain ⟨_, _, _, _, e, _, _, _, _, _, _, _, _⟩ := h; exact e
theorem St.In.inThn {w : World} {s : St} (h : s.In w) : s.thnS.In w 14 St.cells (St.In w) := by obtain ⟨_, _, _, _, _, l, c, r, k, _, _, _, _⟩ := h; exact ⟨l, c, r, k⟩
theorem St.In.inEls {w : World} {s : St} (h : s.In w) : s.elsS.In w 14 St.cells (St.In w) := by obtain ⟨_, _, _, _, _, _, _, _, _, l, c, r, k⟩ := h; exact ⟨l, c, r, k⟩
def SameAt (s : St) : Prop := ∀ (b : St) (w : World) (c : Nat), s.In w → b.In w → s.sz ≤ 1048576 → w.cell? ⟨c, 0, none⟩ = some (fv_stmt c) → Kp Try.prog w 53 #[.agg s.cells.toArray, .agg b.cells.toArray, .pointer (some ⟨c, 0, none⟩)] (.bool (s.same b))
theorem stmts_eqf (A B : Sl St) (w : World) (c : Nat) (ih : ∀ x ∈ A.l, SameAt x) (hA : A.In w 14 St.cells (St.In w)) (hB : B.In w 14 St.cells (St.In w)) (bA : A.size St.sz ≤ 1048576) (hc : w.cell? ⟨c, 0, none⟩ = some (fv_stmt c)) :
    Kp Try.prog w 54 #[A.v, B.v, fv_stmt c] (.bool (St.sames A.l B.l)) := by
  have hl : A.l.length ≤ 1048576 := Nat.le_trans (length_le_sum St.sz St.sz_pos A.l) bA
  rw [St.sames_eq]
  exact eqf_Stmt St.cells shp_st St.same 53 #[.pointer (some ⟨c, 0, none⟩)] (St.In w) w A B hA hB hl (enters_of Try.func53 (by kernel_rfl) rfl)
    (fun x hx y hy => ih x hx y w c (hA.kids x hx) (hB.kids y hy) (Nat.le_trans (le_sum_of St.sz A.l x hx) bA) hc)
theorem same_stmt1 : ∀ s : St, SameAt s := by
  intro s
  induction s using St.ind with
  | _ s ih1 ih2 =>
  intro b w c ha hb wa hc
  have h1 := ha
  have h2 := hb
  have e1 := St.sz_eq s
  have hE := ast_sameExpr s.e b.e w (St.In.inE h1) (St.In.inE h2) (by omega)
  have hT := stmts_eqf s.thnS b.thnS w c ih1 (St.In.inThn h1) (St.In.inThn h2) (show (s.thn.map St.sz).sum ≤ _ by omega) hc
  have hL := stmts_eqf s.elsS b.elsS w c ih2 (St.In.inEls h1) (St.In.inEls h2) (show (s.els.map St.sz).sum ≤ _ by omega) hc
  refine (stmt1_of s.kind s.head s.name s.e.op s.e.lit.w s.e.lit.h s.e.lit.l s.e.head s.e.name s.e.hi s.e.lo s.e.p s.e.args.length s.e.cap s.p s.thn.length s.cap s.q s.els.length s.cbp b.kind b.head b.name b.e.op b.e.lit.w b.e.lit.h b.e.lit.l b.e.head b.e.name b.e.hi b.e.lo b.e.p b.e.args.length b.e.cap b.p b.thn.length b.cap b.q b.els.length b.cbp c _ _ _ w hc hE hT hL).eqv ?_
  rw [St.same_eq]
  rfl
set_option maxRecDepth 100000 in
set_option maxHeartbeats 8000000 in
theorem ast_sameBlock (A B : Sl St) (w : World) (hA : A.In w 14 St.cells (St.In w)) (hB : B.In w 14 St.cells (St.In w)) (bA : A.size St.sz ≤ 1048576) : Kp Try.prog w 26 #[A.v, B.v] (.bool (St.sames A.l B.l)) := by
  intro y0
  have hA := hA.plus (fun _ a => a.plus y0) y0
  have hB := hB.plus (fun _ a => a.plus y0) y0
  obtain ⟨V, hV⟩ : ∃ V, plus w y0 = V := ⟨_, rfl⟩
  rw [hV] at hA hB ⊢
  clear hV
  have hq := fun (W : World) (c : Nat) (z : Ext) (hz : W = plus V z) (hc : W.cell? ⟨c, 0, none⟩ = some (fv_stmt c)) => calls_self (stmts_eqf A B W c (fun x _ => same_stmt1 x) (hz ▸ hA.plus (fun _ a => a.plus z) z) (hz ▸ hB.plus (fun _ a => a.plus z) z) bA hc)
  obtain ⟨S, hS⟩ : ∃ S, St.sames A.l B.l = S := ⟨_, rfl⟩
  rw [hS] at hq ⊢
  obtain ⟨p, cap, l⟩ := A
  obtain ⟨q, cbp, r⟩ := B
  simp only [Sl.v, fv_stmt] at hq ⊢
  generalize l.length = n1 at hq ⊢
  generalize r.length = n2 at hq ⊢
  clear hS hA hB bA
  have hq' := Lib.hid hq
  clear hq
  have hmf : ∀ (fn : Fn) (first cap : Array Value) (w : World), (Instr.makeFunc fn first cap).run Try.prog w = .ok (.func fn first cap) w := fun _ _ _ _ => rfl
  go_enter Try.func26, Try.ntmps26
  go_wp2_with fail
  obtain ⟨W, hW, ⟨z, hz⟩, hc⟩ := clo1 V _ _
  rw [hW]
  have hz' := Lib.hid hz
  refine (hq'.out W _ z hz hc).mono ?_
  clear hW hz hc
  rintro r w' ⟨rfl, x, rfl⟩
  go_wp2
  go_ret
  exact ⟨rfl, by rw [hz'.out, plus_plus]; exact ⟨_, rfl⟩⟩
end Go.Proofs.Ytpnaibfefpeikaa
