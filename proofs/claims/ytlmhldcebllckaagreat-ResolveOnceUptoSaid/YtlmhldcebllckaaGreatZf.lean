/-
  WHAT IS PROVED HERE: what the landed resolve's Names hands back. Written by gen/zf.py.
-/
import Derived.Test.YtlmhldcebllckaaGreatRows
import Derived.Test.YtlmhldcebllckaaGreatZe
import Derived.WalkKit
import Derived.Lib.Hide
import Derived.WalkSpells
import Derived.WalkLawsBesides
namespace Go.Proofs.YtlmhldcebllckaaGreat
open Go.RowKit
theorem box4r (V : World) (c d f g : Array Value) (t u s r : TypeId) : ∃ W y, (((V.alloc (.cells c t)).alloc (.cells d u)).alloc (.cells f s)).alloc (.cells g r) = plus W y ∧ (∃ z, W = plus V z) ∧
    (∀ o v, c[o]? = v → ∀ y, (plus W y).cell? ⟨V.heap.size, o, none⟩ = v) ∧
    (∀ o v, d[o]? = v → ∀ y, (plus W y).cell? ⟨V.heap.size + 1, o, none⟩ = v) ∧
    (∀ o v, f[o]? = v → ∀ y, (plus W y).cell? ⟨V.heap.size + 1 + 1, o, none⟩ = v) ∧
    (∀ o v, g[o]? = v → ∀ y, (plus W y).cell? ⟨V.heap.size + 1 + 1 + 1, o, none⟩ = v) := by
  have h1 : (V.alloc (.cells c t)).heap.size = V.heap.size + 1 := by simp
  have h2 : ((V.alloc (.cells c t)).alloc (.cells d u)).heap.size = V.heap.size + 1 + 1 := by simp
  have h3 : (((V.alloc (.cells c t)).alloc (.cells d u)).alloc (.cells f s)).heap.size = V.heap.size + 1 + 1 + 1 := by simp
  have hs : ((((V.alloc (.cells c t)).alloc (.cells d u)).alloc (.cells f s)).alloc (.cells g r)).heap.size = V.heap.size + 1 + 1 + 1 + 1 := by simp
  have hB : Below V.heap.size V ((((V.alloc (.cells c t)).alloc (.cells d u)).alloc (.cells f s)).alloc (.cells g r)) := (((((Below.refl _ _).alloc (Nat.le_refl _) _).alloc (by omega) _).alloc (by omega) _).alloc (by omega) _)
  exact ⟨_, ⟨#[], _⟩, (plus_self _).symm, plus_of_below hB,
    fun o v e => plus_cell (by omega) ((cell_old _ _ _ o (by omega)).trans ((cell_old _ _ _ o (by omega)).trans ((cell_old _ _ _ o (by omega)).trans ((cell_new V c t _ o rfl).trans e)))),
    fun o v e => plus_cell (by omega) ((cell_old _ _ _ o (by omega)).trans ((cell_old _ _ _ o (by omega)).trans ((cell_new _ d u _ o h1.symm).trans e))),
    fun o v e => plus_cell (by omega) ((cell_old _ _ _ o (by omega)).trans ((cell_new _ f s _ o h2.symm).trans e)),
    fun o v e => plus_cell (by omega) ((cell_new _ g r _ o h3.symm).trans e)⟩
/-- The literal's captured variables: the program, the action, itself. -/
structure There (p : Pr) (act : Int) (b1 b2 b3 : Nat) (w : World) : Prop where
  pc : ∀ j v, [.slice p.headers.p p.headers.l.length p.headers.cap, .slice p.metas.p p.metas.l.length p.metas.cap, .slice p.states.p p.states.l.length p.states.cap, .slice p.actions.p p.actions.l.length p.actions.cap, .slice p.tables.p p.tables.l.length p.tables.cap, .slice p.control.p p.control.l.length p.control.cap, .slice p.emit.p p.emit.l.length p.emit.cap][j]? = some v → w.cell? ⟨b1, j, none⟩ = some v
  ac : w.cell? ⟨b2, 0, none⟩ = some (.int .i64 act)
  tc : w.cell? ⟨b3, 0, none⟩ = some (.func (.func 109) #[] #[.pointer (some ⟨b1, 0, none⟩), .pointer (some ⟨b2, 0, none⟩), .pointer (some ⟨b3, 0, none⟩)])
theorem There.plus {p : Pr} {act : Int} {b1 b2 b3 : Nat} {w : World} (h : There p act b1 b2 b3 w) (x : Ext) : There p act b1 b2 b3 (plus w x) :=
  ⟨fun j v hj => cell_keep (h.pc j v hj) x, cell_keep h.ac x, cell_keep h.tc x⟩
set_option maxRecDepth 100000 in
set_option maxHeartbeats 8000000 in
theorem there_in (p : Pr) (act : Int) (b1 b2 b3 : Nat) (hz : p.sz ≤ 1048576) (e : Ex) : ∀ w, p.In w → There p act b1 b2 b3 w → e.In w → e.wt ≤ 1048576 → Kp Tryz.prog w 109 #[.agg #[.int .u8 e.op, .int .i64 e.lit.w, .int .u64 e.lit.h, .int .u64 e.lit.l, .string e.head, .string e.name, .int .i64 e.hi, .int .i64 e.lo, .slice e.p e.args.length e.cap], .pointer (some ⟨b1, 0, none⟩), .pointer (some ⟨b2, 0, none⟩), .pointer (some ⟨b3, 0, none⟩)] (.bool (e.there (isB p act))) := by
  induction e using Ex.ind with
  | _ e ih =>
  intro w hp hT he hw y0
  have hp := hp.plus y0
  have hT := hT.plus y0
  have he := he.plus y0
  obtain ⟨V, hV⟩ : ∃ V, plus w y0 = V := ⟨_, rfl⟩
  rw [hV] at hp hT he ⊢
  clear hV
  have row : RowAt V 9 Ex.cells e.p e.args := by cases he; assumption
  have kids : ∀ x ∈ e.args, x.In V := by cases he; assumption
  have hcap : e.args.length ≤ e.cap ∧ e.cap ≤ maxLen := by cases he; exact ⟨by assumption, by assumption⟩
  have hwt := Ex.wt_eq e
  have kwt : ∀ x ∈ e.args, x.wt ≤ 1048576 := fun x hx => by
    have := le_sum_of Ex.wt e.args x hx
    omega
  have hlen : e.args.length ≤ 1048576 := by
    have := length_le_sum Ex.wt Ex.wt_pos e.args
    omega
  have k1 := q_isThere p V hp hz act e
  have kA := Lib.hid (fun (U : World) (z : Ext) (hU : U = plus V z) => (show Kp Tryz.prog U 111 #[.slice e.p e.args.length e.cap, .func (.func 112) #[] #[.pointer (some ⟨b3, 0, none⟩)]] (.int .i64 (firstI (fun x => !x.there (isB p act)) e.args 0)) from by
    subst hU
    exact first_Expr Ex.cells shp_ex (fun x => !x.there (isB p act)) 112 #[] #[.pointer (some ⟨b3, 0, none⟩)] (Ex.In (plus V z)) (plus V z) ⟨e.p, e.cap, e.args⟩ ⟨hcap.1, hcap.2, row.plus z, fun x hx => (kids x hx).plus z⟩ hlen (enters_of Tryz.func112 (by kernel_rfl) rfl)
      (fun x hx => names11 b3 _ 109 _ rfl (enters_of Tryz.func109 (by kernel_rfl) rfl) x _ (plus V z) (hT.plus z).tc (ih x hx (plus V z) (hp.plus z) (hT.plus z) ((kids x hx).plus z) (kwt x hx)))))
  have hR : (isB p act e && e.args.all (Ex.there (isB p act))) = e.there (isB p act) := (Ex.there_eq (isB p act) e).symm
  rw [← firstI_none (Ex.there (isB p act)) e.args 0] at hR
  obtain ⟨R, hRR⟩ : ∃ R, e.there (isB p act) = R := ⟨_, rfl⟩
  rw [hRR] at hR ⊢
  generalize isB p act e = b at k1 hR
  have hI : ∃ I, firstI (fun x => !x.there (isB p act)) e.args 0 = I := ⟨_, rfl⟩
  obtain ⟨I, hI⟩ := hI
  rw [hI] at kA hR
  have hR' := Lib.hid hR
  have k1' := Lib.hid k1
  have hT' := Lib.hid hT
  clear k1 hR hRR hI row kids hcap hwt kwt hlen hw he hp ih hT
  obtain ⟨op, ⟨lw, lh, ll⟩, hd, nm, hi, lo, ep, ec, el⟩ := e
  simp only [Ex.op, Ex.lit, Ex.head, Ex.name, Ex.hi, Ex.lo, Ex.p, Ex.cap, Ex.args] at *
  go_enter Tryz.func109, Tryz.ntmps109
  go_upto_region 1 with (fail)
  obtain ⟨W, yy, hW, ⟨z, hz2⟩, ca⟩ := box1n V _ 68
  rw [hW]
  have c0 := ca 0 _ rfl
  have c1 := ca 1 _ rfl
  have c2 := ca 2 _ rfl
  have c3 := ca 3 _ rfl
  have c4 := ca 4 _ rfl
  have c5 := ca 5 _ rfl
  have c6 := ca 6 _ rfl
  have c7 := ca 7 _ rfl
  have c8 := ca 8 _ rfl
  have hTW : There p act b1 b2 b3 W := by rw [hz2]; exact hT'.out.plus z
  have pc0 := fun y => (hTW.plus y).pc 0 _ rfl
  have pc1 := fun y => (hTW.plus y).pc 1 _ rfl
  have pc2 := fun y => (hTW.plus y).pc 2 _ rfl
  have pc3 := fun y => (hTW.plus y).pc 3 _ rfl
  have pc4 := fun y => (hTW.plus y).pc 4 _ rfl
  have pc5 := fun y => (hTW.plus y).pc 5 _ rfl
  have pc6 := fun y => (hTW.plus y).pc 6 _ rfl
  have ac := fun y => (hTW.plus y).ac
  have q1 := Lib.hid (kp_at hz2 k1'.out)
  have qA := Lib.hid (kA.out W z hz2).pure
  have hz2' := Lib.hid hz2
  clear hW hz2 ca k1' hT' hTW kA
  cases b with
  | false =>
    have hR := Lib.hid (show false = R by rw [← hR'.out, Bool.false_and])
    clear hR' qA
    go_wp2_with (first | (go_at_call 110; with_reducible refine (q1.out _).mono ?_; rintro r w' ⟨rfl, x, rfl⟩))
    go_ret
    exact ⟨congrArg (fun z => Ending.returned (Value.bool z)) hR.out, by rw [hz2'.out, plus_plus]; exact ⟨_, rfl⟩⟩
  | true =>
    have hR := Lib.hid (show (I == -1) = R by rw [← hR'.out, Bool.true_and])
    clear hR'
    go_wp2_with (first | (go_at_call 110; with_reducible refine (q1.out _).mono ?_; rintro r w' ⟨rfl, x, rfl⟩) | (go_at_call 111; with_reducible refine (qA.out _).mono ?_; rintro r w' ⟨rfl, x, rfl⟩))
    go_ret
    exact ⟨congrArg (fun z => Ending.returned (Value.bool z)) hR.out, by rw [hz2'.out, plus_plus]; exact ⟨_, rfl⟩⟩
set_option maxRecDepth 100000 in
set_option maxHeartbeats 8000000 in
theorem q_Names (p : Pr) (w : World) (h : p.In w) (hz : p.sz ≤ 1048576) (act : Int) (e : Ex) (he : e.In w) (hw : e.wt ≤ 1048576) : Kp Tryz.prog w 72 #[.agg #[.slice p.headers.p p.headers.l.length p.headers.cap, .slice p.metas.p p.metas.l.length p.metas.cap, .slice p.states.p p.states.l.length p.states.cap, .slice p.actions.p p.actions.l.length p.actions.cap, .slice p.tables.p p.tables.l.length p.tables.cap, .slice p.control.p p.control.l.length p.control.cap, .slice p.emit.p p.emit.l.length p.emit.cap], .int .i64 act, .agg #[.int .u8 e.op, .int .i64 e.lit.w, .int .u64 e.lit.h, .int .u64 e.lit.l, .string e.head, .string e.name, .int .i64 e.hi, .int .i64 e.lo, .slice e.p e.args.length e.cap]] (.int .i64 (if e.there (isB p act) then 0 else 7)) := by
  intro y0
  have h := h.plus y0
  have he := he.plus y0
  obtain ⟨V, hV⟩ : ∃ V, plus w y0 = V := ⟨_, rfl⟩
  rw [hV] at h he ⊢
  clear hV
  have kN := Lib.hid (fun (U : World) (z : Ext) (hU : U = plus V z) (b1 b2 b3 : Nat) (hT : There p act b1 b2 b3 U) => (show Kp Tryz.prog U 109 #[.agg #[.int .u8 e.op, .int .i64 e.lit.w, .int .u64 e.lit.h, .int .u64 e.lit.l, .string e.head, .string e.name, .int .i64 e.hi, .int .i64 e.lo, .slice e.p e.args.length e.cap], .pointer (some ⟨b1, 0, none⟩), .pointer (some ⟨b2, 0, none⟩), .pointer (some ⟨b3, 0, none⟩)] (.bool (e.there (isB p act))) from
    there_in p act b1 b2 b3 hz e U (by rw [hU]; exact h.plus z) hT (by rw [hU]; exact he.plus z) hw))
  obtain ⟨b, hb⟩ : ∃ b, e.there (isB p act) = b := ⟨_, rfl⟩
  rw [hb] at kN ⊢
  clear hb he hw h hz
  obtain ⟨op, ⟨lw, lh, ll⟩, hd, nm, hi, lo, ep, ec, el⟩ := e
  simp only [Ex.op, Ex.lit, Ex.head, Ex.name, Ex.hi, Ex.lo, Ex.p, Ex.cap, Ex.args] at *
  go_enter Tryz.func72, Tryz.ntmps72
  go_upto_region 3 with (fail)
  obtain ⟨W, yy, hW, ⟨z, hz2⟩, ca, cb, cc, cd⟩ := box4r V _ _ _ _ 30 3 68 157
  rw [hW]
  have w0 : ∀ {a : Addr} {v : Value}, (∀ y, (plus W y).cell? a = some v) → W.cell? a = some v := fun h => by
    have := h ⟨#[], W.drawn⟩
    rwa [plus_self] at this
  have e0 := cc 0 _ rfl
  have e1 := cc 1 _ rfl
  have e2 := cc 2 _ rfl
  have e3 := cc 3 _ rfl
  have e4 := cc 4 _ rfl
  have e5 := cc 5 _ rfl
  have e6 := cc 6 _ rfl
  have e7 := cc 7 _ rfl
  have e8 := cc 8 _ rfl
  have d0 := cd 0 _ rfl
  have q1 := Lib.hid (kN.out W z hz2 V.heap.size (V.heap.size + 1) (V.heap.size + 1 + 1 + 1) ⟨fun j v hj => w0 (ca j _ (by simpa using hj)), w0 (cb 0 _ rfl), w0 (cd 0 _ rfl)⟩).pure
  have hz2' := Lib.hid hz2
  clear hW hz2 ca cb cc cd kN w0
  cases b with
  | true =>
    go_wp2_with (first | (refine (q1.out _).mono ?_; rintro r w' ⟨rfl, x, rfl⟩))
    go_ret
    exact ⟨rfl, by rw [hz2'.out, plus_plus]; exact ⟨_, rfl⟩⟩
  | false =>
    go_wp2_with (first | (refine (q1.out _).mono ?_; rintro r w' ⟨rfl, x, rfl⟩))
    go_ret
    exact ⟨rfl, by rw [hz2'.out, plus_plus]; exact ⟨_, rfl⟩⟩
end Go.Proofs.YtlmhldcebllckaaGreat
