/-
  WHAT IS PROVED HERE: what may be, in plain words (numbers, names, expressions), and what mayLit, litFits, nameFits, isTarget, isAmount, mayField, mayHeader and the fits of the landed ast hand back.
-/
import Derived.Test.YtlmhldcebllckaaGreatRows
import Derived.Test.YtlmhldcebllckaaGreatHb
import Derived.Test.YtlmhldcebllckaaGreatHc
import Derived.Test.YtlmhldcebllckaaGreatHd
import Derived.Test.YtlmhldcebllckaaGreatFc
import Derived.Test.YtlmhldcebllckaaGreatFd
import Derived.Test.YtlmhldcebllckaaGreatFe
import Derived.Test.YtlmhldcebllckaaGreatGE
namespace Go.Proofs.YtlmhldcebllckaaGreat
open Go.RowKit
theorem Kp.all {P : Program} {w : World} {f : FuncId} {args : Array Value} {v : Value} (h : Pure P f args v) : Kp P w f args v := fun _ => h _
def Lt.n (t : Lt) : Nat := t.h.toNat * 18446744073709551616 + t.l.toNat
theorem wf_u64 {h : Int} (k : (Lit.int .u64 h).wf = true) : 0 ≤ h ∧ h < 18446744073709551616 := by
  simp [Lit.wf, IntKind.min, IntKind.max, IntKind.signed, IntKind.bits] at k
  omega
theorem Lt.nv_eq {t : Lt} (h : t.Ok) : Value.agg #[.int .u64 t.h, .int .u64 t.l] = nv t.n := by
  have h1 := wf_u64 h.h
  have h2 := wf_u64 h.l
  have e1 : hi t.n = t.h := by unfold hi Lt.n; omega
  have e2 : lo t.n = t.l := by unfold lo Lt.n; omega
  unfold nv
  rw [e1, e2]
theorem Lt.n_lt {t : Lt} (h : t.Ok) : t.n < B128 := by
  have h1 := wf_u64 h.h
  have h2 := wf_u64 h.l
  unfold Lt.n B128
  omega
def ltB (t : Lt) : Bool := (t.w == 0) || (widthB t.w && decide (t.n % 2 ^ hw t.w = t.n))
def litB (is : Bool) (t : Lt) : Bool := if is then ltB t else ((t.w == 0) && ((t.h == 0) && (t.l == 0)))
def nmB (s : ByteArray) (p : Int) : Bool := if s.toList == [] then p != 1 else ((p != 0) && nameB s)
def endB (a b : Int) (is : Bool) : Bool := if is then (decide (0 ≤ b) && (decide (b ≤ a) && decide (a < 128))) else ((a == 0) && (b == 0))
def amtB (e : Ex) : Bool := (e.op == 1) && ((e.lit.w == 0) && decide (cmpN e.lit.n 127 ≤ 0))
def tgtB (s : ByteArray) : Bool := (s.toList == [97, 99, 99, 101, 112, 116]) || ((s.toList == [114, 101, 106, 101, 99, 116]) || nameB s)
def amt2 : List Ex → Bool
  | [_, b] => amtB b
  | _ => false
def Ex.fits (e : Ex) : Bool := litB (xLit e.op) e.lit && (nmB e.head (xHead e.op) && (nmB e.name (xName e.op) && (endB e.hi e.lo (xSlice e.op) && (((e.args.length : Int) == xArgs e.op) && (!(xShift e.op) || amt2 e.args)))))
/-- May it be, with so much room? -/
def Ex.may : Nat → Ex → Bool
  | 0, _ => false
  | n + 1, e => xIs e.op && (e.fits && eachB (xArgs e.op) (xArgs e.op) (Ex.may n) e.args)
def fdB (f : Fd) : Bool := nameB f.name && widthB f.w
def hrB (h : Hr) : Bool := nameB h.name && eachB 1 16 fdB h.fields.l
theorem name_in (s : ByteArray) (w : World) (hs : s.size ≤ 1048576) : Kp Tryz.prog w 47 #[.string s] (.bool (nameB s)) := Kp.all (tok_name s (by omega))
theorem lit_in (t : Lt) (w : World) (h : t.Ok) : Kp Tryz.prog w 96 #[.agg t.cells.toArray] (.bool (ltB t)) :=
  lit_of t.w t.h t.l _ _ w (ast_width t.w w) (Kp.all (by rw [Lt.nv_eq h]; exact num_fits t.n t.w (Lt.n_lt h)))
theorem litfits_in (t : Lt) (is : Bool) (w : World) (h : t.Ok) : Kp Tryz.prog w 165 #[.agg t.cells.toArray, .bool is] (.bool (litB is t)) := litfits_of t.w t.h t.l is _ w (lit_in t w h)
theorem namefits_in (s : ByteArray) (p : Int) (w : World) (hs : s.size ≤ 1048576) : Kp Tryz.prog w 158 #[.string s, .int .u8 p] (.bool (nmB s p)) := namefits_of s p _ w (name_in s w hs)
theorem target_in (s : ByteArray) (w : World) (hs : s.size ≤ 1048576) : Kp Tryz.prog w 133 #[.string s] (.bool (tgtB s)) := target_of s _ w (name_in s w hs)
theorem field_in (f : Fd) (w : World) (h : f.sz ≤ 1048576) : Kp Tryz.prog w 38 #[.agg f.cells.toArray] (.bool (fdB f)) := field_of f.name f.w _ _ w (name_in f.name w (by unfold Fd.sz at h; omega)) (ast_width f.w w)
theorem amount_in (e : Ex) (w : World) (h : e.In w) : Kp Tryz.prog w 167 #[.agg e.cells.toArray] (.bool (amtB e)) := by
  obtain ⟨_, _, lit, _⟩ := h
  exact amount_of e.op e.lit.w e.lit.h e.lit.l e.head e.name e.hi e.lo e.p e.args.length e.cap _ w (Kp.all (num_of 127 (by decide))) (Kp.all (by rw [Lt.nv_eq lit]; exact num_cmp e.lit.n 127))
theorem fits_in (e : Ex) (w : World) (h : e.In w) (hz : e.wt ≤ 1048576) : Kp Tryz.prog w 153 #[xVal e.op, .agg e.cells.toArray] (.bool e.fits) := by
  have h' := h
  obtain ⟨_, _, lit, _, _, hd, nm, len, cap, row, kids⟩ := h'
  have hz' := Ex.wt_eq e
  have k0 := litfits_in e.lit (xLit e.op) w lit
  have k1 := namefits_in e.head (xHead e.op) w (by omega)
  have k2 := namefits_in e.name (xName e.op) w (by omega)
  have k3 : Kp Tryz.prog w 166 #[.int .i64 e.hi, .int .i64 e.lo, .bool (xSlice e.op)] (.bool (endB e.hi e.lo (xSlice e.op))) := slicefits_of e.hi e.lo (xSlice e.op) w
  unfold xVal Ex.fits
  cases hS : xShift e.op with
  | false =>
    refine (fits_a _ _ _ _ _ e.op e.lit.w e.lit.h e.lit.l e.head e.name e.hi e.lo e.p e.args.length e.cap _ _ _ _ w k0 k1 k2 k3).eqv ?_
    simp
  | true =>
    have h2 : xArgs e.op = 2 := by
      unfold xShift at hS
      rw [Bool.or_eq_true, beq_iff_eq, beq_iff_eq] at hS
      unfold xArgs
      rw [if_neg (by omega), if_pos (by omega)]
    rw [h2]
    by_cases hn : e.args.length = 2
    · obtain ⟨a, b, hab⟩ : ∃ a b, e.args = [a, b] := by
        match e.args, hn with
        | [a, b], _ => exact ⟨a, b, rfl⟩
      obtain ⟨pa, hp, hc⟩ := row 1 b (by rw [hab]; rfl)
      have hb : b.In w := kids b (by rw [hab]; simp)
      have k4 := amount_in b w hb
      have hcells : e.cells = [.int .u8 e.op, .int .i64 e.lit.w, .int .u64 e.lit.h, .int .u64 e.lit.l, .string e.head, .string e.name, .int .i64 e.hi, .int .i64 e.lo, .slice (some pa) 2 e.cap] := by unfold Ex.cells; rw [hp, hn]
      rw [hcells]
      refine (fits_c _ _ _ _ e.op e.lit.w e.lit.h e.lit.l e.head e.name e.hi e.lo pa e.cap b.op b.lit.w b.lit.h b.lit.l b.head b.name b.hi b.lo b.p b.args.length b.cap _ _ _ _ _ w hc k0 k1 k2 k3 k4).eqv ?_
      rw [hab]
      simp [amt2]
    · refine (fits_b _ _ _ _ e.op e.lit.w e.lit.h e.lit.l e.head e.name e.hi e.lo e.p e.args.length e.cap _ _ _ _ w hn k0 k1 k2 k3).eqv ?_
      have : ((e.args.length : Int) == 2) = false := by
        first | (simp; done) | (simp; omega)
      rw [this]
      simp
end Go.Proofs.YtlmhldcebllckaaGreat
