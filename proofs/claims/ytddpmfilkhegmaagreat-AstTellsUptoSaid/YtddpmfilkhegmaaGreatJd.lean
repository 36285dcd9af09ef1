/-
  WHAT IS PROVED HERE: what the document's one, all and MayExpr of layer 4 hand back, of any expression that lies in memory and is not too great.
-/
import Derived.Test.YtddpmfilkhegmaaGreatRows
import Derived.Test.YtddpmfilkhegmaaGreatJA
import Derived.Test.YtddpmfilkhegmaaGreatJ1
import Derived.Test.YtddpmfilkhegmaaGreatJ2
import Derived.Test.YtddpmfilkhegmaaGreatJ3
import Derived.Test.YtddpmfilkhegmaaGreatJ4
import Derived.WalkKit
import Derived.Lib.Hide
import Derived.WalkSpells
import Derived.WalkLawsBesides
namespace Go.Proofs.YtddpmfilkhegmaaGreat
open Go.RowKit
def Ex.one (e : Ex) : Bool := xIs e.op && (litB (xLit e.op) e.lit && (nmB e.head (xHead e.op) && (nmB e.name (xName e.op) && (endB e.hi e.lo (xSlice e.op) && ((e.args.length : Int) == xArgs e.op)))))
theorem nm0 (s : ByteArray) : nmB s 0 = (s.toList == []) := by unfold nmB; cases (s.toList == []) <;> simp
theorem nm1 (s : ByteArray) : nmB s 1 = (!(s.toList == []) && nameB s) := by unfold nmB; cases (s.toList == []) <;> simp
theorem lit0 (t : Lt) : litB false t = ((t.w == 0) && ((t.h == 0) && (t.l == 0))) := rfl
theorem lit1 (t : Lt) : litB true t = ltB t := rfl
theorem end0 (a b : Int) : endB a b false = ((a == 0) && (b == 0)) := rfl
theorem end1 (a b : Int) : endB a b true = (decide (0 ≤ b) && (decide (b ≤ a) && decide (a ≤ 127))) := by
  unfold endB
  rw [if_pos rfl, show decide (a < 128) = decide (a ≤ 127) by rw [decide_eq_decide]; omega]
theorem one_in (e : Ex) (w : World) (h : e.In w) : Kp Tryz.prog w 96 #[.agg e.cells.toArray] (.bool e.one) := by
  obtain ⟨op, ⟨lw, lh, ll⟩, hd, nm, eh, el, p, cap, args⟩ := e
  obtain ⟨_, hop, lit, _, _, _, _, _, _, _, _⟩ := h
  have kh := rname_in hd w
  have kn := rname_in nm w
  have kl := rlit_in ⟨lw, lh, ll⟩ w lit
  have hw : 0 ≤ op := by
    simp [Lit.wf, IntKind.min, IntKind.max, IntKind.signed, IntKind.bits, Ex.op] at hop
    omega
  unfold Ex.one
  simp only [Ex.op, Ex.lit, Ex.head, Ex.name, Ex.hi, Ex.lo, Ex.args]
  by_cases c0 : op = 0
  · subst c0
    exact (one_0 lw lh ll hd nm eh el p args.length cap w).eqv (by simp [xIs])
  by_cases c1 : op = 1
  · subst c1
    refine (one_1 lw lh ll hd nm eh el p args.length cap _ w kl).eqv ?_
    rw [show xLit 1 = true from rfl, show xHead 1 = 0 from rfl, show xName 1 = 0 from rfl, show xSlice 1 = false from rfl, show xArgs 1 = 0 from rfl, show xIs 1 = true from rfl, nm0, nm0, lit1, end0]
    simp only [bne]
    cases ltB ⟨lw, lh, ll⟩ <;> cases (hd.toList == []) <;> cases (nm.toList == []) <;> cases ((eh == 0) && (el == 0)) <;> cases ((args.length : Int) == 0) <;> rfl
  by_cases c2 : op = 2
  · subst c2
    refine (one_2 lw lh ll hd nm eh el p args.length cap _ _ w kh kn).eqv ?_
    rw [show xLit 2 = false from rfl, show xHead 2 = 1 from rfl, show xName 2 = 1 from rfl, show xSlice 2 = false from rfl, show xArgs 2 = 0 from rfl, show xIs 2 = true from rfl, nm1, nm1, lit0, end0]
    simp only [bne]
    cases ((lw == 0) && ((lh == 0) && (ll == 0))) <;> cases (!(hd.toList == []) && nameB hd) <;> cases (!(nm.toList == []) && nameB nm) <;> cases ((eh == 0) && (el == 0)) <;> cases ((args.length : Int) == 0) <;> rfl
  by_cases c3 : op = 3
  · subst c3
    refine (one_3 lw lh ll hd nm eh el p args.length cap _ w kn).eqv ?_
    rw [show xLit 3 = false from rfl, show xHead 3 = 0 from rfl, show xName 3 = 1 from rfl, show xSlice 3 = false from rfl, show xArgs 3 = 0 from rfl, show xIs 3 = true from rfl, nm0, nm1, lit0, end0]
    simp only [bne]
    cases ((lw == 0) && ((lh == 0) && (ll == 0))) <;> cases (hd.toList == []) <;> cases (!(nm.toList == []) && nameB nm) <;> cases ((eh == 0) && (el == 0)) <;> cases ((args.length : Int) == 0) <;> rfl
  by_cases c4 : op = 4
  · subst c4
    refine (one_4 lw lh ll hd nm eh el p args.length cap _ w kn).eqv ?_
    rw [show xLit 4 = false from rfl, show xHead 4 = 0 from rfl, show xName 4 = 1 from rfl, show xSlice 4 = false from rfl, show xArgs 4 = 0 from rfl, show xIs 4 = true from rfl, nm0, nm1, lit0, end0]
    simp only [bne]
    cases ((lw == 0) && ((lh == 0) && (ll == 0))) <;> cases (hd.toList == []) <;> cases (!(nm.toList == []) && nameB nm) <;> cases ((eh == 0) && (el == 0)) <;> cases ((args.length : Int) == 0) <;> rfl
  by_cases c5 : op = 5
  · subst c5
    refine (one_5 lw lh ll hd nm eh el p args.length cap w).eqv ?_
    rw [show xLit 5 = false from rfl, show xHead 5 = 0 from rfl, show xName 5 = 0 from rfl, show xSlice 5 = false from rfl, show xArgs 5 = 0 from rfl, show xIs 5 = true from rfl, nm0, nm0, lit0, end0]
    simp only [bne]
    cases ((lw == 0) && ((lh == 0) && (ll == 0))) <;> cases (hd.toList == []) <;> cases (nm.toList == []) <;> cases ((eh == 0) && (el == 0)) <;> cases ((args.length : Int) == 0) <;> rfl
  by_cases c6 : op = 6
  · subst c6
    refine (one_6 lw lh ll hd nm eh el p args.length cap _ w kh).eqv ?_
    rw [show xLit 6 = false from rfl, show xHead 6 = 1 from rfl, show xName 6 = 0 from rfl, show xSlice 6 = false from rfl, show xArgs 6 = 0 from rfl, show xIs 6 = true from rfl, nm1, nm0, lit0, end0]
    simp only [bne]
    cases ((lw == 0) && ((lh == 0) && (ll == 0))) <;> cases (!(hd.toList == []) && nameB hd) <;> cases (nm.toList == []) <;> cases ((eh == 0) && (el == 0)) <;> cases ((args.length : Int) == 0) <;> rfl
  by_cases c7 : op = 7
  · subst c7
    refine (one_7 lw lh ll hd nm eh el p args.length cap w).eqv ?_
    rw [show xLit 7 = false from rfl, show xHead 7 = 0 from rfl, show xName 7 = 0 from rfl, show xSlice 7 = false from rfl, show xArgs 7 = 1 from rfl, show xIs 7 = true from rfl, nm0, nm0, lit0, end0]
    simp only [bne]
    cases ((lw == 0) && ((lh == 0) && (ll == 0))) <;> cases (hd.toList == []) <;> cases (nm.toList == []) <;> cases ((eh == 0) && (el == 0)) <;> cases ((args.length : Int) == 1) <;> rfl
  by_cases c8 : op = 8
  · subst c8
    refine (one_8 lw lh ll hd nm eh el p args.length cap w).eqv ?_
    rw [show xLit 8 = false from rfl, show xHead 8 = 0 from rfl, show xName 8 = 0 from rfl, show xSlice 8 = false from rfl, show xArgs 8 = 1 from rfl, show xIs 8 = true from rfl, nm0, nm0, lit0, end0]
    simp only [bne]
    cases ((lw == 0) && ((lh == 0) && (ll == 0))) <;> cases (hd.toList == []) <;> cases (nm.toList == []) <;> cases ((eh == 0) && (el == 0)) <;> cases ((args.length : Int) == 1) <;> rfl
  by_cases c9 : op = 9
  · subst c9
    refine (one_9 lw lh ll hd nm eh el p args.length cap w).eqv ?_
    rw [show xLit 9 = false from rfl, show xHead 9 = 0 from rfl, show xName 9 = 0 from rfl, show xSlice 9 = false from rfl, show xArgs 9 = 1 from rfl, show xIs 9 = true from rfl, nm0, nm0, lit0, end0]
    simp only [bne]
    cases ((lw == 0) && ((lh == 0) && (ll == 0))) <;> cases (hd.toList == []) <;> cases (nm.toList == []) <;> cases ((eh == 0) && (el == 0)) <;> cases ((args.length : Int) == 1) <;> rfl
  by_cases c10 : op = 10
  · subst c10
    refine (one_10 lw lh ll hd nm eh el p args.length cap w).eqv ?_
    rw [show xLit 10 = false from rfl, show xHead 10 = 0 from rfl, show xName 10 = 0 from rfl, show xSlice 10 = true from rfl, show xArgs 10 = 1 from rfl, show xIs 10 = true from rfl, nm0, nm0, lit0, end1]
    simp only [bne]
    cases ((lw == 0) && ((lh == 0) && (ll == 0))) <;> cases (hd.toList == []) <;> cases (nm.toList == []) <;> cases (decide (0 ≤ el) && (decide (el ≤ eh) && decide (eh ≤ 127))) <;> cases ((args.length : Int) == 1) <;> rfl
  by_cases c11 : op ≤ 26
  · refine (one_11 op lw lh ll hd nm eh el p args.length cap w ⟨by omega, c11⟩).eqv ?_
    rw [show xLit op = false by unfold xLit; simp; omega, show xHead op = 0 by unfold xHead; rw [if_neg (by omega)], show xName op = 0 by unfold xName; rw [if_neg (by omega)], show xSlice op = false by unfold xSlice; simp; omega,
      show xArgs op = 2 by unfold xArgs; rw [if_neg (by omega), if_pos (by omega)], show xIs op = true by unfold xIs; exact decide_eq_true (by omega), nm0, nm0, lit0, end0]
    simp only [bne]
    cases ((lw == 0) && ((lh == 0) && (ll == 0))) <;> cases (hd.toList == []) <;> cases (nm.toList == []) <;> cases ((eh == 0) && (el == 0)) <;> cases ((args.length : Int) == 2) <;> rfl
  · refine (one_27 op lw lh ll hd nm eh el p args.length cap w (by omega)).eqv ?_
    rw [show xIs op = false by unfold xIs; exact decide_eq_false (by omega)]
    rfl
end Go.Proofs.YtddpmfilkhegmaaGreat
