/-
  WHAT IS PROVED HERE: what may be, in plain words (numbers, names, expressions), and what mayLit, litFits, nameFits, isTarget, isAmount, mayField, mayHeader and the fits of the landed ast hand back.
-/
import Derived.Test.YtplkiadkkefppaaRows
import Derived.Test.YtplkiadkkefppaaHb
import Derived.Test.YtplkiadkkefppaaHc
import Derived.Test.YtplkiadkkefppaaHd
import Derived.Test.YtplkiadkkefppaaFc
import Derived.Test.YtplkiadkkefppaaFd
import Derived.Test.YtplkiadkkefppaaFe
import Derived.Test.YtplkiadkkefppaaGE
namespace Go.Proofs.Ytplkiadkkefppaa
open Go.RowKit
theorem Kp.all {P : Program} {w : World} {f : FuncId} {args : Array Value} {v : Value} (h : Pure P f args v) : Kp P w f args v := fun _ => h _
def Lt.n (t : Lt) : Nat := t.h.toNat * 18446744073709551616 + t.l.toNat
theorem wf_u64 {h : Int} (k : (Lit.int .u64 h).wf = true) : 0 ≤ h ∧ h < 18446744073709551616 := by
  simp [Lit.wf, IntKind.min, IntKind.max, IntKind.signed, IntKind.bits] at k
  omega
theorem Lt.nv_eq {t : Lt} (h : t.Ok) : Value.agg #[.int .u64 t.h, .int .u64 t.l] = nv t.n := by
  have h1 := wf_u64 h.h
  have h2 := wf_u64 h.l
  have e1 : hi t.n = t.h := by unfold hi Lt.n; omega
  have e2 : lo t.n = t.l := by unfold lo Lt.n; omega
  unfold nv
  rw [e1, e2]
theorem Lt.n_lt {t : Lt} (h : t.Ok) : t.n < B128 := by
  have h1 := wf_u64 h.h
  have h2 := wf_u64 h.l
  unfold Lt.n B128
  omega
def ltB (t : Lt) : Bool := (t.w == 0) || (widthB t.w && decide (t.n % 2 ^ hw t.w = t.n))
def litB (is : Bool) (t : Lt) : Bool := if is then ltB t else ((t.w == 0) && ((t.h == 0) && (t.l == 0)))
def nmB (s : ByteArray) (p : Int) : Bool := if s.toList == [] then p != 1 else ((p != 0) && nameB s)
def endB (a b : Int) (is : Bool) : Bool := if is then (decide (0 ≤ b) && (decide (b ≤ a) && decide (a < 128))) else ((a == 0) && (b == 0))
def amtB (e : Ex) : Bool := (e.op == 1) && ((e.lit.w == 0) && decide (cmpN e.lit.n 127 ≤ 0))
def tgtB (s : ByteArray) : Bool := (s.toList == [97, 99, 99, 101, 112, 116]) || ((s.toList == [114, 101, 106, 101, 99, 116]) || nameB s)
def amt2 : List Ex → Bool
  | [_, b] => amtB b
  | _ => false
def Ex.fits (e : Ex) : Bool := litB (xLit e.op) e.lit && (nmB e.head (xHead e.op) && (nmB e.name (xName e.op) && (endB e.hi e.lo (xSlice e.op) && (((e.args.length : Int) == xArgs e.op) && (!(xShift e.op) || amt2 e.args)))))
/-- May it be, with so much room? -/
def Ex.may : Nat → Ex → Bool
  | 0, _ => false
  | n + 1, e => xIs e.op && (e.fits && eachB (xArgs e.op) (xArgs e.op) (Ex.may n) e.args)
def fdB (f : Fd) : Bool := nameB f.name && widthB f.w
def hrB (h : Hr) : Bool := nameB h.name && eachB 1 16 fdB h.fields.l
end Go.Proofs.Ytplkiadkkefppaa
