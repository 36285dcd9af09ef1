/-
  WHAT IS PROVED HERE: the given statement NumBitsSaid: for every two numbers of 128 bits and every two amounts the law NumBits returns true and leaves its arguments as they were. No condition beyond the row's own.
-/
import Derived.Test.YtdngncblilkchaaRows
import Derived.Test.YtdngncblilkchaaNj
import Derived.ProofKit
import Derived.Lib.SmallJoins
import Derived.OpenShut
namespace Go.Proofs.Ytdngncblilkchaa
open Go.ChangeShapes Go.WideShapes Go.ChangeAt Go.RowKit Go.Joins

theorem Try.own : ownKnob Try.prog.godebug = none := by kernel_rfl
theorem Try.cellsNum : Try.prog.cellsOf 24 = 2 := by kernel_rfl
/-- Two halves are a number. -/
theorem nv_of (h l : Int) (h0 : 0 ≤ h) (h1 : h < 18446744073709551616) (l0 : 0 ≤ l) (l1 : l < 18446744073709551616) : ∃ n, n < B128 ∧ hi n = h ∧ lo n = l := by
  refine ⟨h.toNat * 18446744073709551616 + l.toNat, by unfold B128; omega, ?_, ?_⟩
  · unfold hi; omega
  · unfold lo; omega
set_option maxRecDepth 100000 in
theorem bits_lifted (os : Os) (started : os.Started) (H : Type) (enc : TypeId × Value → H) :
    ReturnsInHanded {} Try.checked os 3 .any (Rows.numBitsSpec.pre6 enc Try.prog Try.f3 Rows.numBitsRow.domain false) (Rows.numBitsSpec.post enc Try.prog Try.f3 false true false false) := by
  refine returnsInHanded_of_change (C := Try.checked) Try.own started (by kernel_rfl) Try.func3
    (ChangeSpec.witness6 (enc := enc) (C := Try.checked) false ⟨#[], #[.agg #[.int .u64 0, .int .u64 0], .agg #[.int .u64 0, .int .u64 0], .int .i64 0, .int .i64 0], []⟩ 8 (by kernel_rfl) (by kernel_rfl) (by kernel_rfl) (by kernel_rfl)) ?_
  intro W base args ds gs before hval0 hW hcnd _
  have hval : ∀ (j : Nat) t v, Try.f3.params[j]? = some t → args[j]? = some v → Value.okWide Try.prog W .any base t v := hval0
  have hW' := hW
  obtain ⟨p, q, hA0, hV, rfl, hfz, hnd⟩ := hW
  have hA : DataW.TrodAll enc Try.prog W 0 (fun _ => true) true Try.f3.params.toList args.toList ds p := hA0
  rw [Try.params3] at hA hval
  obtain ⟨v0, v1, v2, v3, d0, d1, d2, d3, p0, p1, p2, p3, rfl, rfl, rfl, h0, h1, h2, h3⟩ := trodAll_four hA
  obtain ⟨rfl, rfl⟩ := trodVars_none hV
  obtain ⟨k0, l0, y0, z0, m0, rfl, rfl, rfl, u0, t0⟩ := open_agg2 Try.underlying24 (by kernel_rfl) Try.cellsNum (hval 0 24 v0 rfl rfl) h0
  obtain ⟨a0, e0, rfl, wa0⟩ := DataW.trod_int Try.underlying22 u0
  obtain ⟨b0, f0, rfl, wb0⟩ := DataW.trod_int Try.underlying22 t0
  simp at e0 f0
  subst e0 f0
  have A0 := bounds_u64 wa0
  have B0 := bounds_u64 wb0
  obtain ⟨k1, l1, y1, z1, m1, rfl, rfl, rfl, u1, t1⟩ := open_agg2 Try.underlying24 (by kernel_rfl) Try.cellsNum (hval 1 24 v1 rfl rfl) h1
  obtain ⟨a1, e1, rfl, wa1⟩ := DataW.trod_int Try.underlying22 u1
  obtain ⟨b1, f1, rfl, wb1⟩ := DataW.trod_int Try.underlying22 t1
  simp at e1 f1
  subst e1 f1
  have A1 := bounds_u64 wa1
  have B1 := bounds_u64 wb1
  obtain ⟨u, rfl, rfl, rfl, wu⟩ := open_int Try.underlying3 (hval 2 3 v2 rfl rfl) h2
  obtain ⟨x, rfl, rfl, rfl, wx⟩ := open_int Try.underlying3 (hval 3 3 v3 rfl rfl) h3
  clear hA0 hval0
  simp only [List.append_nil] at hW'
  obtain ⟨n0, N0, rfl, rfl⟩ := nv_of a0 b0 A0.1 (by omega) B0.1 (by omega)
  obtain ⟨n1, N1, rfl, rfl⟩ := nv_of a1 b1 A1.1 (by omega) B1.1 (by omega)
  have numReads : ∀ (n : Nat) (h1 : (Lit.int .u64 (hi n)).wf = true) (h2 : (Lit.int .u64 (lo n)).wf = true) (W' : World) (sp : Nat → Bool), DataW.Trod enc Try.prog W' 0 sp true 24 (nv n) (.agg [.lit (.int .u64 (hi n)), .lit (.int .u64 (lo n))]) [] := fun n h1 h2 W' sp =>
    shut_agg2 (y0 := (.lit (.int .u64 (hi n)), [])) (y1 := (.lit (.int .u64 (lo n)), [])) Try.underlying24 (by kernel_rfl) Try.cellsNum ⟨1, by simp [DataW.trod, Try.underlying22, h1]⟩ ⟨1, by simp [DataW.trod, Try.underlying22, h2]⟩
  refine (bits_walk n0 n1 u x N0 N1 (bounds_i64 wu).2 W).mono fun e W' ⟨he, y, hw⟩ => ?_
  subst he; subst hw
  have hg := below_plus W y
  refine ⟨_, rfl, _, _, _, [], [], [], hW', ?_, ?_, ?_, hg.frame _, fun h => by cases h⟩
  · exact trodAll_mk1 (shut_bool Try.underlying4 true)
  · exact trodAll_mk4 (numReads n0 wa0 wb0 _ _) (numReads n1 wa1 wb1 _ _) (shut_int Try.underlying3 wu) (shut_int Try.underlying3 wx)
  · rfl
/-- The given statement. -/
theorem bits_holds : Rows.NumBitsSaid :=
  OpenClaim.holds_of_wide 3 Try.f3 rfl rfl rfl rfl rfl rfl rfl ⟨rfl, rfl, rfl, rfl, rfl⟩ rfl rfl rfl rfl rfl (by kernel_rfl) Try.func3 (by kernel_rfl)
    (of_decide_eq_true (by kernel_rfl)) (by unfold Func.isWrapper; first | (rw [if_pos (by decide +kernel)]; kernel_rfl) | (rw [if_neg (by decide +kernel)]; exact ⟨rfl, rfl⟩))
    (fun os started H enc _ => bits_lifted os started H enc)
end Go.Proofs.Ytdngncblilkchaa
