/-
  WHAT IS PROVED HERE: the given statement NumBackSaid: for every number of 128 bits and every text the law NumBack returns true and leaves its arguments as they were. No condition beyond the row's own.
-/
import Derived.Test.YtdngncblilkchaaRows
import Derived.Test.YtdngncblilkchaaNi
import Derived.ProofKit
import Derived.Lib.SmallJoins
import Derived.OpenShut
namespace Go.Proofs.Ytdngncblilkchaa
open Go.ChangeShapes Go.WideShapes Go.ChangeAt Go.RowKit Go.Joins
open Go.ChangeMaps (setBlock shut_map_nil open_string shut_string keptBut_setBlock frozen?_setBlock heap_setBlock_same)

theorem Try.ownB : ownKnob Try.prog.godebug = none := by kernel_rfl
theorem Try.cellsNumB : Try.prog.cellsOf 24 = 2 := by kernel_rfl
/-- Two halves are a number. -/
theorem nv_ofB (h l : Int) (h0 : 0 ≤ h) (h1 : h < 18446744073709551616) (l0 : 0 ≤ l) (l1 : l < 18446744073709551616) : ∃ n, n < B128 ∧ hi n = h ∧ lo n = l := by
  refine ⟨h.toNat * 18446744073709551616 + l.toNat, by unfold B128; omega, ?_, ?_⟩
  · unfold hi; omega
  · unfold lo; omega
set_option maxRecDepth 100000 in
theorem back_lifted (os : Os) (started : os.Started) (H : Type) (enc : TypeId × Value → H) :
    ReturnsInHanded {} Try.checked os 5 .any (Rows.numBackSpec.pre6 enc Try.prog Try.f5 Rows.numBackRow.domain false) (Rows.numBackSpec.post enc Try.prog Try.f5 false true false false) := by
  refine returnsInHanded_of_change (C := Try.checked) Try.ownB started (by kernel_rfl) Try.func5
    (ChangeSpec.witness6 (enc := enc) (C := Try.checked) false ⟨#[], #[.agg #[.int .u64 0, .int .u64 0], .string ByteArray.empty], []⟩ 8 (by kernel_rfl) (by kernel_rfl) (by kernel_rfl) (by kernel_rfl)) ?_
  intro W base args ds gs before hval0 hW hcnd _
  have hval : ∀ (j : Nat) t v, Try.f5.params[j]? = some t → args[j]? = some v → Value.okWide Try.prog W .any base t v := hval0
  have hW' := hW
  obtain ⟨p, q, hA0, hV, rfl, hfz, hnd⟩ := hW
  have hA : DataW.TrodAll enc Try.prog W 0 (fun _ => true) true Try.f5.params.toList args.toList ds p := hA0
  rw [Try.params5] at hA hval
  obtain ⟨v0, v1, d0, d1, p0, p1, rfl, rfl, rfl, h0, h1⟩ := trodAll_two hA
  obtain ⟨rfl, rfl⟩ := trodVars_none hV
  obtain ⟨k0, l0, y0, z0, m0, rfl, rfl, rfl, u0, t0⟩ := open_agg2 Try.underlying24 (by kernel_rfl) Try.cellsNumB (hval 0 24 v0 rfl rfl) h0
  obtain ⟨a0, e0, rfl, wa0⟩ := DataW.trod_int Try.underlying22 u0
  obtain ⟨b0, f0, rfl, wb0⟩ := DataW.trod_int Try.underlying22 t0
  simp at e0 f0
  subst e0 f0
  have A0 := bounds_u64 wa0
  have B0 := bounds_u64 wb0
  obtain ⟨s, rfl, rfl, rfl, hs⟩ := open_string Try.underlying9 (hval 1 9 v1 rfl rfl) h1
  clear hA0 hval0
  simp only [List.append_nil] at hW'
  obtain ⟨n0, N0, rfl, rfl⟩ := nv_ofB a0 b0 A0.1 (by omega) B0.1 (by omega)
  have numReads : ∀ (W' : World) (sp : Nat → Bool), DataW.Trod enc Try.prog W' 0 sp true 24 (nv n0) (.agg [.lit (.int .u64 (hi n0)), .lit (.int .u64 (lo n0))]) [] := fun W' sp =>
    shut_agg2 (y0 := (.lit (.int .u64 (hi n0)), [])) (y1 := (.lit (.int .u64 (lo n0)), [])) Try.underlying24 (by kernel_rfl) Try.cellsNumB ⟨1, by simp [DataW.trod, Try.underlying22, wa0]⟩ ⟨1, by simp [DataW.trod, Try.underlying22, wb0]⟩
  refine (back_walk n0 s N0 hs W).mono fun e W' ⟨he, y, hw⟩ => ?_
  subst he; subst hw
  have hg := below_plus W y
  refine ⟨_, rfl, _, _, _, [], [], [], hW', ?_, ?_, ?_, hg.frame _, fun h => by cases h⟩
  · exact trodAll_mk1 (shut_bool Try.underlying4 true)
  · exact trodAll_mk2 (numReads _ _) (shut_string Try.underlying9 hs)
  · rfl
/-- The given statement. -/
theorem back_holds : Rows.NumBackSaid :=
  OpenClaim.holds_of_wide 5 Try.f5 rfl rfl rfl rfl rfl rfl rfl ⟨rfl, rfl, rfl, rfl, rfl⟩ rfl rfl rfl rfl rfl (by kernel_rfl) Try.func5 (by kernel_rfl)
    (of_decide_eq_true (by kernel_rfl)) (by unfold Func.isWrapper; first | (rw [if_pos (by decide +kernel)]; kernel_rfl) | (rw [if_neg (by decide +kernel)]; exact ⟨rfl, rfl⟩))
    (fun os started H enc _ => back_lifted os started H enc)
end Go.Proofs.Ytdngncblilkchaa
