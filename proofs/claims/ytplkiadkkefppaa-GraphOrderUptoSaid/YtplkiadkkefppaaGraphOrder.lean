/-
  WHAT IS PROVED HERE: GraphOrder, of programs of bulk at most 1048576: in the order each state is once, and ahead of those to which it goes; what is reached is the first one, and what those go to; where there is no order one is on a cycle. No condition but the bound on the bulk.
-/
import Derived.Test.YtplkiadkkefppaaRows
import Derived.Test.YtplkiadkkefppaaOp
import Derived.Carry
import Derived.ProofKit
import Derived.OpenShut
import Derived.JoinedCond
namespace Go.Proofs.Ytplkiadkkefppaa
open Go.ChangeShapes Go.WideShapes Go.ChangeAt Go.RowKit
theorem Try.own : ownKnob Try.prog.godebug = none := by kernel_rfl
theorem Try.laidOut : laidOutB Try.prog = true := by kernel_rfl
theorem agg_of {v : Value} {cs : List Value} (h : v.cells.toList = cs) (hl : cs.length ≠ 1) : v = .agg cs.toArray := by
  cases v with
  | agg c =>
    simp only [Value.cells] at h
    rw [← h]
  | _ => simp only [Value.cells] at h; subst h; simp at hl
theorem order_in (p : Pr) (V : World) (hin : p.In V) (hz : p.sz ≤ 1048576) : Calls Try.prog 3 #[.agg p.cells.toArray] V fun e w' => e = .returned (.bool true) ∧ ∃ x, w' = plus V x := by
  have h : Calls Try.prog 3 #[prV p] V fun e W => e = .returned (.bool true) ∧ Below V.heap.size V W := by
    cases hg : greatP p with
    | true => exact order_great p V hin hz hg
    | false =>
      cases ho : orderF (edgesF p.states.l) with
      | none => exact order_cycle p V hin hz hg ho
      | some o => exact order_main p V hin hz hg o ho
  rw [prV_cells] at h
  exact h.mono fun e W ⟨he, hB⟩ => ⟨he, plus_of_below hB⟩
set_option maxRecDepth 100000 in
theorem order_lifted (os : Os) (started : os.Started) (H : Type) (enc : TypeId × Value → H) (F : Stop.Interp) :
    ReturnsInHanded {} Try.checked os 3 .any ((Rows.OpenSpec.upto Rows.graphOrderSpec).pre6 enc Try.prog Try.f3 Rows.graphOrderUptoRow.domain false) (((Rows.OpenSpec.upto Rows.graphOrderSpec).at F).post enc Try.prog Try.f3 false true false false) := by
  refine returnsInHanded_of_cond (C := Try.checked) (s := Rows.OpenSpec.upto Rows.graphOrderSpec) (k := Rows.uptoSmall) rfl Try.own started (by kernel_rfl) Try.func3
    (OpenSpec.witness (enc := enc) (C := Try.checked) (s := Rows.OpenSpec.upto Rows.graphOrderSpec) (k := Rows.uptoSmall) rfl false
      ⟨#[], #[.agg #[.slice none 0 0, .slice none 0 0, .slice none 0 0, .slice none 0 0, .slice none 0 0, .slice none 0 0, .slice none 0 0]], []⟩ 8 (by kernel_rfl) (by kernel_rfl) (by kernel_rfl)
      (x := ([.agg [.nil, .nil, .nil, .nil, .nil, .nil, .nil]], [], [])) (by kernel_rfl) rfl (by kernel_rfl)) ?_
  intro W base args ds gs before _ hW _ hk _
  have hW' := hW
  obtain ⟨p, q, hA0, hV, rfl, hfz, hnd⟩ := hW
  have hA : DataW.TrodAll enc Try.prog W 0 (fun _ => true) true Try.f3.params.toList args.toList ds p := hA0
  rw [Try.params3] at hA
  obtain ⟨v0, d0, rfl, rfl, h0⟩ := trodAll_one hA
  obtain ⟨rfl, rfl⟩ := trodVars_none hV
  clear hA0
  have hlt := hW'.lt
  simp only [List.append_nil] at hW' hlt
  have hbulk : Rows.uptoBulkAll ([d0] ++ []) ≤ 1048576 := of_decide_eq_true hk
  simp only [List.append_nil, Rows.uptoBulkAll] at hbulk
  obtain ⟨f0, t0⟩ := id h0
  obtain ⟨a, ea, ia, sa⟩ := open_Pr _ _ t0
  have g0 := agg_of ea (by simp [Pr.cells])
  have hcall := order_in a W ia (by simp only at sa; omega)
  rw [← g0] at hcall
  refine hcall.mono fun r W' ⟨hr, y, hw⟩ => ?_
  subst hr; subst hw
  have hg := below_plus W y
  refine ⟨_, rfl, _, _, _, [], p, [], hW', trodAll_mk1 (shut_bool Try.underlying4 true), ?_, rfl, hg.frame _, fun h => by cases h⟩
  exact trodAll_mk1 (Below.trod Try.laidOut (by kernel_rfl) (of_decide_eq_true (by kernel_rfl)) h0 hg (fun x hx => hlt x (by simp [hx])))
/-- The given statement. -/
theorem graph_holds : Rows.GraphOrderUptoSaid :=
  OpenClaim.holds_of_cond 3 Try.f3 rfl rfl rfl rfl rfl rfl rfl ⟨rfl, rfl, rfl, rfl, rfl⟩ rfl rfl rfl rfl rfl (by kernel_rfl) Try.func3 (by kernel_rfl)
    (of_decide_eq_true (by kernel_rfl)) (by unfold Func.isWrapper; first | (rw [if_pos (by decide +kernel)]; kernel_rfl) | (rw [if_neg (by decide +kernel)]; exact ⟨rfl, rfl⟩))
    (fun os started H enc _ F => order_lifted os started H enc F)
end Go.Proofs.Ytplkiadkkefppaa
