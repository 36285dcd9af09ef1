/-
  WHAT IS PROVED HERE: the given statement TextPlacesCardSaid: for every text, number, place and error the law TextPlaces returns true and leaves its arguments as they were; the library's tables that the row lists are tied to the program's text. No condition beyond the row's own.
-/
import Derived.Test.YtmkcnkbeoddgeaaDoorRows
import Derived.Test.YtmkcnkbeoddgeaaDoorCards
import Derived.Test.YtmkcnkbeoddgeaaDoorTie
import Derived.Test.YtmkcnkbeoddgeaaDoorTl
import Derived.Test.YtmkcnkbeoddgeaaDoorTk
import Derived.Lib.SmallJoins
import Derived.SevenTiedAt
namespace Go.Proofs.YtmkcnkbeoddgeaaDoor
open Go.ChangeShapes Go.WideShapes Go.ChangeAt Go.RowKit Go.Joins
open Go.ChangeMaps (open_string shut_string)
theorem cellsPlace : Tryd.prog.cellsOf 23 = 2 := by kernel_rfl
set_option maxRecDepth 100000 in
theorem places_lifted (os : Os) (started : os.Started) (H : Type) (enc : TypeId × Value → H) :
    ReturnsInHanded {} Tryd.checked os 3 .any (fun w args => (Rows.textPlacesSpec.pre enc Tryd.prog Tryd.f3 [] false w args ∧ laidMetH Tryd.prog laid3 w) ∧ sizedMet enc Tryd.prog Tryd.f3 (OpenSpec.ofChange Rows.textPlacesSpec) false w args)
      (Rows.textPlacesSpec.post enc Tryd.prog Tryd.f3 false true false false) := by
  refine returnsInHanded_of_change_and (C := Tryd.checked) (X := fun w _ => laidMetH Tryd.prog laid3 w) (fun _ _ _ hh h => h.of_heap hh) ownK started (by kernel_rfl) Tryd.func3
    (ChangeSpec.witness_shaped (enc := enc) (C := Tryd.checked) (os := os) (X := fun w _ => laidMetH Tryd.prog laid3 w) false (World.doorLaid Tryd.prog 400 os) #[.string ByteArray.empty, .int .i64 0, .agg #[.int .i64 0, .int .i64 0], .int .i64 0] 8 rfl (World.shaped_of_RefB (by kernel_rfl) (by kernel_rfl)) (by kernel_rfl) (by kernel_rfl) (by kernel_rfl) (door_met os _)) ?_
  intro W base args ds gs before hval0 hW _ _ hL _
  have hval : ∀ (j : Nat) t v, Tryd.f3.params[j]? = some t → args[j]? = some v → Value.okWide Tryd.prog W .any base t v := hval0
  have hW' := hW
  obtain ⟨p, q, hA0, hV, rfl, hfz, hnd⟩ := hW
  have hA : DataW.TrodAll enc Tryd.prog W 0 (fun _ => true) true Tryd.f3.params.toList args.toList ds p := hA0
  rw [Tryd.params3] at hA hval
  obtain ⟨v0, v1, v2, v3, d0, d1, d2, d3, p0, p1, p2, p3, rfl, rfl, rfl, h0, h1, h2, h3⟩ := trodAll_four hA
  obtain ⟨rfl, rfl⟩ := trodVars_none hV
  obtain ⟨s, rfl, rfl, rfl, hs⟩ := open_string Tryd.underlying9 (hval 0 9 v0 rfl rfl) h0
  obtain ⟨a, rfl, rfl, rfl, wa⟩ := open_int Tryd.underlying3 (hval 1 3 v1 rfl rfl) h1
  obtain ⟨k0, l0, y0, z0, m0, rfl, rfl, rfl, u0, t0⟩ := open_agg2 Tryd.underlying23 (by kernel_rfl) cellsPlace (hval 2 23 v2 rfl rfl) h2
  obtain ⟨L, e0, rfl, wL⟩ := DataW.trod_int Tryd.underlying3 u0
  obtain ⟨C, f0, rfl, wC⟩ := DataW.trod_int Tryd.underlying3 t0
  simp at e0 f0
  subst e0 f0
  obtain ⟨e, rfl, rfl, rfl, we⟩ := open_int Tryd.underlying24 (hval 3 24 v3 rfl rfl) h3
  clear hA0 hval0
  simp only [List.append_nil] at hW'
  have bA := bounds_i64 wa
  have bL := bounds_i64 wL
  have bC := bounds_i64 wC
  refine (places_walk s a L C e bA.1 (by omega) bL.1 (by omega) bC.1 (by omega) W (tab_of hL)).mono fun e' W' ⟨he, y, hw⟩ => ?_
  subst he; subst hw
  have hg := below_plus W y
  refine ⟨_, rfl, _, _, _, [], [], [], hW', ?_, ?_, ?_, hg.frame _, fun h => by cases h⟩
  · exact trodAll_mk1 (shut_bool Tryd.underlying4 true)
  · exact trodAll_mk4 (shut_string Tryd.underlying9 hs) (shut_int Tryd.underlying3 wa) (shut_agg2 (y0 := (.lit (.int .i64 L), [])) (y1 := (.lit (.int .i64 C), [])) Tryd.underlying23 (by kernel_rfl) cellsPlace ⟨1, by simp [DataW.trod, Tryd.underlying3, wL]⟩ ⟨1, by simp [DataW.trod, Tryd.underlying3, wC]⟩) (shut_int Tryd.underlying24 we)
  · rfl
theorem places_row : Rows.TextPlacesSaid :=
  OpenClaim.holds_of_wide 3 Tryd.f3 rfl rfl rfl rfl rfl rfl rfl ⟨rfl, rfl, rfl, rfl, rfl⟩ rfl rfl rfl rfl rfl (by kernel_rfl) Tryd.func3 (by kernel_rfl)
    (of_decide_eq_true (by kernel_rfl)) (by unfold Func.isWrapper; first | (rw [if_pos (by decide +kernel)]; kernel_rfl) | (rw [if_neg (by decide +kernel)]; exact ⟨rfl, rfl⟩))
    (fun os started H enc _ => places_lifted os started H enc)
/-- The given statement. -/
theorem places_holds : Rows.TextPlacesCardSaid :=
  Claim7.holds_tied_plain_at .later [] [.data, .data, .data] true (true, "9daa27f7b17d973dc0d395a0e93842338107a63f86bc1ba8781c7b687b7ed017") false
    places_row (fun _ h => by cases h) (by kernel_rfl) (fun _ h => by cases h) textPlaces_row_tie rfl ⟨rfl, rfl⟩ (by kernel_rfl) rfl
    (fun f fn hf hfn => by
      obtain rfl : f = 3 := Option.some.inj ((show Tryd.prog.funcNamed "quillon/quillonlaw02.TextPlaces" = some 3 by kernel_rfl).symm.trans hf) |>.symm
      obtain rfl : fn = Tryd.f3 := (Option.some.inj (Tryd.func3.symm.trans hfn)).symm
      exact ⟨by kernel_rfl, fun j t ht => by
        rw [Tryd.params3] at ht
        have hm : t ∈ [9, 3, 23, 24] := by simpa using Array.mem_of_getElem? ht
        have hall : ([9, 3, 23, 24].all fun u => !Tryd.prog.wantsStandIn u) = true := by kernel_rfl
        exact (show Tryd.prog.wantsStandIn t = false by simpa using List.all_eq_true.1 hall t hm)⟩)
    (by kernel_rfl)
end Go.Proofs.YtmkcnkbeoddgeaaDoor
