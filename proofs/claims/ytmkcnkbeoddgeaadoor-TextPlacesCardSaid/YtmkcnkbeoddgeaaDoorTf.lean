/-
  WHAT IS PROVED HERE: what text.Word and the document's Word hand back, of any error. No condition.
-/
import Derived.Test.YtmkcnkbeoddgeaaDoorRows
import Derived.Test.YtmkcnkbeoddgeaaDoorKit
import Derived.Test.YtmkcnkbeoddgeaaDoorTa
import Derived.WalkKit
import Derived.WalkSpells
import Derived.WalkLawsBesides
namespace Go.Proofs.YtmkcnkbeoddgeaaDoor
open Go.RowKit
theorem abs_world {P : Program} {c : Code} {Q : Exit → Act → World → Prop} {a : Act} {W : World} {T : World → Prop} (h : ∀ W, T W → c.wp P Q a W) (hT : T W) : c.wp P Q a W := h W hT
def wordTab : Array ByteArray := #[⟨#[111, 107]⟩, ⟨#[110, 105, 108]⟩, ⟨#[97, 114, 103]⟩, ⟨#[108, 111, 110, 103]⟩, ⟨#[102, 111, 114, 109]⟩, ⟨#[111, 118, 101, 114]⟩, ⟨#[100, 101, 101, 112]⟩, ⟨#[110, 111, 110, 101]⟩, ⟨#[116, 119, 105, 99, 101]⟩, ⟨#[107, 105, 110, 100]⟩, ⟨#[119, 105, 100, 116, 104]⟩, ⟨#[99, 121, 99, 108, 101]⟩, ⟨#[102, 117, 108, 108]⟩, ⟨#[115, 104, 111, 114, 116]⟩, ⟨#[115, 116, 97, 116, 101]⟩, ⟨#[115, 117, 109]⟩]
def otherB : ByteArray := ⟨#[111, 116, 104, 101, 114]⟩
/-- An error's word. -/
def wordOf (e : Int) : ByteArray := if 0 ≤ e ∧ e < 16 then wordTab.getD e.toNat otherB else otherB
theorem wordOf_in (k : Nat) (h : k < 16) : wordOf (k : Int) = wordTab.getD k otherB := by
  unfold wordOf; rw [if_pos ⟨by omega, by omega⟩]; rfl
theorem wordOf_out (e : Int) (h : ¬ (0 ≤ e ∧ e < 16)) : wordOf e = otherB := by unfold wordOf; rw [if_neg h]
/-- A block of the sixteen words. -/
def wordCells : Array Value := wordTab.map Value.string
theorem wordCells_eq : wordCells = #[.string ⟨#[111, 107]⟩, .string ⟨#[110, 105, 108]⟩, .string ⟨#[97, 114, 103]⟩, .string ⟨#[108, 111, 110, 103]⟩, .string ⟨#[102, 111, 114, 109]⟩, .string ⟨#[111, 118, 101, 114]⟩, .string ⟨#[100, 101, 101, 112]⟩, .string ⟨#[110, 111, 110, 101]⟩, .string ⟨#[116, 119, 105, 99, 101]⟩, .string ⟨#[107, 105, 110, 100]⟩, .string ⟨#[119, 105, 100, 116, 104]⟩, .string ⟨#[99, 121, 99, 108, 101]⟩, .string ⟨#[102, 117, 108, 108]⟩, .string ⟨#[115, 104, 111, 114, 116]⟩, .string ⟨#[115, 116, 97, 116, 101]⟩, .string ⟨#[115, 117, 109]⟩] := by simp [wordCells, wordTab]
theorem word_cells (k : Nat) (h : k < 16) : wordCells[k]? = some (.string (wordOf (k : Int))) := by
  have hs : k < wordTab.size := h
  rw [wordOf_in k h]
  unfold wordCells
  rw [Array.getElem?_map, Array.getElem?_eq_getElem hs]
  simp [Array.getD, hs]
theorem chosen_any (e : Int) (b : Nat) (w : World) (hc : ∀ k : Nat, k < 16 → w.cell? ⟨b, k, none⟩ = some (.string (wordOf (k : Int)))) :
    Calls Tryd.prog 21 #[.int .i64 e, .string otherB, .slice (some ⟨b, 0, none⟩) 16 16] w fun r w' => r = .returned (.string (wordOf e)) ∧ w' = w := by
  by_cases h0 : e < 0
  · rw [wordOf_out e (by omega)]
    go_enter Tryd.func21, Tryd.ntmps21
    go_wp2
    go_ret
    exact ⟨rfl, rfl⟩
  · by_cases h1 : 16 ≤ e
    · rw [wordOf_out e (by omega)]
      go_enter Tryd.func21, Tryd.ntmps21
      go_wp2
      go_ret
      exact ⟨rfl, rfl⟩
    · obtain ⟨k, hk, hk16⟩ : ∃ k : Nat, e = (k : Int) ∧ k < 16 := ⟨e.toNat, by omega, by omega⟩
      subst hk
      have hk' := hc k hk16
      generalize wordOf (k : Int) = v at hk'
      clear hc
      go_enter Tryd.func21, Tryd.ntmps21
      go_wp2
      go_ret
      exact ⟨rfl, rfl⟩
set_option maxHeartbeats 1000000 in
theorem text_word (e : Int) : Pure Tryd.prog 14 #[.int .i64 e] (.string (wordOf e)) := by
  intro w
  have hC := chosen_any e w.heap.size (w.alloc (.cells wordCells 9)) (fun k hk => (cell_new w wordCells 9 _ k rfl).trans (word_cells k hk))
  rw [wordCells_eq, show otherB = ⟨#[111, 116, 104, 101, 114]⟩ from rfl] at hC
  replace hC := Lib.hid hC
  go_enter Tryd.func14, Tryd.ntmps14
  go_wp2_with (go_at_call 21; refine hC.out.mono ?_; rintro r w' ⟨rfl, rfl⟩)
  go_ret
  exact ⟨rfl, plus_of_below ((Below.refl _ _).alloc (Nat.le_refl _) _)⟩
set_option maxHeartbeats 1000000 in
theorem ref_word (e : Int) : Pure Tryd.prog 15 #[.int .i64 e] (.string (wordOf e)) := by
  intro w
  have hcells : ∀ k : Nat, k < 16 → (w.alloc (.cells wordCells 9)).cell? ⟨w.heap.size, k, none⟩ = some (.string (wordOf (k : Int))) := fun k hk => (cell_new w wordCells 9 _ k rfl).trans (word_cells k hk)
  have hB : Below w.heap.size w (w.alloc (.cells wordCells 9)) := (Below.refl _ _).alloc (Nat.le_refl _) _
  rw [wordCells_eq] at hB hcells
  have hcells := Lib.hid hcells
  have hB := Lib.hid hB
  go_enter Tryd.func15, Tryd.ntmps15
  go_wp2
  refine abs_world (T := fun W => Below w.heap.size w W ∧ ∀ k : Nat, k < 16 → W.cell? ⟨w.heap.size, k, none⟩ = some (.string (wordOf (k : Int)))) ?_ ⟨hB.out, hcells.out⟩
  clear hB hcells
  rintro W ⟨hB, hcells⟩
  have hcells' := Lib.hid hcells
  clear hcells
  go_loopw [4] (fun iv wr => ∃ k : Nat, k ≤ 16 ∧ iv = .int .i64 (k : Int) ∧ wr = W ∧ ∀ j : Nat, j < k → ¬ e = (j : Int)) (fun iv _ => 16 - (intOf iv).toNat)
  case atStart => exact ⟨0, Nat.zero_le _, rfl, rfl, fun j hj => absurd hj (by omega)⟩
  case round =>
    obtain ⟨k, hk, rfl, rfl, hno⟩ := hrel
    by_cases hlt : k < 16
    · have hc := hcells'.out k hlt
      by_cases he : e = (k : Int)
      · subst he
        generalize hv : wordOf (k : Int) = v at hc
        have hv' := Lib.hid hv
        clear hno hv
        go_wp2
        go_ret
        exact ⟨by rw [hv'.out]; rfl, plus_of_below hB⟩
      · have hb : (e == (k : Int)) = false := by simpa using he
        have hno' := Lib.hid hno
        have he' := Lib.hid he
        have hlt' := Lib.hid hlt
        clear hno he
        go_wp2
        go_roundw
        case rel =>
          refine ⟨k + 1, by omega, by go_num, by trivial, fun j hj => ?_⟩
          rcases Nat.lt_or_ge j k with h | h
          · exact hno'.out j h
          · rw [show j = k by omega]; exact he'.out
        case measure => simp [intOf]; have := hlt'.out; omega
    · have hw := Lib.hid (wordOf_out e (fun h => hno e.toNat (by omega) (by omega)))
      clear hno
      go_wp2
      go_ret
      exact ⟨by rw [hw.out]; rfl, plus_of_below hB⟩
end Go.Proofs.YtmkcnkbeoddgeaaDoor
