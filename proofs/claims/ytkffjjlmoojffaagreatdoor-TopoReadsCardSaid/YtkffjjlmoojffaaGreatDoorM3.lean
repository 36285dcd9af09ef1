/-
  WHAT IS PROVED HERE: a part of the proof of the claim's theorem: Ue.
-/
import Derived.Test.YtkffjjlmoojffaaGreatDoorRows
import Derived.Test.YtkffjjlmoojffaaGreatDoorM2
import Derived.WalkKit
import Derived.WalkSpells
import Derived.WalkLawsBesides
set_option linter.all false
namespace Go.Proofs.YtkffjjlmoojffaaGreatDoor
open Go.RowKit
def longTab : Array ByteArray := #[⟨#[38, 38, 38]⟩, ⟨#[61, 61]⟩, ⟨#[33, 61]⟩, ⟨#[60, 61]⟩, ⟨#[62, 61]⟩, ⟨#[60, 60]⟩, ⟨#[62, 62]⟩, ⟨#[38, 38]⟩, ⟨#[124, 124]⟩, ⟨#[43, 43]⟩, ⟨#[45, 62]⟩]
theorem longCells_eq : tabCells longTab = #[.string ⟨#[38, 38, 38]⟩, .string ⟨#[61, 61]⟩, .string ⟨#[33, 61]⟩, .string ⟨#[60, 61]⟩, .string ⟨#[62, 61]⟩, .string ⟨#[60, 60]⟩, .string ⟨#[62, 62]⟩, .string ⟨#[38, 38]⟩, .string ⟨#[124, 124]⟩, .string ⟨#[43, 43]⟩, .string ⟨#[45, 62]⟩] := by simp [tabCells, longTab]
def longAt (k : Nat) : ByteArray := longTab.getD k ByteArray.empty
theorem long_cells (k : Nat) (h : k < 11) : (tabCells longTab)[k]? = some (.string (longAt k)) := by
  have hs : k < longTab.size := h
  rw [tab_cells hs]
  unfold longAt
  simp [Array.getD, hs]
theorem long_size (k : Nat) (h : k < 11) : 2 ≤ (longAt k).size ∧ (longAt k).size ≤ 3 := by
  have hall : ∀ k : Nat, k < 11 → 2 ≤ (longAt k).size ∧ (longAt k).size ≤ 3 := by decide +kernel
  exact hall k h
def shortT : ByteArray := ⟨#[123, 125, 40, 41, 91, 93, 59, 58, 44, 61, 60, 62, 43, 45, 38, 124, 94, 126, 33, 46, 47]⟩
def fitB (s : ByteArray) (a : Nat) (m : ByteArray) : Bool := decide (a + m.size ≤ s.size ∧ s.extract a (a + m.size) = m)
def shortB (c : Nat) : Bool := (List.range 21).any fun j => decide (byN shortT j = c)
def markN (s : ByteArray) (a : Nat) : Nat := match (List.range 11).find? (fun j => fitB s a (longAt j)) with
  | some j => (longAt j).size
  | none => if shortB (byN s a) then 1 else 0
theorem mark_long {s : ByteArray} {a k : Nat} (hk : k < 11) (hf : fitB s a (longAt k) = true) (hno : ∀ j, j < k → fitB s a (longAt j) = false) : markN s a = (longAt k).size := by
  have h : (List.range 11).find? (fun j => fitB s a (longAt j)) = some k := List.find?_range_eq_some.2 ⟨hf, List.mem_range.2 hk, fun j hj => by rw [hno j hj]; rfl⟩
  unfold markN
  rw [h]
theorem mark_short {s : ByteArray} {a : Nat} (hno : ∀ j, j < 11 → fitB s a (longAt j) = false) : markN s a = if shortB (byN s a) then 1 else 0 := by
  have h : (List.range 11).find? (fun j => fitB s a (longAt j)) = none := List.find?_range_eq_none.2 fun j hj => by rw [hno j hj]; rfl
  unfold markN
  rw [h]
theorem short_yes {c j : Nat} (hj : j < 21) (e : byN shortT j = c) : shortB c = true := by
  unfold shortB; rw [List.any_eq_true]; exact ⟨j, List.mem_range.2 hj, decide_eq_true e⟩
theorem short_no {c : Nat} (h : ∀ j, j < 21 → ¬ byN shortT j = c) : shortB c = false := by
  unfold shortB
  rw [List.any_eq_false]
  intro j hj
  rw [decide_eq_false (h j (List.mem_range.1 hj))]
  simp
theorem markN_le (s : ByteArray) (a : Nat) (ha : a < s.size) : a + markN s a ≤ s.size := by
  cases h : (List.range 11).find? (fun j => fitB s a (longAt j)) with
  | some j =>
    have := (List.find?_range_eq_some.1 h).1
    unfold fitB at this
    unfold markN
    rw [h]
    exact (of_decide_eq_true this).1
  | none =>
    unfold markN
    rw [h]
    show a + (if shortB (byN s a) then 1 else 0) ≤ s.size
    split <;> omega
set_option maxHeartbeats 2000000 in
theorem ref_mark (s : ByteArray) (a : Nat) (hs : s.size ≤ 140737488355328) (ha : a < s.size) : Pure Tryz.prog 72 #[.string s, .int .i64 (a : Int)] (.int .i64 (markN s a : Nat)) := by
  intro w
  have hcells : ∀ k : Nat, k < 11 → (w.alloc (.cells (tabCells longTab) 9)).cell? ⟨w.heap.size, k, none⟩ = some (.string (longAt k)) := fun k hk => (cell_new w (tabCells longTab) 9 _ k rfl).trans (long_cells k hk)
  have hB : Below w.heap.size w (w.alloc (.cells (tabCells longTab) 9)) := (Below.refl _ _).alloc (Nat.le_refl _) _
  have hS : w.heap.size < (w.alloc (.cells (tabCells longTab) 9)).heap.size := by simp
  rw [longCells_eq] at hB hcells hS
  replace hcells := Lib.hid hcells
  replace hB := Lib.hid hB
  replace hS := Lib.hid hS
  go_enter Tryz.func72, Tryz.ntmps72
  go_wp2
  refine abs_world3 (T := fun W => Below w.heap.size w W ∧ w.heap.size < W.heap.size ∧ ∀ k : Nat, k < 11 → W.cell? ⟨w.heap.size, k, none⟩ = some (.string (longAt k))) ?_ ⟨hB.out, hS.out, hcells.out⟩
  clear hB hcells hS
  rintro W ⟨hB, hS, hcells⟩
  have hcells' := Lib.hid (fun k hk y => plus_cell hS (hcells k hk) y)
  have hB' := Lib.hid hB
  clear hcells hB hS
  go_loopw [6] (fun iv wr => ∃ k : Nat, k ≤ 11 ∧ iv = .int .i64 (k : Int) ∧ (∃ y, wr = plus W y) ∧ ∀ j : Nat, j < k → fitB s a (longAt j) = false) (fun iv _ => 11 - (intOf iv).toNat)
  case atStart => exact ⟨0, Nat.zero_le _, rfl, ⟨⟨#[], W.drawn⟩, (plus_self W).symm⟩, fun j hj => absurd hj (by omega)⟩
  case round =>
    obtain ⟨k, hk, rfl, ⟨y, rfl⟩, hno⟩ := hrel
    have hno' := Lib.hid hno
    clear hno
    by_cases hlt : k < 11
    · have hc := hcells'.out k hlt
      have hz := long_size k hlt
      have hM := Lib.hid (fun hf => mark_long (s := s) (a := a) hlt hf hno'.out)
      have hlt' := Lib.hid hlt
      obtain ⟨v, hv⟩ : ∃ v, longAt k = v := ⟨_, rfl⟩
      rw [hv] at hc hz hM
      have hv' := Lib.hid hv
      clear hv
      by_cases h1 : a + v.size ≤ s.size
      · have hd : decide ((a : Int) + (v.size : Int) ≤ (s.size : Int)) = true := decide_eq_true (by omega)
        by_cases h2 : s.extract a (a + v.size) = v
        · have hR := Lib.hid (hM.out (by unfold fitB; rw [decide_eq_true ⟨h1, h2⟩]))
          have q : ((s.extract a (a + v.size)).toList == v.toList) = true := by rw [str_beq, decide_eq_true h2]
          clear hM h2
          go_wp2
          refine wp_region_own (by kernel_rfl) (by kernel_rfl) ?_
          repeat (go_big_quiet_step (fail))
          refine wpQuiet_nil ?_
          rintro _ ⟨y1, rfl⟩
          go_wp2
          go_ret
          exact ⟨by rw [hR.out]; rfl, plus_of_below (hB'.out.trans ((below_plus W y1).mono hB'.out.size))⟩
        · have hF := Lib.hid (show fitB s a v = false by unfold fitB; rw [decide_eq_false (fun h => h2 h.2)])
          have q : ((s.extract a (a + v.size)).toList == v.toList) = false := by rw [str_beq, decide_eq_false h2]
          clear hM h2
          go_wp2
          refine wp_region_own (by kernel_rfl) (by kernel_rfl) ?_
          repeat (go_big_quiet_step (fail))
          refine wpQuiet_nil ?_
          rintro _ ⟨y1, rfl⟩
          go_wp2
          go_roundw
          case rel =>
            refine ⟨k + 1, by have := hlt'.out; omega, by go_num, ⟨y1, rfl⟩, fun j hj => ?_⟩
            rcases Nat.lt_or_ge j k with h | h
            · exact hno'.out j h
            · rw [show j = k by omega, hv'.out]; exact hF.out
          case measure => simp [intOf]; have := hlt'.out; omega
      · have hF := Lib.hid (show fitB s a v = false by unfold fitB; rw [decide_eq_false (fun h => h1 h.1)])
        have hd : decide ((a : Int) + (v.size : Int) ≤ (s.size : Int)) = false := decide_eq_false (by omega)
        clear hM
        go_wp2
        refine wp_region_own (by kernel_rfl) (by kernel_rfl) ?_
        repeat (go_big_quiet_step (fail))
        refine wpQuiet_nil ?_
        rintro _ ⟨y1, rfl⟩
        go_wp2
        go_roundw
        case rel =>
          refine ⟨k + 1, by have := hlt'.out; omega, by go_num, ⟨y1, rfl⟩, fun j hj => ?_⟩
          rcases Nat.lt_or_ge j k with h | h
          · exact hno'.out j h
          · rw [show j = k by omega, hv'.out]; exact hF.out
        case measure => simp [intOf]; have := hlt'.out; omega
    · have hM := Lib.hid (mark_short (s := s) (a := a) (fun j hj => hno'.out j (by omega)))
      go_wp2
      obtain ⟨T, hT⟩ : ∃ T, shortT = T := ⟨_, rfl⟩
      have hT' := Lib.hid hT
      rw [show (⟨#[123, 125, 40, 41, 91, 93, 59, 58, 44, 61, 60, 62, 43, 45, 38, 124, 94, 126, 33, 46, 47]⟩ : ByteArray) = T from hT]
      have hTz : T.size = 21 := by rw [← hT]; rfl
      clear hT
      go_loopw [9] (fun iv wr => ∃ k : Nat, k ≤ 21 ∧ iv = .int .i64 (k : Int) ∧ (∃ y, wr = plus W y) ∧ ∀ j : Nat, j < k → ¬ byN T j = byN s a) (fun iv _ => 21 - (intOf iv).toNat)
      case atStart => exact ⟨0, Nat.zero_le _, rfl, ⟨y, rfl⟩, fun j hj => absurd hj (by omega)⟩
      case round =>
        obtain ⟨i, hi, rfl, ⟨y2, rfl⟩, hne⟩ := hrel
        have hne' := Lib.hid hne
        clear hne
        by_cases hi21 : i < 21
        · have hsz : i < T.size := by omega
          have e1 : byN T i = (T[i]).toNat := byN_at hsz
          have e2 : byN s a = (s[a]).toNat := byN_at ha
          have hi21' := Lib.hid hi21
          by_cases he : byN T i = byN s a
          · have hR := Lib.hid (hM.out.trans (by rw [short_yes (j := i) hi21 (by rw [hT'.out]; exact he), if_pos rfl]))
            have hq : (((T[i]).toNat : Int) == ((s[a]).toNat : Int)) = true := by rw [← e1, ← e2, he]; simp
            clear he e1 e2
            go_wp2
            refine wp_region_own (by kernel_rfl) (by kernel_rfl) ?_
            repeat (go_big_quiet_step (fail))
            refine wpQuiet_nil ?_
            rintro _ ⟨y1, rfl⟩
            go_wp2
            go_ret
            exact ⟨by rw [hR.out]; rfl, plus_of_below (hB'.out.trans ((below_plus W y1).mono hB'.out.size))⟩
          · have he' := Lib.hid he
            have hq : (((T[i]).toNat : Int) == ((s[a]).toNat : Int)) = false := by rw [← e1, ← e2]; simp; omega
            clear he e1 e2
            go_wp2
            refine wp_region_own (by kernel_rfl) (by kernel_rfl) ?_
            repeat (go_big_quiet_step (fail))
            refine wpQuiet_nil ?_
            rintro _ ⟨y1, rfl⟩
            go_wp2
            go_roundw
            case rel =>
              refine ⟨i + 1, by have := hi21'.out; omega, by go_num, ⟨y1, rfl⟩, fun j hj => ?_⟩
              rcases Nat.lt_or_ge j i with h | h
              · exact hne'.out j h
              · rw [show j = i by omega]; exact he'.out
            case measure => simp [intOf]; have := hi21'.out; omega
        · have hR := Lib.hid (hM.out.trans (by rw [short_no (fun j hj => by rw [hT'.out]; exact hne'.out j (by omega)), if_neg (by simp)]))
          go_wp2
          go_ret
          exact ⟨by rw [hR.out]; rfl, plus_of_below (hB'.out.trans ((below_plus W y2).mono hB'.out.size))⟩
end Go.Proofs.YtkffjjlmoojffaaGreatDoor
