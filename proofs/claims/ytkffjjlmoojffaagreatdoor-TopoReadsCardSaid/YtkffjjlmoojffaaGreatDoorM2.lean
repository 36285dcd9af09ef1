/-
  WHAT IS PROVED HERE: a part of the proof of the claim's theorem: UU.
-/
import Derived.WalkKit
import Derived.Lib.Hide
import Derived.Test.YtkffjjlmoojffaaGreatDoorRows
import Derived.Test.YtkffjjlmoojffaaGreatDoorM1
import Derived.WalkSpells
import Derived.WalkLawsBesides
import Derived.Lib.IndexBytes
set_option linter.all false
namespace Go.Proofs.YtkffjjlmoojffaaGreatDoor
open Go.RowKit
def byN (s : ByteArray) (k : Nat) : Nat := match s.data[k]? with | some b => b.toNat | none => 256
theorem byN_at {s : ByteArray} {k : Nat} (h : k < s.size) : byN s k = (s[k]).toNat := by
  have h' : k < s.data.size := h
  unfold byN
  rw [Array.getElem?_eq_getElem h']
  rfl
theorem byN_past {s : ByteArray} {k : Nat} (h : s.size ≤ k) : byN s k = 256 := by
  have h' : s.data.size ≤ k := h
  unfold byN
  rw [Array.getElem?_eq_none h']
def isLet (c : Nat) : Bool := decide ((97 ≤ c ∧ c ≤ 122) ∨ (65 ≤ c ∧ c ≤ 90) ∨ c = 95)
def isDig (c : Nat) : Bool := decide (48 ≤ c ∧ c ≤ 57)
def isBlank (c : Nat) : Bool := decide (c = 32 ∨ c = 9 ∨ c = 10)
def eol (s : ByteArray) (k : Nat) : Nat := if _h : k < s.size then (if byN s k = 10 then k else eol s (k + 1)) else k
termination_by s.size - k
theorem eol_stop {s : ByteArray} {k : Nat} (h : ¬ (k < s.size ∧ byN s k ≠ 10)) : eol s k = k := by
  rw [eol]
  by_cases h1 : k < s.size
  · rw [dif_pos h1]
    by_cases h2 : byN s k = 10
    · rw [if_pos h2]
    · exact absurd ⟨h1, h2⟩ h
  · rw [dif_neg h1]
theorem eol_go {s : ByteArray} {k : Nat} (h1 : k < s.size) (h2 : byN s k ≠ 10) : eol s k = eol s (k + 1) := by
  rw [eol, dif_pos h1, if_neg h2]
theorem eol_ge (s : ByteArray) : ∀ (d k : Nat), s.size - k = d → k ≤ eol s k
  | 0, k, h => by rw [eol_stop (by omega)]; exact Nat.le_refl _
  | d + 1, k, h => by
    by_cases h2 : byN s k = 10
    · rw [eol_stop (by omega)]; exact Nat.le_refl _
    · rw [eol_go (by omega) h2]
      have := eol_ge s d (k + 1) (by omega)
      omega
theorem eol_le (s : ByteArray) : ∀ (d k : Nat), s.size - k = d → k ≤ s.size → eol s k ≤ s.size
  | 0, k, h, hk => by rw [eol_stop (by omega)]; exact hk
  | d + 1, k, h, hk => by
    by_cases h2 : byN s k = 10
    · rw [eol_stop (by omega)]; exact hk
    · rw [eol_go (by omega) h2]
      exact eol_le s d (k + 1) (by omega) (by omega)
def isRem (s : ByteArray) (k : Nat) : Bool := decide (byN s k = 47 ∧ byN s (k + 1) = 47)
def skipN (s : ByteArray) (k : Nat) : Nat :=
  if _h : k < s.size then (if isBlank (byN s k) then skipN s (k + 1) else if isRem s k then skipN s (eol s (k + 1)) else k) else k
termination_by s.size - k
decreasing_by
  · omega
  · have := eol_ge s _ (k + 1) rfl
    omega
theorem skip_end {s : ByteArray} {k : Nat} (h : ¬ k < s.size) : skipN s k = k := by rw [skipN, dif_neg h]
theorem skip_blank {s : ByteArray} {k : Nat} (h : k < s.size) (hb : isBlank (byN s k) = true) : skipN s k = skipN s (k + 1) := by rw [skipN, dif_pos h, if_pos hb]
theorem skip_rem {s : ByteArray} {k : Nat} (h : k < s.size) (hb : isBlank (byN s k) = false) (hr : isRem s k = true) : skipN s k = skipN s (eol s k) := by
  have h47 : byN s k = 47 := by unfold isRem at hr; simp only [decide_eq_true_eq] at hr; exact hr.1
  rw [skipN, dif_pos h, if_neg (by rw [hb]; simp), if_pos hr, eol_go h (by omega)]
theorem skip_stop {s : ByteArray} {k : Nat} (h : k < s.size) (hb : isBlank (byN s k) = false) (hr : isRem s k = false) : skipN s k = k := by
  rw [skipN, dif_pos h, if_neg (by rw [hb]; simp), if_neg (by rw [hr]; simp)]
theorem skip_bounds (s : ByteArray) : ∀ (d k : Nat), s.size - k ≤ d → k ≤ s.size → k ≤ skipN s k ∧ skipN s k ≤ s.size
  | 0, k, h, hk => by rw [skip_end (by omega)]; omega
  | d + 1, k, h, hk => by
    by_cases h1 : k < s.size
    · cases hb : isBlank (byN s k) with
      | true => rw [skip_blank h1 hb]; have := skip_bounds s d (k + 1) (by omega) (by omega); omega
      | false =>
        cases hr : isRem s k with
        | true =>
          have h47 : byN s k = 47 := by unfold isRem at hr; simp only [decide_eq_true_eq] at hr; exact hr.1
          rw [skip_rem h1 hb hr, eol_go h1 (by omega)]
          have g := eol_ge s _ (k + 1) rfl
          have l := eol_le s _ (k + 1) rfl (by omega)
          have := skip_bounds s d (eol s (k + 1)) (by omega) l
          omega
        | false => rw [skip_stop h1 hb hr]; omega
    · rw [skip_end h1]; omega
end Go.Proofs.YtkffjjlmoojffaaGreatDoor
namespace Go.Proofs.YtkffjjlmoojffaaGreatDoor
open Go.RowKit
theorem ref_letter (c : Nat) (w : World) (h : c < 256) : Calls Tryz.prog 70 #[.int .u8 (c : Int)] w fun e w' => e = .returned (.bool (isLet c)) ∧ w = w' := by
  obtain ⟨b, hb⟩ : ∃ b, isLet c = b := ⟨_, rfl⟩
  have hb' := Lib.hid hb
  rw [hb]
  clear hb
  go_enter Tryz.func70, Tryz.ntmps70
  go_wp2
  all_goals
    go_ret
    refine ⟨?_, rfl⟩
    show Ending.returned (.bool _) = Ending.returned (.bool _)
    refine congrArg (fun x => Ending.returned (.bool x)) ?_
    rw [← hb'.out]
    unfold isLet
    rw [Bool.eq_iff_iff]
    simp
    omega
theorem ref_digit3 (c : Nat) (w : World) (h : c < 256) : Calls Tryz.prog 71 #[.int .u8 (c : Int)] w fun e w' => e = .returned (.bool (isDig c)) ∧ w = w' := by
  obtain ⟨b, hb⟩ : ∃ b, isDig c = b := ⟨_, rfl⟩
  have hb' := Lib.hid hb
  rw [hb]
  clear hb
  go_enter Tryz.func71, Tryz.ntmps71
  go_wp2
  all_goals
    go_ret
    refine ⟨?_, rfl⟩
    show Ending.returned (.bool _) = Ending.returned (.bool _)
    refine congrArg (fun x => Ending.returned (.bool x)) ?_
    rw [← hb'.out]
    unfold isDig
    rw [Bool.eq_iff_iff]
    simp
    omega
theorem blank_yes {s : ByteArray} {k : Nat} (h : k < s.size) (e : isBlank (byN s k) = true) : ((((s[k]).toNat : Int) == 32) || (((s[k]).toNat : Int) == 9) || (((s[k]).toNat : Int) == 10)) = true := by
  rw [byN_at h] at e
  unfold isBlank at e
  rw [← e, Bool.eq_iff_iff]
  simp
  omega
theorem byte_not {s : ByteArray} {k c : Nat} (h : k < s.size) (e : ¬ byN s k = c) : (((s[k]).toNat : Int) == (c : Int)) = false := by
  rw [byN_at h] at e
  simp
  omega
set_option maxHeartbeats 2000000 in
theorem ref_skip (s : ByteArray) (a : Nat) (hs : s.size ≤ 140737488355328) (ha : a ≤ s.size) (w : World) : Calls Tryz.prog 45 #[.string s, .int .i64 (a : Int)] w fun e w' => e = .returned (.int .i64 (skipN s a : Nat)) ∧ w = w' := by
  obtain ⟨R, hR⟩ : ∃ R, skipN s a = R := ⟨_, rfl⟩
  rw [hR]
  have hR' := Lib.hid hR
  clear hR
  go_enter Tryz.func45, Tryz.ntmps45
  go_wp2
  go_loopw [1] (fun iv wr => ∃ k : Nat, k ≤ s.size ∧ iv = .int .i64 (k : Int) ∧ wr = w ∧ skipN s k = R) (fun iv _ => s.size - (intOf iv).toNat)
  case atStart => exact ⟨a, ha, rfl, rfl, hR'.out⟩
  case round =>
    obtain ⟨k, hk, rfl, rfl, hkR⟩ := hrel
    have hkR' := Lib.hid hkR
    clear hkR
    by_cases hlt : k < s.size
    · cases hb : isBlank (byN s k) with
      | true =>
        have hbl := blank_yes hlt hb
        have hb' := Lib.hid hb
        have hlt' := Lib.hid hlt
        clear hb
        go_wp2
        all_goals
          go_roundw
          all_goals first
            | (exact ⟨k + 1, by have := hlt'.out; omega, by go_num, by trivial, by rw [← hkR'.out, skip_blank hlt'.out hb'.out]⟩)
            | (simp [intOf]; have := hlt'.out; omega)
      | false =>
        have hn : ¬ (byN s k = 32 ∨ byN s k = 9 ∨ byN s k = 10) := by unfold isBlank at hb; simpa using hb
        have f1 : (((s[k]).toNat : Int) == 32) = false := byte_not hlt (fun h => hn (.inl h))
        have f2 : (((s[k]).toNat : Int) == 9) = false := byte_not hlt (fun h => hn (.inr (.inl h)))
        have f3 : (((s[k]).toNat : Int) == 10) = false := byte_not hlt (fun h => hn (.inr (.inr h)))
        have hb' := Lib.hid hb
        have hlt' := Lib.hid hlt
        clear hb hn
        by_cases h47 : byN s k = 47
        · have g4 : ((s[k]).toNat : Int) = 47 := by rw [byN_at hlt] at h47; omega
          by_cases h1 : k + 1 < s.size
          · by_cases h2 : byN s (k + 1) = 47
            · have g5 : ((s[k + 1]).toNat : Int) = 47 := by rw [byN_at h1] at h2; omega
              have hr : Hid (isRem s k = true) := by show _ = _; unfold isRem; simp [h47, h2]
              have h1' := Lib.hid h1
              clear h47 h2
              have hE := Lib.hid (eol_go (s := s) (k := k) hlt'.out (by unfold isRem at hr; have := hr.out; simp only [decide_eq_true_eq] at this; omega))
              have hG := Lib.hid (eol_ge s _ (k + 1) rfl)
              have hL := Lib.hid (eol_le s _ k rfl hk)
              go_wp2
              clear f1 f2 f3 g4 g5
              go_loopw [1] (fun iv wr' => ∃ j : Nat, j ≤ s.size ∧ iv = .int .i64 (j : Int) ∧ wr' = wr ∧ eol s j = eol s k) (fun iv _ => s.size - (intOf iv).toNat)
              case atStart => exact ⟨k, hk, rfl, rfl, rfl⟩
              case round =>
                obtain ⟨j, hj, rfl, rfl, hjE⟩ := hrel
                have hjE' := Lib.hid hjE
                clear hjE
                by_cases hjs : j < s.size
                · by_cases h10 : byN s j = 10
                  · have g6 : ((s[j]).toNat : Int) = 10 := by rw [byN_at hjs] at h10; omega
                    have he := Lib.hid (eol_stop (s := s) (k := j) (fun h => h.2 h10))
                    clear h10
                    go_wp2
                    go_roundw
                    case rel => exact ⟨j, hj, rfl, by trivial, by rw [← hkR'.out, skip_rem hlt'.out hb'.out hr.out, ← hjE'.out, he.out]⟩
                    case measure => simp [intOf]; have e1 := he.out; have e2 := hjE'.out; have e3 := hE.out; have e4 := hG.out; omega
                  · have g6 : ¬ ((s[j]).toNat : Int) = 10 := by rw [byN_at hjs] at h10; omega
                    have he := Lib.hid (eol_go hjs h10)
                    clear h10
                    go_wp2
                    go_roundw
                    case rel => exact ⟨j + 1, by omega, by go_num, by trivial, by rw [← hjE'.out, he.out]⟩
                    case measure => simp [intOf]; omega
                · have he := Lib.hid (eol_stop (s := s) (k := j) (fun h => hjs h.1))
                  go_wp2
                  go_roundw
                  case rel => exact ⟨j, hj, rfl, by trivial, by rw [← hkR'.out, skip_rem hlt'.out hb'.out hr.out, ← hjE'.out, he.out]⟩
                  case measure => simp [intOf]; have e1 := he.out; have e2 := hjE'.out; have e3 := hE.out; have e4 := hG.out; omega
            · have g5 : ¬ ((s[k + 1]).toNat : Int) = 47 := by rw [byN_at h1] at h2; omega
              have hr : Hid (isRem s k = false) := by show _ = _; unfold isRem; simp [h2]
              clear h47 h2
              go_wp2
              go_ret
              exact ⟨by rw [← hkR'.out, skip_stop hlt'.out hb'.out hr.out]; rfl, rfl⟩
          · have hr : Hid (isRem s k = false) := by show _ = _; unfold isRem; rw [byN_past (k := k + 1) (by omega)]; simp
            clear h47
            go_wp2
            go_ret
            exact ⟨by rw [← hkR'.out, skip_stop hlt'.out hb'.out hr.out]; rfl, rfl⟩
        · have g4 : ¬ ((s[k]).toNat : Int) = 47 := by rw [byN_at hlt] at h47; omega
          have hr : Hid (isRem s k = false) := by show _ = _; unfold isRem; simp [h47]
          clear h47
          go_wp2
          go_ret
          exact ⟨by rw [← hkR'.out, skip_stop hlt'.out hb'.out hr.out]; rfl, rfl⟩
    · have hlt' := Lib.hid hlt
      go_wp2
      go_ret
      exact ⟨by rw [← hkR'.out, skip_end hlt'.out]; rfl, rfl⟩
end Go.Proofs.YtkffjjlmoojffaaGreatDoor
namespace Go.Proofs.YtkffjjlmoojffaaGreatDoor
open Go.RowKit
theorem abs_world3 {P : Program} {c : Code} {Q : Exit → Act → World → Prop} {a : Act} {W : World} {T : World → Prop} (h : ∀ W, T W → c.wp P Q a W) (hT : T W) : c.wp P Q a W := h W hT
def tabCells (t : Array ByteArray) : Array Value := t.map Value.string
theorem tab_cells {t : Array ByteArray} {k : Nat} (h : k < t.size) : (tabCells t)[k]? = some (.string t[k]) := by
  unfold tabCells
  rw [Array.getElem?_map, Array.getElem?_eq_getElem h]
  rfl
def kwTab : Array ByteArray := #[⟨#[104, 101, 97, 100, 101, 114]⟩, ⟨#[109, 101, 116, 97, 100, 97, 116, 97]⟩, ⟨#[98, 105, 116]⟩, ⟨#[112, 97, 114, 115, 101, 114]⟩, ⟨#[115, 116, 97, 116, 101]⟩, ⟨#[101, 120, 116, 114, 97, 99, 116]⟩, ⟨#[116, 114, 97, 110, 115, 105, 116, 105, 111, 110]⟩, ⟨#[115, 101, 108, 101, 99, 116]⟩, ⟨#[97, 99, 99, 101, 112, 116]⟩, ⟨#[114, 101, 106, 101, 99, 116]⟩, ⟨#[100, 101, 102, 97, 117, 108, 116]⟩, ⟨#[97, 99, 116, 105, 111, 110]⟩, ⟨#[116, 97, 98, 108, 101]⟩, ⟨#[107, 101, 121]⟩, ⟨#[97, 99, 116, 105, 111, 110, 115]⟩, ⟨#[101, 120, 97, 99, 116]⟩, ⟨#[108, 112, 109]⟩, ⟨#[116, 101, 114, 110, 97, 114, 121]⟩, ⟨#[99, 111, 110, 116, 114, 111, 108]⟩, ⟨#[97, 112, 112, 108, 121]⟩, ⟨#[105, 102]⟩, ⟨#[101, 108, 115, 101]⟩, ⟨#[100, 114, 111, 112]⟩, ⟨#[102, 111, 114, 119, 97, 114, 100]⟩, ⟨#[118, 97, 108, 105, 100]⟩, ⟨#[105, 110, 118, 97, 108, 105, 100]⟩, ⟨#[100, 101, 112, 97, 114, 115, 101, 114]⟩, ⟨#[101, 109, 105, 116]⟩, ⟨#[109, 101, 116, 97]⟩, ⟨#[112, 111, 114, 116]⟩, ⟨#[105, 115, 86, 97, 108, 105, 100]⟩, ⟨#[95]⟩]
theorem kwCells_eq : tabCells kwTab = #[.string ⟨#[104, 101, 97, 100, 101, 114]⟩, .string ⟨#[109, 101, 116, 97, 100, 97, 116, 97]⟩, .string ⟨#[98, 105, 116]⟩, .string ⟨#[112, 97, 114, 115, 101, 114]⟩, .string ⟨#[115, 116, 97, 116, 101]⟩, .string ⟨#[101, 120, 116, 114, 97, 99, 116]⟩, .string ⟨#[116, 114, 97, 110, 115, 105, 116, 105, 111, 110]⟩, .string ⟨#[115, 101, 108, 101, 99, 116]⟩, .string ⟨#[97, 99, 99, 101, 112, 116]⟩, .string ⟨#[114, 101, 106, 101, 99, 116]⟩, .string ⟨#[100, 101, 102, 97, 117, 108, 116]⟩, .string ⟨#[97, 99, 116, 105, 111, 110]⟩, .string ⟨#[116, 97, 98, 108, 101]⟩, .string ⟨#[107, 101, 121]⟩, .string ⟨#[97, 99, 116, 105, 111, 110, 115]⟩, .string ⟨#[101, 120, 97, 99, 116]⟩, .string ⟨#[108, 112, 109]⟩, .string ⟨#[116, 101, 114, 110, 97, 114, 121]⟩, .string ⟨#[99, 111, 110, 116, 114, 111, 108]⟩, .string ⟨#[97, 112, 112, 108, 121]⟩, .string ⟨#[105, 102]⟩, .string ⟨#[101, 108, 115, 101]⟩, .string ⟨#[100, 114, 111, 112]⟩, .string ⟨#[102, 111, 114, 119, 97, 114, 100]⟩, .string ⟨#[118, 97, 108, 105, 100]⟩, .string ⟨#[105, 110, 118, 97, 108, 105, 100]⟩, .string ⟨#[100, 101, 112, 97, 114, 115, 101, 114]⟩, .string ⟨#[101, 109, 105, 116]⟩, .string ⟨#[109, 101, 116, 97]⟩, .string ⟨#[112, 111, 114, 116]⟩, .string ⟨#[105, 115, 86, 97, 108, 105, 100]⟩, .string ⟨#[95]⟩] := by simp [tabCells, kwTab]
def kwAt (k : Nat) : ByteArray := kwTab.getD k ByteArray.empty
theorem kw_cells (k : Nat) (h : k < 32) : (tabCells kwTab)[k]? = some (.string (kwAt k)) := by
  have hs : k < kwTab.size := h
  rw [tab_cells hs]
  unfold kwAt
  simp [Array.getD, hs]
def kwB (s : ByteArray) : Bool := (List.range 32).any fun k => decide (kwAt k = s)
theorem kwB_yes {s : ByteArray} {k : Nat} (h : k < 32) (e : kwAt k = s) : kwB s = true := by
  unfold kwB; rw [List.any_eq_true]; exact ⟨k, List.mem_range.2 h, decide_eq_true e⟩
theorem kwB_no {s : ByteArray} (h : ∀ k, k < 32 → ¬ kwAt k = s) : kwB s = false := by
  unfold kwB
  rw [List.any_eq_false]
  intro k hk
  rw [decide_eq_false (h k (List.mem_range.1 hk))]
  simp
theorem str_beq (a b : ByteArray) : (a.toList == b.toList) = decide (a = b) := by
  rw [Bool.eq_iff_iff, beq_iff_eq, decide_eq_true_eq, Lib.toList_data, Lib.toList_data]
  exact ⟨fun h => ByteArray.ext (Array.toList_inj.1 h), fun h => by rw [h]⟩
set_option maxHeartbeats 1000000 in
theorem ref_keyword (s : ByteArray) : Pure Tryz.prog 74 #[.string s] (.bool (kwB s)) := by
  intro w
  have hcells : ∀ k : Nat, k < 32 → (w.alloc (.cells (tabCells kwTab) 9)).cell? ⟨w.heap.size, k, none⟩ = some (.string (kwAt k)) := fun k hk => (cell_new w (tabCells kwTab) 9 _ k rfl).trans (kw_cells k hk)
  have hB : Below w.heap.size w (w.alloc (.cells (tabCells kwTab) 9)) := (Below.refl _ _).alloc (Nat.le_refl _) _
  rw [kwCells_eq] at hB hcells
  replace hcells := Lib.hid hcells
  replace hB := Lib.hid hB
  go_enter Tryz.func74, Tryz.ntmps74
  go_wp2
  refine abs_world3 (T := fun W => Below w.heap.size w W ∧ ∀ k : Nat, k < 32 → W.cell? ⟨w.heap.size, k, none⟩ = some (.string (kwAt k))) ?_ ⟨hB.out, hcells.out⟩
  clear hB hcells
  rintro W ⟨hB, hcells⟩
  have hcells' := Lib.hid hcells
  clear hcells
  go_loopw [4] (fun iv wr => ∃ k : Nat, k ≤ 32 ∧ iv = .int .i64 (k : Int) ∧ wr = W ∧ ∀ j : Nat, j < k → ¬ kwAt j = s) (fun iv _ => 32 - (intOf iv).toNat)
  case atStart => exact ⟨0, Nat.zero_le _, rfl, rfl, fun j hj => absurd hj (by omega)⟩
  case round =>
    obtain ⟨k, hk, rfl, rfl, hno⟩ := hrel
    by_cases hlt : k < 32
    · have hc := hcells'.out k hlt
      by_cases he : kwAt k = s
      · have hv' := Lib.hid (kwB_yes hlt he)
        rw [he] at hc
        have q : (s.toList == s.toList) = true := by rw [str_beq, decide_eq_true rfl]
        clear hno he
        go_wp2
        go_ret
        exact ⟨by rw [hv'.out]; rfl, plus_of_below hB⟩
      · have hno' := Lib.hid hno
        have he' := Lib.hid he
        have hlt' := Lib.hid hlt
        have q : ((kwAt k).toList == s.toList) = false := by rw [str_beq, decide_eq_false he]
        generalize kwAt k = v at hc q
        clear hno he
        go_wp2
        go_roundw
        case rel =>
          refine ⟨k + 1, by omega, by go_num, by trivial, fun j hjk => ?_⟩
          rcases Nat.lt_or_ge j k with h | h
          · exact hno'.out j h
          · have : j = k := by omega
            subst this
            exact he'.out
        case measure => simp [intOf]; have := hlt'.out; omega
    · have hw := Lib.hid (kwB_no (s := s) (fun j hj => hno j (by omega)))
      clear hno
      go_wp2
      go_ret
      exact ⟨by rw [hw.out]; rfl, plus_of_below hB⟩
def wordB (s : ByteArray) : Bool := (List.range s.size).all fun k => isLet (byN s k) || isDig (byN s k)
theorem wordB_yes {s : ByteArray} (h : ∀ k, k < s.size → (isLet (byN s k) || isDig (byN s k)) = true) : wordB s = true := by
  unfold wordB; rw [List.all_eq_true]; exact fun k hk => h k (List.mem_range.1 hk)
theorem wordB_no {s : ByteArray} {k : Nat} (hk : k < s.size) (h : (isLet (byN s k) || isDig (byN s k)) = false) : wordB s = false := by
  unfold wordB; rw [List.all_eq_false]; exact ⟨k, List.mem_range.2 hk, by rw [h]; simp⟩
def nameB (s : ByteArray) : Bool := decide (1 ≤ s.size ∧ s.size ≤ 16) && !isDig (byN s 0) && !kwB s && wordB s
set_option maxHeartbeats 2000000 in
theorem ref_name (s : ByteArray) : Pure Tryz.prog 47 #[.string s] (.bool (nameB s)) := by
  intro w
  by_cases h1 : 1 ≤ s.size ∧ s.size ≤ 16
  · obtain ⟨h1a, h1b⟩ := h1
    have h0 : 0 < s.size := h1a
    have hD := Lib.hid (fun w => ref_digit3 (byN s 0) w (by rw [byN_at h0]; exact (s[0]).toNat_lt))
    have e0 : byN s 0 = (s[0]).toNat := byN_at h0
    rw [e0] at hD
    cases hd : isDig (byN s 0) with
    | true =>
      rw [e0] at hd
      rw [hd] at hD
      have e := Lib.hid (show nameB s = false by unfold nameB; rw [e0, hd]; simp)
      clear hd e0
      go_enter Tryz.func47, Tryz.ntmps47
      go_wp2_with (go_at_call 71; refine (hD.out _).mono ?_; rintro r w' ⟨rfl, rfl⟩)
      go_ret
      exact ⟨by rw [e.out]; rfl, ⟨#[], w.drawn⟩, (plus_self w).symm⟩
    | false =>
      rw [e0] at hd
      rw [hd] at hD
      have hK := Lib.hid (ref_keyword s)
      cases hk : kwB s with
      | true =>
        rw [hk] at hK
        have e := Lib.hid (show nameB s = false by unfold nameB; rw [hk]; simp)
        clear hd e0 hk
        go_enter Tryz.func47, Tryz.ntmps47
        go_wp2_with (first | (go_at_call 71; refine (hD.out _).mono ?_; rintro r w' ⟨rfl, rfl⟩) | (go_at_call 74; refine (hK.out _).mono ?_; rintro r w' ⟨rfl, x, rfl⟩))
        go_ret
        exact ⟨by rw [e.out]; rfl, x, rfl⟩
      | false =>
        rw [hk] at hK
        have e := Lib.hid (show nameB s = wordB s by unfold nameB; rw [e0, hd, hk, decide_eq_true ⟨h1a, h1b⟩]; simp)
        clear hd e0 hk
        go_enter Tryz.func47, Tryz.ntmps47
        go_wp2_with (first | (go_at_call 71; refine (hD.out _).mono ?_; rintro r w' ⟨rfl, rfl⟩) | (go_at_call 74; refine (hK.out _).mono ?_; rintro r w' ⟨rfl, x, rfl⟩))
        go_loopw [3] (fun iv wr => ∃ k : Nat, k ≤ s.size ∧ iv = .int .i64 (k : Int) ∧ wr = plus w x ∧ ∀ j, j < k → (isLet (byN s j) || isDig (byN s j)) = true) (fun iv _ => s.size - (intOf iv).toNat)
        case atStart => exact ⟨0, Nat.zero_le _, rfl, rfl, fun j hj => absurd hj (by omega)⟩
        case round =>
          obtain ⟨k, hk, rfl, rfl, hno⟩ := hrel
          by_cases hlt : k < s.size
          · have e1 : byN s k = (s[k]).toNat := byN_at hlt
            have hc256 := (s[k]).toNat_lt
            generalize hcd : (s[k]).toNat = c at e1 hc256
            have hL := Lib.hid (fun w => ref_letter c w hc256)
            have hG := Lib.hid (fun w => ref_digit3 c w hc256)
            have hno' := Lib.hid hno
            have hW := Lib.hid (wordB_no (s := s) (k := k) hlt)
            rw [e1] at hW
            have hnew : Hid ((isLet c || isDig c) = true → ∀ j, j < k + 1 → (isLet (byN s j) || isDig (byN s j)) = true) := by
              intro h j hj
              rcases Nat.lt_or_ge j k with h2 | h2
              · exact hno j h2
              · rw [show j = k by omega, e1]; exact h
            have hlt' := Lib.hid hlt
            clear hno e1
            cases h1 : isLet c with
            | true =>
              rw [h1] at hL
              have hn2 := Lib.hid (hnew.out (by rw [h1]; rfl))
              clear hW h1 hnew
              go_wp2_with (go_at_call 70; refine (hL.out _).mono ?_; rintro r w' ⟨rfl, rfl⟩)
              go_roundw
              case rel => exact ⟨k + 1, by have := hlt'.out; omega, by go_num, by trivial, hn2.out⟩
              case measure => simp [intOf]; have := hlt'.out; omega
            | false =>
              cases h2 : isDig c with
              | true =>
                rw [h1] at hL
                rw [h2] at hG
                have hn2 := Lib.hid (hnew.out (by rw [h1, h2]; rfl))
                clear hW h1 hnew h2
                go_wp2_with (first | (go_at_call 70; refine (hL.out _).mono ?_; rintro r w' ⟨rfl, rfl⟩) | (go_at_call 71; refine (hG.out _).mono ?_; rintro r w' ⟨rfl, rfl⟩))
                go_roundw
                case rel => exact ⟨k + 1, by have := hlt'.out; omega, by go_num, by trivial, hn2.out⟩
                case measure => simp [intOf]; have := hlt'.out; omega
              | false =>
                rw [h1] at hL
                rw [h2] at hG
                have hW2 := Lib.hid (hW.out (by rw [h1, h2]; rfl))
                clear hW h1 hnew h2
                go_wp2_with (first | (go_at_call 70; refine (hL.out _).mono ?_; rintro r w' ⟨rfl, rfl⟩) | (go_at_call 71; refine (hG.out _).mono ?_; rintro r w' ⟨rfl, rfl⟩))
                go_ret
                exact ⟨by rw [e.out, hW2.out]; rfl, x, rfl⟩
          · have hY := Lib.hid (wordB_yes (s := s) (fun j hj => hno j (by omega)))
            clear hno
            go_wp2
            go_ret
            exact ⟨by rw [e.out, hY.out]; rfl, x, rfl⟩
  · have e := Lib.hid (show nameB s = false by unfold nameB; rw [decide_eq_false h1]; simp)
    by_cases h2 : s.size < 1
    · clear h1
      go_enter Tryz.func47, Tryz.ntmps47
      go_wp2
      go_ret
      exact ⟨by rw [e.out]; rfl, ⟨#[], w.drawn⟩, (plus_self w).symm⟩
    · have h3 : 16 < s.size := by omega
      clear h1
      go_enter Tryz.func47, Tryz.ntmps47
      go_wp2
      go_ret
      exact ⟨by rw [e.out]; rfl, ⟨#[], w.drawn⟩, (plus_self w).symm⟩
end Go.Proofs.YtkffjjlmoojffaaGreatDoor
