/-
  WHAT IS PROVED HERE: a part of the proof of the claim's theorem: LexA.
-/
import Derived.Test.YtkffjjlmoojffaaGreatDoorB2
import Derived.Lib.Strings
import Derived.Lib.SlTrimSet
import Derived.Lib.IndexLaws
import Derived.Lib.IndexBytes
import Derived.Test.YtkffjjlmoojffaaGreatDoorRows
import Derived.Test.YtkffjjlmoojffaaGreatDoorB9
import Derived.WalkKit
import Derived.WalkSpells
import Derived.WalkLawsBesides
import Derived.Test.YtkffjjlmoojffaaGreatDoorB10
import Derived.Test.YtkffjjlmoojffaaGreatDoorB1
import Derived.Test.YtkffjjlmoojffaaGreatDoorB11
import Derived.Test.YtkffjjlmoojffaaGreatDoorB6
import Derived.Shelf.Strings.SlTrimAscii
import Derived.Test.YtkffjjlmoojffaaGreatDoorB8
import Derived.Lib.AtoiAllCases
set_option linter.all false
namespace Go.Proofs.YtkffjjlmoojffaaGreatDoor
open Go.RowKit
abbrev rest (s : ByteArray) (k : Nat) : ByteArray := s.extract k s.size
theorem data_len (s : ByteArray) : s.data.toList.length = s.size := by rw [Array.length_toList]; rfl
theorem rest_size (s : ByteArray) (k : Nat) : (rest s k).size = s.size - k := by simp [rest]
theorem rest_zero (s : ByteArray) : rest s 0 = s := by apply ByteArray.ext; simp [rest]
theorem rest_end (s : ByteArray) (k : Nat) (h : s.size ≤ k) : rest s k = ⟨#[]⟩ := by
  have h0 : (rest s k).size = 0 := by rw [rest_size]; omega
  apply ByteArray.ext
  exact Array.eq_empty_of_size_eq_zero h0
theorem rest_extract (s : ByteArray) (k i j : Nat) (h : k + j ≤ s.size) : (rest s k).extract i j = s.extract (k + i) (k + j) := by
  show (s.extract k s.size).extract i j = _
  rw [ByteArray.extract_extract, Nat.min_eq_left h]
theorem rest_rest (s : ByteArray) (k j : Nat) : rest (rest s k) j = rest s (k + j) := by
  show (s.extract k s.size).extract j (rest s k).size = s.extract (k + j) s.size
  rw [ByteArray.extract_extract, rest_size]
  by_cases h : k ≤ s.size
  · congr 1; omega
  · rw [show s.extract (k + j) s.size = ⟨#[]⟩ from rest_end s (k + j) (by omega)]
    apply ByteArray.ext
    refine Array.eq_empty_of_size_eq_zero ?_
    show (s.extract (k + j) _).size = 0
    rw [ByteArray.size_extract]
    omega
theorem byN_list (s : ByteArray) (k : Nat) (b : UInt8) (h : s.data.toList[k]? = some b) : byN s k = b.toNat := by
  unfold byN
  rw [← Array.getElem?_toList, h]
theorem byN_data {s t : ByteArray} {i j : Nat} (h : s.data[i]? = t.data[j]?) : byN s i = byN t j := by unfold byN; rw [h]
theorem byN_rest (s : ByteArray) (k j : Nat) : byN (rest s k) j = byN s (k + j) := by
  refine byN_data ?_
  show (s.extract k s.size).data[j]? = s.data[k + j]?
  rw [ByteArray.data_extract, Array.getElem?_extract]
  split
  · rfl
  · rename_i h
    have : s.data.size ≤ k + j := by
      have : min s.size s.data.size = s.data.size := Nat.min_self _
      omega
    rw [Array.getElem?_eq_none this]
theorem byN_extract (s : ByteArray) (a b j : Nat) (h : a + j < b) : byN (s.extract a b) j = byN s (a + j) := by
  refine byN_data ?_
  rw [ByteArray.data_extract, Array.getElem?_extract]
  split
  · rfl
  · rename_i h2
    have : s.data.size ≤ a + j := by
      have : min b s.data.size = b ∨ min b s.data.size = s.data.size := by omega
      omega
    rw [Array.getElem?_eq_none this]
def blankEnd (s : ByteArray) (k : Nat) : Nat := if _h : k < s.size then (if isBlank (byN s k) = true then blankEnd s (k + 1) else k) else k
termination_by s.size - k
theorem blankEnd_go {s : ByteArray} {k : Nat} (h : k < s.size) (hb : isBlank (byN s k) = true) : blankEnd s k = blankEnd s (k + 1) := by rw [blankEnd, dif_pos h, if_pos hb]
theorem blankEnd_stop {s : ByteArray} {k : Nat} (h : k < s.size) (hb : isBlank (byN s k) = false) : blankEnd s k = k := by rw [blankEnd, dif_pos h, if_neg (by rw [hb]; simp)]
theorem blankEnd_past {s : ByteArray} {k : Nat} (h : ¬ k < s.size) : blankEnd s k = k := by rw [blankEnd, dif_neg h]
theorem blankEnd_bounds (s : ByteArray) : ∀ (d k : Nat), s.size - k = d → k ≤ s.size → k ≤ blankEnd s k ∧ blankEnd s k ≤ s.size
  | 0, k, h, hk => by rw [blankEnd_past (by omega)]; omega
  | d + 1, k, h, hk => by
    cases hb : isBlank (byN s k) with
    | true => rw [blankEnd_go (by omega) hb]; have := blankEnd_bounds s d (k + 1) (by omega) (by omega); omega
    | false => rw [blankEnd_stop (by omega) hb]; omega
theorem skip_blankEnd (s : ByteArray) : ∀ (d k : Nat), s.size - k = d → skipN s (blankEnd s k) = skipN s k
  | 0, k, h => by rw [blankEnd_past (by omega)]
  | d + 1, k, h => by
    cases hb : isBlank (byN s k) with
    | true => rw [blankEnd_go (by omega) hb, skip_blankEnd s d (k + 1) (by omega), skip_blank (by omega) hb]
    | false => rw [blankEnd_stop (by omega) hb]
theorem blankEnd_not (s : ByteArray) : ∀ (d k : Nat), s.size - k = d → isBlank (byN s (blankEnd s k)) = false
  | 0, k, h => by rw [blankEnd_past (by omega), byN_past (by omega)]; rfl
  | d + 1, k, h => by
    cases hb : isBlank (byN s k) with
    | true => rw [blankEnd_go (by omega) hb]; exact blankEnd_not s d (k + 1) (by omega)
    | false => rw [blankEnd_stop (by omega) hb]; exact hb
def blankT : ByteArray := ⟨#[32, 9, 10]⟩
theorem blank_mem (b : UInt8) : ([32, 9, 10] : List UInt8).contains b = isBlank b.toNat := by
  have h : ∀ b : Fin 256, ([32, 9, 10] : List UInt8).contains (UInt8.ofFin b) = isBlank (UInt8.ofFin b).toNat := by decide +kernel
  exact h b.toFin
theorem drop_blanks (s : ByteArray) : ∀ (d k : Nat), s.size - k = d → (s.data.toList.drop k).dropWhile (([32, 9, 10] : List UInt8).contains ·) = s.data.toList.drop (blankEnd s k)
  | 0, k, h => by
    have h' : s.data.toList.length ≤ k := by rw [data_len]; omega
    rw [blankEnd_past (by omega), List.drop_of_length_le h']; rfl
  | d + 1, k, h => by
    have hl : k < s.data.toList.length := by rw [data_len]; omega
    have hb : byN s k = (s.data.toList[k]).toNat := byN_list s k _ (List.getElem?_eq_getElem hl)
    rw [List.drop_eq_getElem_cons hl, List.dropWhile_cons, blank_mem, ← hb]
    cases hb2 : isBlank (byN s k) with
    | true => rw [if_pos rfl, drop_blanks s d (k + 1) (by omega), blankEnd_go (by omega) hb2]
    | false => rw [if_neg (by simp), blankEnd_stop (by omega) hb2, List.drop_eq_getElem_cons hl]
theorem rest_list (s : ByteArray) (k : Nat) : (rest s k).data.toList = s.data.toList.drop k := by
  show (s.extract k s.size).data.toList = _
  rw [ByteArray.data_extract, Array.toList_extract, List.extract_eq_take_drop]
  rw [show s.size - k = (s.data.toList.drop k).length by rw [List.length_drop, data_len], List.take_length]
theorem of_list (s : ByteArray) (k : Nat) : (⟨(s.data.toList.drop k).toArray⟩ : ByteArray) = rest s k := by
  apply ByteArray.ext
  rw [← Array.toList_inj, rest_list]
theorem trim_rest (s : ByteArray) (k : Nat) : (⟨(Lib.trimLeftS (rest s k).data.toList blankT.data.toList).toArray⟩ : ByteArray) = rest s (blankEnd s k) := by
  rw [rest_list, ← of_list]
  refine congrArg (fun l : List UInt8 => (⟨l.toArray⟩ : ByteArray)) ?_
  exact drop_blanks s _ k rfl
theorem prefix_fit (s m : ByteArray) (k : Nat) (hk : k ≤ s.size) : Lib.hasPrefix (rest s k).data.toList m.data.toList = fitB s k m := by
  unfold Lib.hasPrefix fitB
  rw [Bool.eq_iff_iff, List.isPrefixOf_iff_prefix, decide_eq_true_eq, List.prefix_iff_eq_take, rest_list]
  have hl : m.data.toList.length = m.size := data_len m
  rw [hl]
  have he : (s.extract k (k + m.size)).data.toList = (s.data.toList.drop k).take m.size := by
    rw [ByteArray.data_extract, Array.toList_extract, List.extract_eq_take_drop, Nat.add_sub_cancel_left]
  have hs : s.data.toList.length = s.size := data_len s
  constructor
  · intro h
    have h2 : m.data.toList.length = min m.size (s.size - k) := by
      have := congrArg List.length h
      rw [List.length_take, List.length_drop, hs] at this
      exact this
    refine ⟨by omega, ?_⟩
    apply ByteArray.ext
    rw [← Array.toList_inj, he, ← h]
  · rintro ⟨_, h⟩
    rw [← he, h]
def atB (s : ByteArray) (c : Nat) : Option Nat := (List.range s.size).find? fun j => decide (byN s j = c)
theorem atB_some {s : ByteArray} {c a : Nat} (ha : a < s.size) (h : byN s a = c) (hno : ∀ j, j < a → ¬ byN s j = c) : atB s c = some a :=
  List.find?_range_eq_some.2 ⟨decide_eq_true h, List.mem_range.2 ha, fun j hj => by rw [decide_eq_false (hno j hj)]; rfl⟩
theorem atB_none {s : ByteArray} {c : Nat} (hno : ∀ j, j < s.size → ¬ byN s j = c) : atB s c = none :=
  List.find?_range_eq_none.2 fun j hj => by rw [decide_eq_false (hno j hj)]; rfl
theorem atB_lt {s : ByteArray} {c a : Nat} (h : atB s c = some a) : a < s.size ∧ byN s a = c ∧ ∀ j, j < a → ¬ byN s j = c := by
  obtain ⟨h1, h2, h3⟩ := List.find?_range_eq_some.1 h
  refine ⟨List.mem_range.1 h2, of_decide_eq_true h1, fun j hj e => ?_⟩
  have := h3 j hj
  rw [decide_eq_true e] at this
  cases this
theorem indexByte_at (s : ByteArray) (c : UInt8) : Lib.indexByte s.data.toList c = (match atB s c.toNat with | some a => (a : Int) | none => -1) := by
  have hge := Lib.indexByte_ge s.data.toList c
  have hlen : s.data.toList.length = s.size := data_len s
  by_cases h : Lib.indexByte s.data.toList c = -1
  · have hno := Lib.indexByte_none h
    rw [h, atB_none (fun j hj e => ?_)]
    have hl : j < s.data.toList.length := by omega
    rw [byN_list s j _ (List.getElem?_eq_getElem hl)] at e
    exact hno j (by rw [List.getElem?_eq_getElem hl, UInt8.toNat_inj.1 e])
  · obtain ⟨o, ho⟩ : ∃ o : Nat, Lib.indexByte s.data.toList c = o := ⟨(Lib.indexByte s.data.toList c).toNat, by omega⟩
    obtain ⟨h1, h2⟩ := Lib.indexByte_some ho
    have hl := (List.getElem?_eq_some_iff.1 h1).1
    rw [ho, atB_some (a := o) (by omega) (byN_list s o c h1) (fun j hj e => ?_)]
    have hlj : j < s.data.toList.length := by omega
    rw [byN_list s j _ (List.getElem?_eq_getElem hlj)] at e
    exact h2 j hj (by rw [List.getElem?_eq_getElem hlj, UInt8.toNat_inj.1 e])
theorem atB_eol (s : ByteArray) : ∀ (d k : Nat), s.size - k = d → k ≤ s.size → atB (rest s k) 10 = (if eol s k < s.size then some (eol s k - k) else none)
  | d, k, h, hk => by
    have hge := eol_ge s _ k rfl
    have hle := eol_le s _ k rfl hk
    have hno : ∀ j, k ≤ j → j < eol s k → ¬ byN s j = 10 := by
      have : ∀ (d k : Nat), s.size - k = d → ∀ j, k ≤ j → j < eol s k → ¬ byN s j = 10 := by
        intro d
        induction d with
        | zero => intro k h j h1 h2; rw [eol_stop (by omega)] at h2; omega
        | succ d ih =>
          intro k h j h1 h2
          by_cases hc : byN s k = 10
          · rw [eol_stop (by omega)] at h2; omega
          · by_cases hj : j = k
            · rw [hj]; exact hc
            · rw [eol_go (by omega) hc] at h2
              exact ih (k + 1) (by omega) j (by omega) h2
      exact this _ k rfl
    by_cases he : eol s k < s.size
    · rw [if_pos he]
      have h10 : byN s (eol s k) = 10 := by
        have : ∀ (d k : Nat), s.size - k = d → eol s k < s.size → byN s (eol s k) = 10 := by
          intro d
          induction d with
          | zero => intro k h h2; rw [eol_stop (by omega)] at h2; omega
          | succ d ih =>
            intro k h h2
            by_cases hc : byN s k = 10
            · rw [eol_stop (by omega)]; exact hc
            · rw [eol_go (by omega) hc] at h2 ⊢
              exact ih (k + 1) (by omega) h2
        exact this _ k rfl he
      refine atB_some (by rw [rest_size]; omega) ?_ ?_
      · rw [byN_rest, show k + (eol s k - k) = eol s k by omega]; exact h10
      · intro j hj
        rw [byN_rest]
        exact hno (k + j) (by omega) (by omega)
    · rw [if_neg he]
      refine atB_none fun j hj => ?_
      rw [rest_size] at hj
      rw [byN_rest]
      exact hno (k + j) (by omega) (by omega)
end Go.Proofs.YtkffjjlmoojffaaGreatDoor
namespace Go.Proofs.YtkffjjlmoojffaaGreatDoor
open Go.RowKit
theorem tok_digit (c : Nat) (w : World) (h : c < 256) : Calls Tryz.prog 76 #[.int .u8 (c : Int)] w fun e w' => e = .returned (.bool (isDig c)) ∧ w = w' := by
  obtain ⟨b, hb⟩ : ∃ b, isDig c = b := ⟨_, rfl⟩
  have hb' := Lib.hid hb
  rw [hb]
  clear hb
  go_enter Tryz.func76, Tryz.ntmps76
  go_wp2
  all_goals
    go_ret
    refine ⟨?_, rfl⟩
    show Ending.returned (.bool _) = Ending.returned (.bool _)
    refine congrArg (fun x => Ending.returned (.bool x)) ?_
    rw [← hb'.out]
    unfold isDig
    rw [Bool.eq_iff_iff]
    simp
    omega
def isWrd (c : Nat) : Bool := isLet c || isDig c
theorem tok_ofword (c : Nat) (w : World) (h : c < 256) : Calls Tryz.prog 94 #[.int .u8 (c : Int)] w fun e w' => e = .returned (.bool (isWrd c)) ∧ w = w' := by
  obtain ⟨b, hb⟩ : ∃ b, isWrd c = b := ⟨_, rfl⟩
  have hb' := Lib.hid hb
  rw [hb]
  clear hb
  cases hd : isDig c with
  | true =>
    have hd' := Lib.hid hd
    have hD := Lib.hid (fun w => tok_digit c w h)
    rw [hd] at hD
    clear hd
    go_enter Tryz.func94, Tryz.ntmps94
    go_wp2_with (go_at_call 76; refine (hD.out _).mono ?_; rintro e w' ⟨rfl, rfl⟩)
    all_goals
      go_ret
      refine ⟨?_, rfl⟩
      show Ending.returned (.bool _) = Ending.returned (.bool _)
      refine congrArg (fun x => Ending.returned (.bool x)) ?_
      rw [← hb'.out]
      have hx := hd'.out
      unfold isWrd isLet
      unfold isDig at hx ⊢
      rw [Bool.eq_iff_iff]
      simp at hx ⊢
      omega
  | false =>
    have hd' := Lib.hid hd
    have hD := Lib.hid (fun w => tok_digit c w h)
    rw [hd] at hD
    clear hd
    go_enter Tryz.func94, Tryz.ntmps94
    go_wp2_with (go_at_call 76; refine (hD.out _).mono ?_; rintro e w' ⟨rfl, rfl⟩)
    all_goals
      go_ret
      refine ⟨?_, rfl⟩
      show Ending.returned (.bool _) = Ending.returned (.bool _)
      refine congrArg (fun x => Ending.returned (.bool x)) ?_
      rw [← hb'.out]
      have hx := hd'.out
      unfold isWrd isLet
      unfold isDig at hx ⊢
      rw [Bool.eq_iff_iff]
      simp at hx ⊢
      omega
theorem wrd_go {s : ByteArray} {k : Nat} (h : k < s.size) (hb : isWrd (byN s k) = true) : wEnd s k = wEnd s (k + 1) := wEnd_go h hb
theorem wrd_stop {s : ByteArray} {k : Nat} (h : k < s.size) (hb : isWrd (byN s k) = false) : wEnd s k = k := wEnd_stop h hb
set_option maxHeartbeats 1000000 in
theorem tok_first (s : ByteArray) (hs : s.size ≤ 140737488355328) (w : World) : Calls Tryz.prog 77 #[.string s] w fun e w' => e = .returned (.string (s.extract 0 (wEnd s 0))) ∧ w = w' := by
  obtain ⟨R, hR⟩ : ∃ R, wEnd s 0 = R := ⟨_, rfl⟩
  rw [hR]
  have hR' := Lib.hid hR
  clear hR
  go_enter Tryz.func77, Tryz.ntmps77
  go_wp2
  go_loopw [3] (fun iv wr => ∃ k : Nat, k ≤ s.size ∧ iv = .int .i64 (k : Int) ∧ wr = w ∧ wEnd s k = R) (fun iv _ => s.size - (intOf iv).toNat)
  case atStart => exact ⟨0, Nat.zero_le _, rfl, rfl, hR'.out⟩
  case round =>
    obtain ⟨k, hk, rfl, rfl, hkR⟩ := hrel
    have hkR' := Lib.hid hkR
    clear hkR
    by_cases hlt : k < s.size
    · have e2 : byN s k = (s[k]).toNat := byN_at hlt
      have d256 := (s[k]).toNat_lt
      generalize hdd : (s[k]).toNat = d at e2 d256
      have hG2 := Lib.hid (fun w => tok_ofword d w d256)
      cases g1 : isWrd d with
      | true =>
        have hgo := Lib.hid (wrd_go hlt (by rw [e2, g1]))
        rw [g1] at hG2
        clear g1 e2
        go_wp2_with (go_at_call 94; refine (hG2.out _).mono ?_; rintro e w' ⟨rfl, rfl⟩)
        go_roundw
        case rel => exact ⟨k + 1, by omega, by go_num, by trivial, by rw [← hgo.out]; exact hkR'.out⟩
        case measure => simp [intOf]; omega
      | false =>
        have hst := Lib.hid (wrd_stop hlt (by rw [e2, g1]))
        rw [g1] at hG2
        clear g1 e2
        go_wp2_with (go_at_call 94; refine (hG2.out _).mono ?_; rintro e w' ⟨rfl, rfl⟩)
        go_wp2
        go_ret
        exact ⟨by rw [← hkR'.out, hst.out]; rfl, rfl⟩
    · have hst := Lib.hid (wEnd_past hlt)
      go_wp2
      go_ret
      exact ⟨by rw [← hkR'.out, hst.out]; rfl, rfl⟩
end Go.Proofs.YtkffjjlmoojffaaGreatDoor
namespace Go.Proofs.YtkffjjlmoojffaaGreatDoor
open Go.RowKit
theorem list_beq (s : ByteArray) (l : List UInt8) : (s.toList == l) = decide (s.data.toList = l) := by
  rw [Bool.eq_iff_iff, beq_iff_eq, decide_eq_true_eq, Lib.toList_data]
theorem list_contra {s : ByteArray} {l : List UInt8} (h1 : (s.toList == l) = true) (h2 : (s.toList == l) = false) : False := by rw [h1] at h2; cases h2
theorem kwB_list {s : ByteArray} {l : List UInt8} (h : (s.toList == l) = true) (hm : ((List.range 32).any fun k => decide ((kwAt k).data.toList = l)) = true) : kwB s = true := by
  rw [List.any_eq_true] at hm
  obtain ⟨k, hk, e⟩ := hm
  rw [list_beq, decide_eq_true_eq] at h
  rw [decide_eq_true_eq] at e
  refine kwB_yes (List.mem_range.1 hk) ?_
  apply ByteArray.ext
  rw [← Array.toList_inj, e, h]
theorem kwB_ex {s : ByteArray} (h : kwB s = true) : ∃ k, k < 32 ∧ (s.toList == (kwAt k).data.toList) = true := by
  unfold kwB at h
  rw [List.any_eq_true] at h
  obtain ⟨k, hk, e⟩ := h
  rw [decide_eq_true_eq] at e
  exact ⟨k, List.mem_range.1 hk, by rw [e, list_beq, decide_eq_true rfl]⟩
set_option maxHeartbeats 8000000 in
theorem tok_keyword (s : ByteArray) : Pure Tryz.prog 78 #[.string s] (.bool (kwB s)) := by
  intro w
  obtain ⟨b, hb⟩ : ∃ b, kwB s = b := ⟨_, rfl⟩
  have hb' := Lib.hid hb
  rw [hb]
  clear hb
  go_enter Tryz.func78, Tryz.ntmps78
  go_wp2
  all_goals first
    | (exfalso; exact list_contra (s := s) (by assumption) (by assumption))
    | (go_ret
       refine ⟨?_, ⟨#[], w.drawn⟩, (plus_self w).symm⟩
       have hk : kwB s = true := kwB_list (s := s) (by assumption) (by decide +kernel)
       rw [← hb'.out, hk]
       rfl)
    | (go_ret
       refine ⟨?_, ⟨#[], w.drawn⟩, (plus_self w).symm⟩
       have hk : kwB s = false := by
         cases he : kwB s with
         | false => rfl
         | true =>
           exfalso
           obtain ⟨k, hk, e⟩ := kwB_ex he
           match k, hk, e with
           | 0, _, e => exact list_contra e (by assumption)
           | 1, _, e => exact list_contra e (by assumption)
           | 2, _, e => exact list_contra e (by assumption)
           | 3, _, e => exact list_contra e (by assumption)
           | 4, _, e => exact list_contra e (by assumption)
           | 5, _, e => exact list_contra e (by assumption)
           | 6, _, e => exact list_contra e (by assumption)
           | 7, _, e => exact list_contra e (by assumption)
           | 8, _, e => exact list_contra e (by assumption)
           | 9, _, e => exact list_contra e (by assumption)
           | 10, _, e => exact list_contra e (by assumption)
           | 11, _, e => exact list_contra e (by assumption)
           | 12, _, e => exact list_contra e (by assumption)
           | 13, _, e => exact list_contra e (by assumption)
           | 14, _, e => exact list_contra e (by assumption)
           | 15, _, e => exact list_contra e (by assumption)
           | 16, _, e => exact list_contra e (by assumption)
           | 17, _, e => exact list_contra e (by assumption)
           | 18, _, e => exact list_contra e (by assumption)
           | 19, _, e => exact list_contra e (by assumption)
           | 20, _, e => exact list_contra e (by assumption)
           | 21, _, e => exact list_contra e (by assumption)
           | 22, _, e => exact list_contra e (by assumption)
           | 23, _, e => exact list_contra e (by assumption)
           | 24, _, e => exact list_contra e (by assumption)
           | 25, _, e => exact list_contra e (by assumption)
           | 26, _, e => exact list_contra e (by assumption)
           | 27, _, e => exact list_contra e (by assumption)
           | 28, _, e => exact list_contra e (by assumption)
           | 29, _, e => exact list_contra e (by assumption)
           | 30, _, e => exact list_contra e (by assumption)
           | 31, _, e => exact list_contra e (by assumption)
           | n + 32, hn, _ => omega
       rw [← hb'.out, hk]
       rfl)
theorem wEnd_word (s : ByteArray) : (s.extract 0 (wEnd s 0) = s) ↔ wordB s = true := by
  have hb := wEnd_bounds s _ 0 rfl (Nat.zero_le _)
  have hz : (s.extract 0 (wEnd s 0)).size = wEnd s 0 := by rw [ByteArray.size_extract]; omega
  have hgo : ∀ (d k : Nat), s.size - k = d → k ≤ s.size → wEnd s k = s.size → ∀ j, k ≤ j → j < s.size → isWrd (byN s j) = true := by
    intro d
    induction d with
    | zero => intro k h _ _ j h1 h2; omega
    | succ d ih =>
      intro k h hk he j h1 h2
      cases hw : isWrd (byN s k) with
      | false => rw [wrd_stop (by omega) hw] at he; omega
      | true =>
        by_cases hj : j = k
        · rw [hj]; exact hw
        · rw [wrd_go (by omega) hw] at he
          exact ih (k + 1) (by omega) (by omega) he j (by omega) h2
  have hback : ∀ (d k : Nat), s.size - k = d → k ≤ s.size → (∀ j, k ≤ j → j < s.size → isWrd (byN s j) = true) → wEnd s k = s.size := by
    intro d
    induction d with
    | zero => intro k h hk _; rw [wEnd_past (by omega)]; omega
    | succ d ih =>
      intro k h hk hall
      rw [wrd_go (by omega) (hall k (Nat.le_refl _) (by omega))]
      exact ih (k + 1) (by omega) (by omega) (fun j h1 h2 => hall j (by omega) h2)
  constructor
  · intro h
    have he : wEnd s 0 = s.size := by rw [← hz, h]
    exact wordB_yes fun k hk => hgo _ 0 rfl (Nat.zero_le _) he k (Nat.zero_le _) hk
  · intro h
    unfold wordB at h
    rw [List.all_eq_true] at h
    have he : wEnd s 0 = s.size := hback _ 0 rfl (Nat.zero_le _) fun j _ hj => h j (List.mem_range.2 hj)
    rw [he]
    exact rest_zero s
set_option maxHeartbeats 4000000 in
theorem tok_name (s : ByteArray) (hs : s.size ≤ 140737488355328) : Pure Tryz.prog 53 #[.string s] (.bool (nameB s)) := by
  intro w
  obtain ⟨b, hb⟩ : ∃ b, nameB s = b := ⟨_, rfl⟩
  have hb' := Lib.hid hb
  rw [hb]
  clear hb
  have hS : ∃ x, w = plus w x := ⟨⟨#[], w.drawn⟩, (plus_self w).symm⟩
  have hS' := Lib.hid hS
  clear hS
  by_cases h0 : s.size = 0
  · have he : s = ⟨#[]⟩ := ByteArray.ext (Array.eq_empty_of_size_eq_zero h0)
    have hv : b = false := by rw [← hb'.out]; unfold nameB; rw [decide_eq_false (by omega)]; simp
    subst he hv
    clear hb' h0
    go_enter Tryz.func53, Tryz.ntmps53
    go_wp2
    go_ret
    exact ⟨rfl, hS'.out⟩
  · have q : s.toList.isEmpty = false := by
      rw [Lib.toList_data]
      cases h : s.data.toList with
      | nil => have := data_len s; rw [h, List.length_nil] at this; omega
      | cons _ _ => rfl
    have q2 : ¬ s.toList = [] := by intro h; rw [h] at q; cases q
    by_cases h16 : s.size ≤ 16
    · have hlt : 0 < s.size := by omega
      have e0 : byN s 0 = (s[0]).toNat := byN_at hlt
      have d256 := (s[0]).toNat_lt
      generalize hdd : (s[0]).toNat = d at e0 d256
      have hG := Lib.hid (fun w => tok_digit d w d256)
      have hF := tok_first s hs
      have hK := tok_keyword s
      have hiff := wEnd_word s
      have hn : nameB s = (!isDig d && !kwB s && wordB s) := by unfold nameB; rw [e0, decide_eq_true ⟨hlt, h16⟩]; simp
      rw [← hb'.out, hn]
      clear hn e0 hb'
      generalize s.extract 0 (wEnd s 0) = f at hF hiff
      generalize kwB s = kb at hK ⊢
      generalize wordB s = wb at hiff ⊢
      have hF' := Lib.hid hF
      have hK' := Lib.hid hK
      clear hF hK
      cases hd : isDig d with
      | true =>
        rw [hd] at hG
        clear hd hiff
        go_enter Tryz.func53, Tryz.ntmps53
        go_wp2_with (go_at_call 76; refine (hG.out _).mono ?_; rintro r w' ⟨rfl, rfl⟩)
        go_ret
        exact ⟨by cases kb <;> cases wb <;> rfl, hS'.out⟩
      | false =>
        rw [hd] at hG
        clear hd
        by_cases hfe : f = s
        · obtain rfl : wb = true := hiff.1 hfe
          have q3 : (f.toList == s.toList) = true := by rw [str_beq, decide_eq_true hfe]
          clear hiff hfe
          go_enter Tryz.func53, Tryz.ntmps53
          go_wp2_with (first | (go_at_call 76; refine (hG.out _).mono ?_; rintro r w' ⟨rfl, rfl⟩) | (go_at_call 77; refine (hF'.out _).mono ?_; rintro r w' ⟨rfl, rfl⟩) | (go_at_call 78; refine (hK'.out _).mono ?_; rintro r w' ⟨rfl, x, rfl⟩))
          go_ret
          exact ⟨by cases kb <;> rfl, x, rfl⟩
        · obtain rfl : wb = false := by
            cases wb with
            | false => rfl
            | true => exact absurd (hiff.2 rfl) hfe
          have q3 : (f.toList == s.toList) = false := by rw [str_beq, decide_eq_false hfe]
          clear hiff hfe
          go_enter Tryz.func53, Tryz.ntmps53
          go_wp2_with (first | (go_at_call 76; refine (hG.out _).mono ?_; rintro r w' ⟨rfl, rfl⟩) | (go_at_call 77; refine (hF'.out _).mono ?_; rintro r w' ⟨rfl, rfl⟩))
          go_ret
          exact ⟨by cases kb <;> rfl, hS'.out⟩
    · have h17 : (16 : Int) < s.size := by omega
      have hv : b = false := by rw [← hb'.out]; unfold nameB; rw [decide_eq_false (by omega)]; simp
      subst hv
      clear hb'
      go_enter Tryz.func53, Tryz.ntmps53
      go_wp2
      go_ret
      exact ⟨rfl, hS'.out⟩
end Go.Proofs.YtkffjjlmoojffaaGreatDoor
namespace Go.Proofs.YtkffjjlmoojffaaGreatDoor
open Go.RowKit
structure Lx (w : World) (b : Nat) (s : ByteArray) (k : Nat) : Prop where
  lt : b < w.heap.size
  c0 : w.cell? ⟨b, 0, none⟩ = some (.string s)
  c1 : w.cell? ⟨b, 1, none⟩ = some (.string (rest s k))
  fz : ∀ o, w.frozen? ⟨b, o, none⟩ = false
theorem Lx.below {w w' : World} {b : Nat} {s : ByteArray} {k n : Nat} (h : Lx w b s k) (hB : Below n w w') (hn : b < n) : Lx w' b s k :=
  ⟨Nat.lt_of_lt_of_le h.lt hB.size, (hB.cell (p := ⟨b, 0, none⟩) hn).trans h.c0, (hB.cell (p := ⟨b, 1, none⟩) hn).trans h.c1, fun o => (hB.frozen (p := ⟨b, o, none⟩) hn).trans (h.fz o)⟩
theorem Lx.plus {w : World} {b : Nat} {s : ByteArray} {k : Nat} (h : Lx w b s k) (x : Ext) : Lx (plus w x) b s k := h.below (below_plus w x) h.lt
theorem Lx.alloc {w : World} {b : Nat} {s : ByteArray} {k : Nat} (h : Lx w b s k) (x : Obj) : Lx (w.alloc x) b s k := h.below ((Below.refl _ w).alloc (Nat.le_refl _) x) h.lt
set_option maxHeartbeats 1000000 in
theorem lx_at (s : ByteArray) (k b : Nat) (w : World) (hk : k ≤ s.size) (hs : s.size ≤ 140737488355328) (h : Lx w b s k) :
    Calls Tryz.prog 102 #[.pointer (some ⟨b, 0, none⟩)] w fun e w' => e = .returned (.int .i64 (k : Int)) ∧ ∃ x, w' = plus w x := by
  have c0 := plus_cell h.lt h.c0
  have c1 := plus_cell h.lt h.c1
  have hr := rest_size s k
  generalize rest s k = r at c1 hr
  have hr2 : Hid ((s.size : Int) - (r.size : Int) = (k : Int)) := by
    show _ = _
    omega
  have hr1 : r.size ≤ 140737488355328 := by omega
  clear hr h
  go_enter Tryz.func102, Tryz.ntmps102
  go_wp2
  refine wp_region_own0 (by kernel_rfl) (by kernel_rfl) ?_
  repeat (go_big_quiet_step (fail))
  refine wpQuiet_nil ?_
  rintro _ ⟨y, rfl⟩
  go_wp2
  go_ret
  exact ⟨by rw [← hr2.out]; rfl, y, rfl⟩
set_option maxHeartbeats 1000000 in
theorem lx_fault (s : ByteArray) (k b : Nat) (E : Int) (w : World) (hE : ¬ E = 0) (hk : k ≤ s.size) (hs : s.size ≤ 140737488355328) (h : Lx w b s k) :
    Calls Tryz.prog 99 #[.pointer (some ⟨b, 0, none⟩), .int .i64 E] w fun e w' => e = .returned (fv E (lineOf s k : Nat) (colOf s k : Nat)) ∧ ∃ x, w' = plus w x := by
  have hF := text_fault s k E hE hs (by omega) (by omega)
  rw [clampN_in k s.size hk] at hF
  generalize lineOf s k = l at hF ⊢
  generalize colOf s k = c at hF ⊢
  have hF' := Lib.hid hF
  clear hF
  obtain ⟨W, hW, hB, hz, ca, fa⟩ := box1 w #[.int .i64 0, .int .i64 0, .int .i64 0] 32
  have hX : Lx W b s k := hW ▸ h.alloc _
  have c0 := plus_cell hX.lt hX.c0
  have hA := Lib.hid (fun y => lx_at s k b (plus W y) hk hs (hX.plus y))
  have f0 := ca 0 (some (.int .i64 0)) rfl
  have f1 := ca 1 (some (.int .i64 0)) rfl
  have f2 := ca 2 (some (.int .i64 0)) rfl
  clear ca hX
  go_enter Tryz.func99, Tryz.ntmps99
  go_wp2
  rw [← hW]
  clear hW
  refine wp_region_own_tail0 8 (by kernel_rfl) (by kernel_rfl) ?_
  simp only [List.take_succ_cons, List.take_zero, List.drop_succ_cons, List.drop_zero]
  repeat (go_big_quiet_step (first | (with_reducible exact (hA.out _).mono fun _ _ ⟨he, y, hy⟩ => ⟨he, ⟨_, hy.trans (plus_plus _ _ _)⟩⟩) | (with_reducible exact hF'.out.at _ _)))
  refine wpQuiet_nil ?_
  rintro _ ⟨y, rfl⟩
  go_wp2
  refine bodyPost_ret (v := fv E l c) (by simp [results, Tryz.results99, go_sem, f0, f1, f2]) rfl ⟨rfl, ?_⟩
  exact plus_of_below ((((hB.trans ((below_plus W y).mono hB.size)).setCell (Nat.le_refl _) _).setCell (Nat.le_refl _) _).setCell (Nat.le_refl _) _)
end Go.Proofs.YtkffjjlmoojffaaGreatDoor
namespace Go.Proofs.YtkffjjlmoojffaaGreatDoor
open Go.RowKit
def cutV (s : ByteArray) (c : Nat) : Value := match atB s c with
  | some a => .tuple #[.string (s.extract 0 a), .string (rest s (a + 1)), .bool true]
  | none => .tuple #[.string s, .string ⟨#[]⟩, .bool false]
set_option maxHeartbeats 1000000 in
theorem lite_cut1 (s : ByteArray) (c : UInt8) (hs : s.size ≤ 140737488355328) : Pure Tryz.prog 149 #[.string s, .string ⟨#[c]⟩] (cutV s c.toNat) := by
  intro w
  have hI := fun w => Tryz.stringslite_Index_one s c w
  rw [indexByte_at] at hI
  unfold cutV
  cases ha : atB s c.toNat with
  | none =>
    rw [ha] at hI
    simp only at hI ⊢
    have hI' := Lib.hid hI
    clear hI ha
    go_enter Tryz.func149, Tryz.ntmps149
    go_wp2_with (go_at_call 158; refine (hI'.out _).mono ?_; rintro e w' ⟨rfl, rfl⟩)
    go_ret3
    exact ⟨rfl, ⟨#[], _⟩, (plus_self _).symm⟩
  | some a =>
    rw [ha] at hI
    have hlt := (atB_lt ha).1
    simp only at hI ⊢
    have hI' := Lib.hid hI
    have hz : ByteArray.size ⟨#[c]⟩ = 1 := rfl
    have q1 : (0 : Int) ≤ (a : Int) := by omega
    clear hI ha
    go_enter Tryz.func149, Tryz.ntmps149
    go_wp2_with (go_at_call 158; refine (hI'.out _).mono ?_; rintro e w' ⟨rfl, rfl⟩)
    refine wp_region_own0 (by kernel_rfl) (by kernel_rfl) ?_
    repeat (go_big_quiet_step (fail))
    refine wpQuiet_nil ?_
    rintro _ ⟨y, rfl⟩
    go_wp2
    go_ret3
    exact ⟨rfl, y, rfl⟩
theorem lib_cut1 (s : ByteArray) (c : UInt8) (hs : s.size ≤ 140737488355328) : Pure Tryz.prog 126 #[.string s, .string ⟨#[c]⟩] (cutV s c.toNat) := by
  intro w
  have hC := lite_cut1 s c hs
  unfold cutV at hC ⊢
  cases ha : atB s c.toNat with
  | none =>
    rw [ha] at hC
    simp only at hC ⊢
    have hC' := Lib.hid hC
    clear hC ha
    go_enter Tryz.func126, Tryz.ntmps126
    go_wp2_with (go_at_call 149; refine (hC'.out _).mono ?_; rintro e w' ⟨rfl, x, rfl⟩)
    go_ret3
    exact ⟨rfl, x, rfl⟩
  | some a =>
    rw [ha] at hC
    simp only at hC ⊢
    have hC' := Lib.hid hC
    clear hC ha
    go_enter Tryz.func126, Tryz.ntmps126
    go_wp2_with (go_at_call 149; refine (hC'.out _).mono ?_; rintro e w' ⟨rfl, x, rfl⟩)
    go_ret3
    exact ⟨rfl, x, rfl⟩
theorem lib_clone (s : ByteArray) (hs : s.size ≤ 140737488355328) : Pure Tryz.prog 128 #[.string s] (.string s) := by
  intro w
  have hC := Lib.hid (Tryz.stringslite_Clone s w (by omega))
  go_enter Tryz.func128, Tryz.ntmps128
  go_wp2_with (go_at_call 150; refine hC.out.mono ?_; rintro e w' ⟨rfl, hB⟩)
  go_ret
  exact ⟨rfl, plus_of_below hB⟩
theorem lib_trim (s : ByteArray) (k : Nat) : Pure Tryz.prog 124 #[.string (rest s k), .string ⟨#[32, 9, 10]⟩] (.string (rest s (blankEnd s k))) := by
  intro w
  have hT := Any.strings_TrimLeft_laid Tryz.lays161 (by kernel_rfl) (rest s k) blankT w (by decide) (ascii_of_all (by decide))
  rw [trim_rest] at hT
  exact hT.mono fun _ _ ⟨he, hB⟩ => ⟨he, plus_of_below hB⟩
theorem lib_prefix (s m : ByteArray) (k : Nat) (hk : k ≤ s.size) : Pure Tryz.prog 125 #[.string (rest s k), .string m] (.bool (fitB s k m)) := by
  intro w
  have hT := Tryz.strings_HasPrefix (rest s k) m w
  rw [prefix_fit s m k hk] at hT
  exact hT.mono fun _ _ ⟨he, hB⟩ => ⟨he, ⟨#[], w.drawn⟩, by rw [hB, plus_self]⟩
end Go.Proofs.YtkffjjlmoojffaaGreatDoor
namespace Go.Proofs.YtkffjjlmoojffaaGreatDoor
open Go.RowKit
theorem grown_put (w : World) (b o : Nat) (v : Value) : w.grownBy (w.setCell ⟨b, o, none⟩ v) (some b) :=
  ⟨rfl, rfl, rfl, by simp, fun j _ hne => Below.heap_setCell _ _ _ _ (fun e => hne (by rw [e]))⟩
theorem grown_refl (w : World) (row : Option Nat) : w.grownBy w row := ⟨rfl, rfl, rfl, Nat.le_refl _, fun _ _ _ => rfl⟩
theorem grown_plus_any (w : World) (x : Ext) (row : Option Nat) : w.grownBy (plus w x) row := ⟨rfl, rfl, rfl, size_plus w x, fun k hk _ => by
  show (w.heap ++ x.blocks)[k]? = w.heap[k]?
  rw [Array.getElem?_append]; simp [hk]⟩
theorem grown_trans {a b c : World} {row : Option Nat} (h : a.grownBy b row) (k : b.grownBy c row) : a.grownBy c row :=
  ⟨k.os.trans h.os, k.tape.trans h.tape, k.output.trans h.output, Nat.le_trans h.size k.size, fun j hj hne => (k.block j (Nat.lt_of_lt_of_le hj h.size) hne).trans (h.block j hj hne)⟩
theorem Lx.put {w : World} {b : Nat} {s : ByteArray} {k : Nat} (h : Lx w b s k) (k' : Nat) : Lx (w.setCell ⟨b, 1, none⟩ (.string (rest s k'))) b s k' :=
  ⟨by have := h.lt; simp; omega, by rw [World.cell?_setCell_other _ _ _ _ (by simp)]; exact h.c0, World.cell?_setCell_same _ _ _ h.c1, fun o => by rw [World.frozen?_setCell]; exact h.fz o⟩
def restLen (w : World) (b : Nat) : Nat := match w.cell? ⟨b, 1, none⟩ with
  | some (.string r) => r.size
  | _ => 0
theorem restLen_of {w : World} {b : Nat} {s : ByteArray} {k : Nat} (h : Lx w b s k) : restLen w b = s.size - k := by
  unfold restLen
  rw [h.c1]
  exact rest_size s k
theorem slashes (s : ByteArray) (k : Nat) : fitB s k ⟨#[47, 47]⟩ = isRem s k := by
  unfold fitB isRem
  rw [Bool.eq_iff_iff, decide_eq_true_eq, decide_eq_true_eq]
  have hz : ByteArray.size ⟨#[47, 47]⟩ = 2 := rfl
  rw [hz]
  constructor
  · rintro ⟨_, h⟩
    have a0 := byN_extract s k (k + 2) 0 (by omega)
    have a1 := byN_extract s k (k + 2) 1 (by omega)
    rw [h] at a0 a1
    exact ⟨a0.symm, a1.symm⟩
  · rintro ⟨h0, h1⟩
    have hlt : k + 1 < s.size := by
      rcases Nat.lt_or_ge (k + 1) s.size with h | h
      · exact h
      · rw [byN_past h] at h1; omega
    refine ⟨by omega, ?_⟩
    rw [byN_at hlt] at h1
    rw [byN_at (by omega)] at h0
    rw [ByteArray.extract_add_two (by omega), show s[k] = 47 from UInt8.toNat_inj.1 h0, show s[k + 1] = 47 from UInt8.toNat_inj.1 h1]
    rfl
def remEnd (s : ByteArray) (k : Nat) : Nat := if eol s k < s.size then eol s k + 1 else s.size
theorem cut_rem (s : ByteArray) (k : Nat) (hk : k ≤ s.size) : ∃ a f, cutV (rest s k) 10 = .tuple #[.string a, .string (rest s (remEnd s k)), .bool f] := by
  have hge := eol_ge s _ k rfl
  unfold cutV remEnd
  rw [atB_eol s _ k rfl hk]
  by_cases he : eol s k < s.size
  · rw [if_pos he, if_pos he]
    simp only
    rw [rest_rest, show k + (eol s k - k + 1) = eol s k + 1 by omega]
    exact ⟨_, _, rfl⟩
  · rw [if_neg he, if_neg he]
    simp only
    rw [rest_end s s.size (Nat.le_refl _)]
    exact ⟨_, _, rfl⟩
theorem rem_skip (s : ByteArray) (k : Nat) (hk : k ≤ s.size) (hb : isBlank (byN s k) = false) (hr : isRem s k = true) : skipN s k = skipN s (remEnd s k) ∧ k < remEnd s k ∧ remEnd s k ≤ s.size := by
  have h47 : byN s k = 47 := by unfold isRem at hr; simp only [decide_eq_true_eq] at hr; exact hr.1
  have hlt : k < s.size := by
    rcases Nat.lt_or_ge k s.size with h | h
    · exact h
    · rw [byN_past h] at h47; omega
  have hge := eol_ge s _ (k + 1) rfl
  have hle := eol_le s _ k rfl hk
  have hgo := eol_go hlt (by omega : byN s k ≠ 10)
  rw [skip_rem hlt hb hr]
  unfold remEnd
  by_cases he : eol s k < s.size
  · rw [if_pos he]
    have h10 : byN s (eol s k) = 10 := by
      have := atB_eol s _ k rfl hk
      rw [if_pos he] at this
      have := (atB_lt this).2.1
      rwa [byN_rest, show k + (eol s k - k) = eol s k by omega] at this
    refine ⟨skip_blank he (by rw [h10]; rfl), by omega, by omega⟩
  · rw [if_neg he]
    exact ⟨by rw [show eol s k = s.size by omega], hlt, Nat.le_refl _⟩
theorem rem_none (s : ByteArray) (k : Nat) (hb : isBlank (byN s k) = false) (hr : isRem s k = false) : skipN s k = k := by
  by_cases hlt : k < s.size
  · exact skip_stop hlt hb hr
  · exact skip_end hlt
set_option maxHeartbeats 4000000 in
theorem lx_skip (s : ByteArray) (k b : Nat) (w : World) (hk : k ≤ s.size) (hs : s.size ≤ 140737488355328) (h : Lx w b s k) :
    Calls Tryz.prog 100 #[.pointer (some ⟨b, 0, none⟩)] w fun e w' => e = .returned (.tuple #[]) ∧ Lx w' b s (skipN s k) ∧ w.grownBy w' (some b) := by
  obtain ⟨R, hR⟩ : ∃ R, skipN s k = R := ⟨_, rfl⟩
  rw [hR]
  have hR' := Lib.hid hR
  have h' := Lib.hid h
  clear hR h
  go_enter Tryz.func100, Tryz.ntmps100
  go_wp2
  go_loopw [] (fun wr => ∃ k, k ≤ s.size ∧ skipN s k = R ∧ Lx wr b s k ∧ w.grownBy wr (some b)) (fun wr => restLen wr b)
  case atStart => exact ⟨k, hk, hR'.out, h'.out, grown_refl _ _⟩
  case round =>
    obtain ⟨k, hk, hkR, hX, hg⟩ := hrel
    clear h' hR'
    have hkR' := Lib.hid hkR
    have hX' := Lib.hid hX
    have hg' := Lib.hid hg
    have c1 := hX.c1
    have p1 := plus_cell hX.lt hX.c1
    have pf := plus_frozen hX.lt hX.fz
    have hT := Lib.hid (lib_trim s k)
    have hb := blankEnd_bounds s _ k rfl hk
    have hnb := Lib.hid (blankEnd_not s _ k rfl)
    have hsk : Hid (skipN s (blankEnd s k) = R) := (skip_blankEnd s _ k rfl).trans hkR
    have hlen := Lib.hid (restLen_of hX)
    clear hkR hX hg hkR'
    generalize blankEnd s k = k1 at hT hb hnb hsk
    have hP := lib_prefix s ⟨#[47, 47]⟩ k1 hb.2
    rw [slashes] at hP
    cases hr : isRem s k1 with
    | false =>
      rw [hr] at hP
      have hP' := Lib.hid hP
      have hend := Lib.hid (rem_none s k1 hnb.out hr)
      clear hP hr
      go_wp2_with (go_at_call 124; refine (hT.out _).mono ?_; rintro e w' ⟨rfl, x, rfl⟩)
      refine abs_calls3 (T := fun W => Lx W b s k1 ∧ w.grownBy W (some b)) ?_ ⟨(hX'.out.plus _).put k1, grown_trans (grown_trans hg'.out (grown_plus_any _ _ _)) (grown_put _ _ _ _)⟩
      rintro W ⟨hXW, hgW⟩
      have hXW' := Lib.hid hXW
      have hgW' := Lib.hid hgW
      clear hXW hgW
      refine (hP'.out _).mono ?_
      rintro e w' ⟨rfl, y, rfl⟩
      go_wp2
      refine bodyPost_ret (results_none rfl _ _ _) rfl ⟨rfl, ?_, ?_⟩
      · rw [← hsk.out, hend.out]; exact hXW'.out.plus _
      · exact grown_trans hgW'.out (grown_plus_any _ _ _)
    | true =>
      rw [hr] at hP
      have hP' := Lib.hid hP
      obtain ⟨e1, e2, e3⟩ := rem_skip s k1 hb.2 hnb.out hr
      obtain ⟨a, f, hc⟩ := cut_rem s k1 hb.2
      have hC := lib_cut1 (rest s k1) 10 (by rw [rest_size]; omega)
      rw [show (10 : UInt8).toNat = 10 from rfl, hc] at hC
      have hC' := Lib.hid hC
      have hsk2 : Hid (skipN s (remEnd s k1) = R) := e1.symm.trans hsk.out
      clear hP hr hC hc e1
      generalize remEnd s k1 = k2 at hC' hsk2 e2 e3
      go_wp2_with (go_at_call 124; refine (hT.out _).mono ?_; rintro e w' ⟨rfl, x, rfl⟩)
      refine abs_calls3 (T := fun W => Lx W b s k1 ∧ w.grownBy W (some b)) ?_ ⟨(hX'.out.plus _).put k1, grown_trans (grown_trans hg'.out (grown_plus_any _ _ _)) (grown_put _ _ _ _)⟩
      rintro W ⟨hXW, hgW⟩
      have c1W := plus_cell hXW.lt hXW.c1
      have fzW := plus_frozen hXW.lt hXW.fz
      have hXW' := Lib.hid hXW
      have hgW' := Lib.hid hgW
      clear hXW hgW c1 p1 pf
      refine (hP'.out _).mono ?_
      rintro e w' ⟨rfl, y, rfl⟩
      go_wp2_with (go_at_call 126; refine (hC'.out.at _ _).mono ?_; rintro e w' ⟨rfl, x2, rfl⟩)
      go_wp2
      go_roundw
      case rel => exact ⟨k2, e3, hsk2.out, (hXW'.out.plus _).put k2, grown_trans (grown_trans hgW'.out (grown_plus_any _ _ _)) (grown_put _ _ _ _)⟩
      case measure => rw [restLen_of ((hXW'.out.plus _).put k2), hlen.out]; omega
end Go.Proofs.YtkffjjlmoojffaaGreatDoor
namespace Go.Proofs.YtkffjjlmoojffaaGreatDoor
open Go.RowKit
abbrev gaveUp (e l c : Int) : Ending := .panicked [{ v := .iface 32 (fv e l c), recovered := false }]
structure Errs (w : World) : Prop where
  es : ∃ te pe, w.cell? ⟨7, 0, none⟩ = some (.iface te pe)
  er : ∃ te pe, w.cell? ⟨8, 0, none⟩ = some (.iface te pe)
theorem Errs.below {w w' : World} {n : Nat} (h : Errs w) (hB : Below n w w') (h1 : 7 < n) (h2 : 8 < n) : Errs w' := by
  obtain ⟨⟨te, pe, hs⟩, te2, pe2, hr⟩ := h
  exact ⟨⟨te, pe, (hB.cell (p := ⟨_, 0, none⟩) h1).trans hs⟩, te2, pe2, (hB.cell (p := ⟨_, 0, none⟩) h2).trans hr⟩
theorem cell_lt {w : World} {b o : Nat} {v : Value} (h : w.cell? ⟨b, o, none⟩ = some v) : b < w.heap.size := by
  unfold World.cell? at h
  cases hb : w.heap[b]? with
  | none => simp [hb] at h
  | some x => exact (Array.getElem?_eq_some_iff.1 hb).1
theorem Errs.plus {w : World} (h : Errs w) (x : Ext) : Errs (plus w x) := by
  obtain ⟨te, pe, hs⟩ := h.es
  obtain ⟨te2, pe2, hr⟩ := h.er
  exact h.below (below_plus w x) (cell_lt hs) (cell_lt hr)
def NoInt (w : World) (e : Ending) (w' : World) : Prop := ∃ (n : Int) (p : Addr) (x : Ext), e = .returned (.tuple #[.int .i64 n, .iface 225 (.pointer (some p))]) ∧ w' = plus w x
theorem lib_atoi_ok (d : ByteArray) (hs : d.size ≤ 140737488355328) (v : Int) (h : Lib.atoiAll d.data.toList = .ok v) : Pure Tryz.prog 160 #[.string d] (.tuple #[.int .i64 v, .nilIface]) := by
  intro w
  refine (Tryz.strconv_Atoi_ok d (by omega) v h w).mono ?_
  rintro e w' ⟨rfl, hw | ⟨t, hw⟩⟩
  · exact ⟨rfl, ⟨#[], w.drawn⟩, by rw [hw, plus_self]⟩
  · exact ⟨rfl, plus_of_below (hw ▸ Lib.bytesWorld_below _ _ _)⟩
theorem lib_atoi_no (d : ByteArray) (hs : d.size ≤ 140737488355328) (h : ∀ v, Lib.atoiAll d.data.toList ≠ .ok v) (w : World) (hE : Errs w) : Calls Tryz.prog 160 #[.string d] w (NoInt w) := by
  obtain ⟨⟨te, pe, h1⟩, te2, pe2, h2⟩ := hE
  rcases ha : Lib.atoiAll d.data.toList with v | _ | _
  · exact absurd ha (h v)
  · refine (Any.strconv_Atoi_syntax Tryz.laysC172 d (by omega) ha _ w h1 (.inr ⟨te, pe, rfl⟩)).mono ?_
    rintro e w' ⟨N, rfl, _, _, hB⟩
    obtain ⟨x, hx⟩ := plus_of_below hB
    exact ⟨_, _, x, rfl, hx⟩
  · refine (Tryz.strconv_Atoi_range d (by omega) ha _ w h2 (.inr ⟨te2, pe2, rfl⟩)).mono ?_
    rintro e w' ⟨N, rfl, _, _, hB⟩
    obtain ⟨x, hx⟩ := plus_of_below hB
    exact ⟨_, _, x, rfl, hx⟩
theorem uint_ok : ∀ (l : List UInt8) (acc u : Nat), Lib.parseUint10 acc l = .ok u → ∀ b ∈ l, isDig b.toNat = true
  | [], _, _, _, b, hb => by simp at hb
  | c :: r, acc, u, h, b, hb => by
    simp only [Lib.parseUint10] at h
    split at h
    · rename_i hc
      split at h
      · cases h
      · split at h
        · cases h
        · rcases List.mem_cons.1 hb with rfl | hb
          · unfold isDig; rw [decide_eq_true hc]
          · exact uint_ok r _ u h b hb
    · cases h
theorem atoi_digits (c : UInt8) (r : List UInt8) (v : Int) (hc : isDig c.toNat = true) (h : Lib.atoiAll (c :: r) = .ok v) : ∀ b ∈ c :: r, isDig b.toNat = true := by
  unfold isDig at hc
  rw [decide_eq_true_eq] at hc
  rw [Lib.atoiAll_plain c r (by omega) (by omega)] at h
  rcases hp : Lib.parseMag (c :: r) with u | _ | _
  · unfold Lib.parseMag at hp
    rw [if_neg (by simp)] at hp
    exact uint_ok _ _ _ hp
  · rw [hp] at h; cases h
  · rw [hp] at h; cases h
theorem uint_dec (s : ByteArray) (a : Nat) (h3 : a ≤ 3) (ha : a ≤ s.size) (hd : ∀ j, j < a → isDig (byN s j) = true) : ∀ (d k : Nat), a - k = d → k ≤ a → Lib.parseUint10 (decV s k) ((s.data.toList.take a).drop k) = .ok (decV s a)
  | 0, k, h, hk => by
    obtain rfl : k = a := by omega
    rw [List.drop_of_length_le (by rw [List.length_take]; omega)]
    rfl
  | d + 1, k, h, hk => by
    have hl : k < (s.data.toList.take a).length := by rw [List.length_take, data_len]; omega
    have hl2 : k < s.data.toList.length := by rw [data_len]; omega
    have hb : byN s k = (s.data.toList[k]).toNat := byN_list s k _ (List.getElem?_eq_getElem hl2)
    have h1 := hd k (by omega)
    unfold isDig at h1
    rw [decide_eq_true_eq] at h1
    have hlt := decV_lt s k (fun j hj => hd j (by omega))
    have h10 : 10 ^ k ≤ 100 := by
      have : k = 0 ∨ k = 1 ∨ k = 2 := by omega
      rcases this with rfl | rfl | rfl <;> decide
    rw [List.drop_eq_getElem_cons hl, List.getElem_take]
    simp only [Lib.parseUint10]
    rw [← hb, if_pos h1, if_neg (by omega), if_neg (by omega), show decV s k * 10 + (byN s k - 48) = decV s (k + 1) by show _ = 10 * decV s k + (byN s k - 48); omega]
    exact uint_dec s a h3 ha hd d (k + 1) (by omega) (by omega)
theorem head_list (s : ByteArray) (a : Nat) (ha : a ≤ s.size) (h1 : 1 ≤ a) : ∃ c r, (s.extract 0 a).data.toList = c :: r ∧ c.toNat = byN s 0 ∧ (s.extract 0 a).data.toList = s.data.toList.take a := by
  have he : (s.extract 0 a).data.toList = s.data.toList.take a := by
    rw [ByteArray.data_extract, Array.toList_extract, List.extract_eq_take_drop]
    simp
  cases hl : s.data.toList with
  | nil => have := data_len s; rw [hl, List.length_nil] at this; omega
  | cons c r =>
    obtain ⟨b, rfl⟩ : ∃ b, a = b + 1 := ⟨a - 1, by omega⟩
    refine ⟨c, r.take b, by rw [he, hl]; rfl, ?_, by rw [he, hl]⟩
    exact (byN_list s 0 c (by rw [hl]; rfl)).symm
theorem atoi_head (s : ByteArray) (a : Nat) (ha : a ≤ s.size) (h1 : 1 ≤ a) (hh : headOk s a = true) : Lib.atoiAll (s.extract 0 a).data.toList = .ok (decV s a : Nat) := by
  obtain ⟨c, r, e1, e2, e3⟩ := head_list s a ha h1
  unfold headOk at hh
  rw [Bool.and_eq_true, decide_eq_true_eq, List.all_eq_true] at hh
  obtain ⟨h3, hd⟩ := hh
  have hd' : ∀ j, j < a → isDig (byN s j) = true := fun j hj => hd j (List.mem_range.2 hj)
  have hc := hd' 0 (by omega)
  unfold isDig at hc
  rw [decide_eq_true_eq, ← e2] at hc
  have hu := uint_dec s a h3 ha hd' a 0 rfl (Nat.zero_le _)
  rw [List.drop_zero, ← e3, show decV s 0 = 0 from rfl] at hu
  have hlt := decV_lt s a hd'
  have h10 : 10 ^ a ≤ 1000 := by
    have : a = 1 ∨ a = 2 ∨ a = 3 := by omega
    rcases this with rfl | rfl | rfl <;> decide
  rw [e1] at hu ⊢
  rw [Lib.atoiAll_plain c r (by omega) (by omega)]
  unfold Lib.parseMag
  rw [if_neg (by simp), hu]
  unfold Lib.signless
  simp only
  rw [if_neg (by omega)]
theorem atoi_nohead (s : ByteArray) (a : Nat) (ha : a ≤ s.size) (h1 : 1 ≤ a) (h3 : a ≤ 3) (h0 : isDig (byN s 0) = true) (hh : headOk s a = false) : ∀ v, Lib.atoiAll (s.extract 0 a).data.toList ≠ .ok v := by
  intro v hv
  obtain ⟨c, r, e1, e2, e3⟩ := head_list s a ha h1
  rw [e1] at hv
  have hall := atoi_digits c r v (by rw [e2]; exact h0) hv
  rw [← e1, e3] at hall
  have : headOk s a = true := headOk_yes h3 fun j hj => by
    have hl : j < s.data.toList.length := by rw [data_len]; omega
    rw [byN_list s j _ (List.getElem?_eq_getElem hl)]
    refine hall _ ?_
    rw [List.mem_take_iff_getElem]
    exact ⟨j, by omega, rfl⟩
  rw [this] at hh
  cases hh
end Go.Proofs.YtkffjjlmoojffaaGreatDoor
