/-
  WHAT IS PROVED HERE: what token's isDigit, isOfWord, firstWord, IsKeyword and IsName hand back; firstWord, IsName: of any text of at most 2^47 bytes. (Out of XLexA and XUi, by gen/ha.py.)
-/
import Derived.Test.YtlmhldcebllckaaGreatRows
import Derived.Test.YtlmhldcebllckaaGreatUU
import Derived.Test.YtlmhldcebllckaaGreatKit
import Derived.Lib.Strings
import Derived.Lib.IndexBytes
import Derived.WalkKit
import Derived.WalkSpells
import Derived.WalkLawsBesides
namespace Go.Proofs.YtlmhldcebllckaaGreat
open Go.RowKit
/-- Where the word that byte k is of ends. -/
def wEnd (s : ByteArray) (k : Nat) : Nat := if _h : k < s.size then (if (isLet (byN s k) || isDig (byN s k)) = true then wEnd s (k + 1) else k) else k
termination_by s.size - k
theorem wEnd_go {s : ByteArray} {k : Nat} (h : k < s.size) (hb : (isLet (byN s k) || isDig (byN s k)) = true) : wEnd s k = wEnd s (k + 1) := by rw [wEnd, dif_pos h, if_pos hb]
theorem wEnd_stop {s : ByteArray} {k : Nat} (h : k < s.size) (hb : (isLet (byN s k) || isDig (byN s k)) = false) : wEnd s k = k := by rw [wEnd, dif_pos h, if_neg (by rw [hb]; simp)]
theorem wEnd_past {s : ByteArray} {k : Nat} (h : ¬ k < s.size) : wEnd s k = k := by rw [wEnd, dif_neg h]
theorem wEnd_bounds (s : ByteArray) : ∀ (d k : Nat), s.size - k = d → k ≤ s.size → k ≤ wEnd s k ∧ wEnd s k ≤ s.size
  | 0, k, h, hk => by rw [wEnd_past (by omega)]; omega
  | d + 1, k, h, hk => by
    cases hb : (isLet (byN s k) || isDig (byN s k)) with
    | true => rw [wEnd_go (by omega) hb]; have := wEnd_bounds s d (k + 1) (by omega) (by omega); omega
    | false => rw [wEnd_stop (by omega) hb]; omega
/-- What is left of a text from a byte on. -/
abbrev rest (s : ByteArray) (k : Nat) : ByteArray := s.extract k s.size
theorem data_len (s : ByteArray) : s.data.toList.length = s.size := by rw [Array.length_toList]; rfl
theorem rest_zero (s : ByteArray) : rest s 0 = s := by apply ByteArray.ext; simp [rest]
theorem tok_digit (c : Nat) (w : World) (h : c < 256) : Calls Tryz.prog 101 #[.int .u8 (c : Int)] w fun e w' => e = .returned (.bool (isDig c)) ∧ w = w' := by
  obtain ⟨b, hb⟩ : ∃ b, isDig c = b := ⟨_, rfl⟩
  have hb' := Lib.hid hb
  rw [hb]
  clear hb
  go_enter Tryz.func101, Tryz.ntmps101
  go_wp2
  all_goals
    go_ret
    refine ⟨?_, rfl⟩
    show Ending.returned (.bool _) = Ending.returned (.bool _)
    refine congrArg (fun x => Ending.returned (.bool x)) ?_
    rw [← hb'.out]
    unfold isDig
    rw [Bool.eq_iff_iff]
    simp
    omega
/-- Is it a byte of a word? -/
def isWrd (c : Nat) : Bool := isLet c || isDig c
theorem tok_ofword (c : Nat) (w : World) (h : c < 256) : Calls Tryz.prog 142 #[.int .u8 (c : Int)] w fun e w' => e = .returned (.bool (isWrd c)) ∧ w = w' := by
  obtain ⟨b, hb⟩ : ∃ b, isWrd c = b := ⟨_, rfl⟩
  have hb' := Lib.hid hb
  rw [hb]
  clear hb
  cases hd : isDig c with
  | true =>
    have hd' := Lib.hid hd
    have hD := Lib.hid (fun w => tok_digit c w h)
    rw [hd] at hD
    clear hd
    go_enter Tryz.func142, Tryz.ntmps142
    go_wp2_with (go_at_call 101; refine (hD.out _).mono ?_; rintro e w' ⟨rfl, rfl⟩)
    all_goals
      go_ret
      refine ⟨?_, rfl⟩
      show Ending.returned (.bool _) = Ending.returned (.bool _)
      refine congrArg (fun x => Ending.returned (.bool x)) ?_
      rw [← hb'.out]
      have hx := hd'.out
      unfold isWrd isLet
      unfold isDig at hx ⊢
      rw [Bool.eq_iff_iff]
      simp at hx ⊢
      omega
  | false =>
    have hd' := Lib.hid hd
    have hD := Lib.hid (fun w => tok_digit c w h)
    rw [hd] at hD
    clear hd
    go_enter Tryz.func142, Tryz.ntmps142
    go_wp2_with (go_at_call 101; refine (hD.out _).mono ?_; rintro e w' ⟨rfl, rfl⟩)
    all_goals
      go_ret
      refine ⟨?_, rfl⟩
      show Ending.returned (.bool _) = Ending.returned (.bool _)
      refine congrArg (fun x => Ending.returned (.bool x)) ?_
      rw [← hb'.out]
      have hx := hd'.out
      unfold isWrd isLet
      unfold isDig at hx ⊢
      rw [Bool.eq_iff_iff]
      simp at hx ⊢
      omega
theorem wrd_go {s : ByteArray} {k : Nat} (h : k < s.size) (hb : isWrd (byN s k) = true) : wEnd s k = wEnd s (k + 1) := wEnd_go h hb
theorem wrd_stop {s : ByteArray} {k : Nat} (h : k < s.size) (hb : isWrd (byN s k) = false) : wEnd s k = k := wEnd_stop h hb
set_option maxHeartbeats 1000000 in
theorem tok_first (s : ByteArray) (hs : s.size ≤ 140737488355328) (w : World) : Calls Tryz.prog 102 #[.string s] w fun e w' => e = .returned (.string (s.extract 0 (wEnd s 0))) ∧ w = w' := by
  obtain ⟨R, hR⟩ : ∃ R, wEnd s 0 = R := ⟨_, rfl⟩
  rw [hR]
  have hR' := Lib.hid hR
  clear hR
  go_enter Tryz.func102, Tryz.ntmps102
  go_wp2
  go_loopw [3] (fun iv wr => ∃ k : Nat, k ≤ s.size ∧ iv = .int .i64 (k : Int) ∧ wr = w ∧ wEnd s k = R) (fun iv _ => s.size - (intOf iv).toNat)
  case atStart => exact ⟨0, Nat.zero_le _, rfl, rfl, hR'.out⟩
  case round =>
    obtain ⟨k, hk, rfl, rfl, hkR⟩ := hrel
    have hkR' := Lib.hid hkR
    clear hkR
    by_cases hlt : k < s.size
    · have e2 : byN s k = (s[k]).toNat := byN_at hlt
      have d256 := (s[k]).toNat_lt
      generalize hdd : (s[k]).toNat = d at e2 d256
      have hG2 := Lib.hid (fun w => tok_ofword d w d256)
      cases g1 : isWrd d with
      | true =>
        have hgo := Lib.hid (wrd_go hlt (by rw [e2, g1]))
        rw [g1] at hG2
        clear g1 e2
        go_wp2_with (go_at_call 142; refine (hG2.out _).mono ?_; rintro e w' ⟨rfl, rfl⟩)
        go_roundw
        case rel => exact ⟨k + 1, by omega, by go_num, by trivial, by rw [← hgo.out]; exact hkR'.out⟩
        case measure => simp [intOf]; omega
      | false =>
        have hst := Lib.hid (wrd_stop hlt (by rw [e2, g1]))
        rw [g1] at hG2
        clear g1 e2
        go_wp2_with (go_at_call 142; refine (hG2.out _).mono ?_; rintro e w' ⟨rfl, rfl⟩)
        go_wp2
        go_ret
        exact ⟨by rw [← hkR'.out, hst.out]; rfl, rfl⟩
    · have hst := Lib.hid (wEnd_past hlt)
      go_wp2
      go_ret
      exact ⟨by rw [← hkR'.out, hst.out]; rfl, rfl⟩
theorem list_beq (s : ByteArray) (l : List UInt8) : (s.toList == l) = decide (s.data.toList = l) := by
  rw [Bool.eq_iff_iff, beq_iff_eq, decide_eq_true_eq, Lib.toList_data]
theorem list_contra {s : ByteArray} {l : List UInt8} (h1 : (s.toList == l) = true) (h2 : (s.toList == l) = false) : False := by rw [h1] at h2; cases h2
theorem kwB_list {s : ByteArray} {l : List UInt8} (h : (s.toList == l) = true) (hm : ((List.range 32).any fun k => decide ((kwAt k).data.toList = l)) = true) : kwB s = true := by
  rw [List.any_eq_true] at hm
  obtain ⟨k, hk, e⟩ := hm
  rw [list_beq, decide_eq_true_eq] at h
  rw [decide_eq_true_eq] at e
  refine kwB_yes (List.mem_range.1 hk) ?_
  apply ByteArray.ext
  rw [← Array.toList_inj, e, h]
theorem kwB_ex {s : ByteArray} (h : kwB s = true) : ∃ k, k < 32 ∧ (s.toList == (kwAt k).data.toList) = true := by
  unfold kwB at h
  rw [List.any_eq_true] at h
  obtain ⟨k, hk, e⟩ := h
  rw [decide_eq_true_eq] at e
  exact ⟨k, List.mem_range.1 hk, by rw [e, list_beq, decide_eq_true rfl]⟩
set_option maxHeartbeats 8000000 in
theorem tok_keyword (s : ByteArray) : Pure Tryz.prog 103 #[.string s] (.bool (kwB s)) := by
  intro w
  obtain ⟨b, hb⟩ : ∃ b, kwB s = b := ⟨_, rfl⟩
  have hb' := Lib.hid hb
  rw [hb]
  clear hb
  go_enter Tryz.func103, Tryz.ntmps103
  go_wp2
  all_goals first
    | (exfalso; exact list_contra (s := s) (by assumption) (by assumption))
    | (go_ret
       refine ⟨?_, ⟨#[], w.drawn⟩, (plus_self w).symm⟩
       have hk : kwB s = true := kwB_list (s := s) (by assumption) (by decide +kernel)
       rw [← hb'.out, hk]
       rfl)
    | (go_ret
       refine ⟨?_, ⟨#[], w.drawn⟩, (plus_self w).symm⟩
       have hk : kwB s = false := by
         cases he : kwB s with
         | false => rfl
         | true =>
           exfalso
           obtain ⟨k, hk, e⟩ := kwB_ex he
           match k, hk, e with
           | 0, _, e => exact list_contra e (by assumption)
           | 1, _, e => exact list_contra e (by assumption)
           | 2, _, e => exact list_contra e (by assumption)
           | 3, _, e => exact list_contra e (by assumption)
           | 4, _, e => exact list_contra e (by assumption)
           | 5, _, e => exact list_contra e (by assumption)
           | 6, _, e => exact list_contra e (by assumption)
           | 7, _, e => exact list_contra e (by assumption)
           | 8, _, e => exact list_contra e (by assumption)
           | 9, _, e => exact list_contra e (by assumption)
           | 10, _, e => exact list_contra e (by assumption)
           | 11, _, e => exact list_contra e (by assumption)
           | 12, _, e => exact list_contra e (by assumption)
           | 13, _, e => exact list_contra e (by assumption)
           | 14, _, e => exact list_contra e (by assumption)
           | 15, _, e => exact list_contra e (by assumption)
           | 16, _, e => exact list_contra e (by assumption)
           | 17, _, e => exact list_contra e (by assumption)
           | 18, _, e => exact list_contra e (by assumption)
           | 19, _, e => exact list_contra e (by assumption)
           | 20, _, e => exact list_contra e (by assumption)
           | 21, _, e => exact list_contra e (by assumption)
           | 22, _, e => exact list_contra e (by assumption)
           | 23, _, e => exact list_contra e (by assumption)
           | 24, _, e => exact list_contra e (by assumption)
           | 25, _, e => exact list_contra e (by assumption)
           | 26, _, e => exact list_contra e (by assumption)
           | 27, _, e => exact list_contra e (by assumption)
           | 28, _, e => exact list_contra e (by assumption)
           | 29, _, e => exact list_contra e (by assumption)
           | 30, _, e => exact list_contra e (by assumption)
           | 31, _, e => exact list_contra e (by assumption)
           | n + 32, hn, _ => omega
       rw [← hb'.out, hk]
       rfl)
theorem wEnd_word (s : ByteArray) : (s.extract 0 (wEnd s 0) = s) ↔ wordB s = true := by
  have hb := wEnd_bounds s _ 0 rfl (Nat.zero_le _)
  have hz : (s.extract 0 (wEnd s 0)).size = wEnd s 0 := by rw [ByteArray.size_extract]; omega
  have hgo : ∀ (d k : Nat), s.size - k = d → k ≤ s.size → wEnd s k = s.size → ∀ j, k ≤ j → j < s.size → isWrd (byN s j) = true := by
    intro d
    induction d with
    | zero => intro k h _ _ j h1 h2; omega
    | succ d ih =>
      intro k h hk he j h1 h2
      cases hw : isWrd (byN s k) with
      | false => rw [wrd_stop (by omega) hw] at he; omega
      | true =>
        by_cases hj : j = k
        · rw [hj]; exact hw
        · rw [wrd_go (by omega) hw] at he
          exact ih (k + 1) (by omega) (by omega) he j (by omega) h2
  have hback : ∀ (d k : Nat), s.size - k = d → k ≤ s.size → (∀ j, k ≤ j → j < s.size → isWrd (byN s j) = true) → wEnd s k = s.size := by
    intro d
    induction d with
    | zero => intro k h hk _; rw [wEnd_past (by omega)]; omega
    | succ d ih =>
      intro k h hk hall
      rw [wrd_go (by omega) (hall k (Nat.le_refl _) (by omega))]
      exact ih (k + 1) (by omega) (by omega) (fun j h1 h2 => hall j (by omega) h2)
  constructor
  · intro h
    have he : wEnd s 0 = s.size := by rw [← hz, h]
    exact wordB_yes fun k hk => hgo _ 0 rfl (Nat.zero_le _) he k (Nat.zero_le _) hk
  · intro h
    unfold wordB at h
    rw [List.all_eq_true] at h
    have he : wEnd s 0 = s.size := hback _ 0 rfl (Nat.zero_le _) fun j _ hj => h j (List.mem_range.2 hj)
    rw [he]
    exact rest_zero s
set_option maxHeartbeats 4000000 in
theorem tok_name (s : ByteArray) (hs : s.size ≤ 140737488355328) : Pure Tryz.prog 47 #[.string s] (.bool (nameB s)) := by
  intro w
  obtain ⟨b, hb⟩ : ∃ b, nameB s = b := ⟨_, rfl⟩
  have hb' := Lib.hid hb
  rw [hb]
  clear hb
  have hS : ∃ x, w = plus w x := ⟨⟨#[], w.drawn⟩, (plus_self w).symm⟩
  have hS' := Lib.hid hS
  clear hS
  by_cases h0 : s.size = 0
  · have he : s = ⟨#[]⟩ := ByteArray.ext (Array.eq_empty_of_size_eq_zero h0)
    have hv : b = false := by rw [← hb'.out]; unfold nameB; rw [decide_eq_false (by omega)]; simp
    subst he hv
    clear hb' h0
    go_enter Tryz.func47, Tryz.ntmps47
    go_wp2
    go_ret
    exact ⟨rfl, hS'.out⟩
  · have q : s.toList.isEmpty = false := by
      rw [Lib.toList_data]
      cases h : s.data.toList with
      | nil => have := data_len s; rw [h, List.length_nil] at this; omega
      | cons _ _ => rfl
    have q2 : ¬ s.toList = [] := by intro h; rw [h] at q; cases q
    by_cases h16 : s.size ≤ 16
    · have hlt : 0 < s.size := by omega
      have e0 : byN s 0 = (s[0]).toNat := byN_at hlt
      have d256 := (s[0]).toNat_lt
      generalize hdd : (s[0]).toNat = d at e0 d256
      have hG := Lib.hid (fun w => tok_digit d w d256)
      have hF := tok_first s hs
      have hK := tok_keyword s
      have hiff := wEnd_word s
      have hn : nameB s = (!isDig d && !kwB s && wordB s) := by unfold nameB; rw [e0, decide_eq_true ⟨hlt, h16⟩]; simp
      rw [← hb'.out, hn]
      clear hn e0 hb'
      generalize s.extract 0 (wEnd s 0) = f at hF hiff
      generalize kwB s = kb at hK ⊢
      generalize wordB s = wb at hiff ⊢
      have hF' := Lib.hid hF
      have hK' := Lib.hid hK
      clear hF hK
      cases hd : isDig d with
      | true =>
        rw [hd] at hG
        clear hd hiff
        go_enter Tryz.func47, Tryz.ntmps47
        go_wp2_with (go_at_call 101; refine (hG.out _).mono ?_; rintro r w' ⟨rfl, rfl⟩)
        go_ret
        exact ⟨by cases kb <;> cases wb <;> rfl, hS'.out⟩
      | false =>
        rw [hd] at hG
        clear hd
        by_cases hfe : f = s
        · obtain rfl : wb = true := hiff.1 hfe
          have q3 : (f.toList == s.toList) = true := by rw [str_beq, decide_eq_true hfe]
          clear hiff hfe
          go_enter Tryz.func47, Tryz.ntmps47
          go_wp2_with (first | (go_at_call 101; refine (hG.out _).mono ?_; rintro r w' ⟨rfl, rfl⟩) | (go_at_call 102; refine (hF'.out _).mono ?_; rintro r w' ⟨rfl, rfl⟩) | (go_at_call 103; refine (hK'.out _).mono ?_; rintro r w' ⟨rfl, x, rfl⟩))
          go_ret
          exact ⟨by cases kb <;> rfl, x, rfl⟩
        · obtain rfl : wb = false := by
            cases wb with
            | false => rfl
            | true => exact absurd (hiff.2 rfl) hfe
          have q3 : (f.toList == s.toList) = false := by rw [str_beq, decide_eq_false hfe]
          clear hiff hfe
          go_enter Tryz.func47, Tryz.ntmps47
          go_wp2_with (first | (go_at_call 101; refine (hG.out _).mono ?_; rintro r w' ⟨rfl, rfl⟩) | (go_at_call 102; refine (hF'.out _).mono ?_; rintro r w' ⟨rfl, rfl⟩))
          go_ret
          exact ⟨by cases kb <;> rfl, hS'.out⟩
    · have h17 : (16 : Int) < s.size := by omega
      have hv : b = false := by rw [← hb'.out]; unfold nameB; rw [decide_eq_false (by omega)]; simp
      subst hv
      clear hb'
      go_enter Tryz.func47, Tryz.ntmps47
      go_wp2
      go_ret
      exact ⟨rfl, hS'.out⟩
end Go.Proofs.YtlmhldcebllckaaGreat
