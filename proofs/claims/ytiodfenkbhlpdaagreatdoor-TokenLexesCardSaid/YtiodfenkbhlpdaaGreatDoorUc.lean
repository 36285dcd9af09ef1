/-
  WHAT IS PROVED HERE: what the document's letter, digit and skip of layer 3 hand back. skip: of any text of at most 2^47 bytes, and any byte of it.
-/
import Derived.Test.YtiodfenkbhlpdaaGreatDoorRows
import Derived.Test.YtiodfenkbhlpdaaGreatDoorUb
import Derived.Test.YtiodfenkbhlpdaaGreatDoorKit
import Derived.WalkKit
import Derived.WalkSpells
import Derived.WalkLawsBesides
namespace Go.Proofs.YtiodfenkbhlpdaaGreatDoor
open Go.RowKit
theorem ref_letter (c : Nat) (w : World) (h : c < 256) : Calls Tryz.prog 20 #[.int .u8 (c : Int)] w fun e w' => e = .returned (.bool (isLet c)) ∧ w = w' := by
  obtain ⟨b, hb⟩ : ∃ b, isLet c = b := ⟨_, rfl⟩
  have hb' := Lib.hid hb
  rw [hb]
  clear hb
  go_enter Tryz.func20, Tryz.ntmps20
  go_wp2
  all_goals
    go_ret
    refine ⟨?_, rfl⟩
    show Ending.returned (.bool _) = Ending.returned (.bool _)
    refine congrArg (fun x => Ending.returned (.bool x)) ?_
    rw [← hb'.out]
    unfold isLet
    rw [Bool.eq_iff_iff]
    simp
    omega
theorem ref_digit3 (c : Nat) (w : World) (h : c < 256) : Calls Tryz.prog 19 #[.int .u8 (c : Int)] w fun e w' => e = .returned (.bool (isDig c)) ∧ w = w' := by
  obtain ⟨b, hb⟩ : ∃ b, isDig c = b := ⟨_, rfl⟩
  have hb' := Lib.hid hb
  rw [hb]
  clear hb
  go_enter Tryz.func19, Tryz.ntmps19
  go_wp2
  all_goals
    go_ret
    refine ⟨?_, rfl⟩
    show Ending.returned (.bool _) = Ending.returned (.bool _)
    refine congrArg (fun x => Ending.returned (.bool x)) ?_
    rw [← hb'.out]
    unfold isDig
    rw [Bool.eq_iff_iff]
    simp
    omega
theorem blank_yes {s : ByteArray} {k : Nat} (h : k < s.size) (e : isBlank (byN s k) = true) : ((((s[k]).toNat : Int) == 32) || (((s[k]).toNat : Int) == 9) || (((s[k]).toNat : Int) == 10)) = true := by
  rw [byN_at h] at e
  unfold isBlank at e
  rw [← e, Bool.eq_iff_iff]
  simp
  omega
theorem byte_is {s : ByteArray} {k c : Nat} (h : k < s.size) (e : byN s k = c) : (((s[k]).toNat : Int) == (c : Int)) = true := by
  rw [byN_at h] at e
  simp [e]
theorem byte_not {s : ByteArray} {k c : Nat} (h : k < s.size) (e : ¬ byN s k = c) : (((s[k]).toNat : Int) == (c : Int)) = false := by
  rw [byN_at h] at e
  simp
  omega
set_option maxHeartbeats 2000000 in
theorem ref_skip (s : ByteArray) (a : Nat) (hs : s.size ≤ 140737488355328) (ha : a ≤ s.size) (w : World) : Calls Tryz.prog 15 #[.string s, .int .i64 (a : Int)] w fun e w' => e = .returned (.int .i64 (skipN s a : Nat)) ∧ w = w' := by
  obtain ⟨R, hR⟩ : ∃ R, skipN s a = R := ⟨_, rfl⟩
  rw [hR]
  have hR' := Lib.hid hR
  clear hR
  go_enter Tryz.func15, Tryz.ntmps15
  go_wp2
  go_loopw [1] (fun iv wr => ∃ k : Nat, k ≤ s.size ∧ iv = .int .i64 (k : Int) ∧ wr = w ∧ skipN s k = R) (fun iv _ => s.size - (intOf iv).toNat)
  case atStart => exact ⟨a, ha, rfl, rfl, hR'.out⟩
  case round =>
    obtain ⟨k, hk, rfl, rfl, hkR⟩ := hrel
    have hkR' := Lib.hid hkR
    clear hkR
    by_cases hlt : k < s.size
    · cases hb : isBlank (byN s k) with
      | true =>
        have hbl := blank_yes hlt hb
        have hb' := Lib.hid hb
        have hlt' := Lib.hid hlt
        clear hb
        go_wp2
        all_goals
          go_roundw
          all_goals first
            | (exact ⟨k + 1, by have := hlt'.out; omega, by go_num, by trivial, by rw [← hkR'.out, skip_blank hlt'.out hb'.out]⟩)
            | (simp [intOf]; have := hlt'.out; omega)
      | false =>
        have hn : ¬ (byN s k = 32 ∨ byN s k = 9 ∨ byN s k = 10) := by unfold isBlank at hb; simpa using hb
        have f1 : (((s[k]).toNat : Int) == 32) = false := byte_not hlt (fun h => hn (.inl h))
        have f2 : (((s[k]).toNat : Int) == 9) = false := byte_not hlt (fun h => hn (.inr (.inl h)))
        have f3 : (((s[k]).toNat : Int) == 10) = false := byte_not hlt (fun h => hn (.inr (.inr h)))
        have hb' := Lib.hid hb
        have hlt' := Lib.hid hlt
        clear hb hn
        by_cases h47 : byN s k = 47
        · have g4 : ((s[k]).toNat : Int) = 47 := by rw [byN_at hlt] at h47; omega
          by_cases h1 : k + 1 < s.size
          · by_cases h2 : byN s (k + 1) = 47
            · have g5 : ((s[k + 1]).toNat : Int) = 47 := by rw [byN_at h1] at h2; omega
              have hr : Hid (isRem s k = true) := by show _ = _; unfold isRem; simp [h47, h2]
              have h1' := Lib.hid h1
              clear h47 h2
              have hE := Lib.hid (eol_go (s := s) (k := k) hlt'.out (by unfold isRem at hr; have := hr.out; simp only [decide_eq_true_eq] at this; omega))
              have hG := Lib.hid (eol_ge s _ (k + 1) rfl)
              have hL := Lib.hid (eol_le s _ k rfl hk)
              go_wp2
              clear f1 f2 f3 g4 g5
              go_loopw [1] (fun iv wr' => ∃ j : Nat, j ≤ s.size ∧ iv = .int .i64 (j : Int) ∧ wr' = wr ∧ eol s j = eol s k) (fun iv _ => s.size - (intOf iv).toNat)
              case atStart => exact ⟨k, hk, rfl, rfl, rfl⟩
              case round =>
                obtain ⟨j, hj, rfl, rfl, hjE⟩ := hrel
                have hjE' := Lib.hid hjE
                clear hjE
                by_cases hjs : j < s.size
                · by_cases h10 : byN s j = 10
                  · have g6 : ((s[j]).toNat : Int) = 10 := by rw [byN_at hjs] at h10; omega
                    have he := Lib.hid (eol_stop (s := s) (k := j) (fun h => h.2 h10))
                    clear h10
                    go_wp2
                    go_roundw
                    case rel => exact ⟨j, hj, rfl, by trivial, by rw [← hkR'.out, skip_rem hlt'.out hb'.out hr.out, ← hjE'.out, he.out]⟩
                    case measure => simp [intOf]; have e1 := he.out; have e2 := hjE'.out; have e3 := hE.out; have e4 := hG.out; omega
                  · have g6 : ¬ ((s[j]).toNat : Int) = 10 := by rw [byN_at hjs] at h10; omega
                    have he := Lib.hid (eol_go hjs h10)
                    clear h10
                    go_wp2
                    go_roundw
                    case rel => exact ⟨j + 1, by omega, by go_num, by trivial, by rw [← hjE'.out, he.out]⟩
                    case measure => simp [intOf]; omega
                · have he := Lib.hid (eol_stop (s := s) (k := j) (fun h => hjs h.1))
                  go_wp2
                  go_roundw
                  case rel => exact ⟨j, hj, rfl, by trivial, by rw [← hkR'.out, skip_rem hlt'.out hb'.out hr.out, ← hjE'.out, he.out]⟩
                  case measure => simp [intOf]; have e1 := he.out; have e2 := hjE'.out; have e3 := hE.out; have e4 := hG.out; omega
            · have g5 : ¬ ((s[k + 1]).toNat : Int) = 47 := by rw [byN_at h1] at h2; omega
              have hr : Hid (isRem s k = false) := by show _ = _; unfold isRem; simp [h2]
              clear h47 h2
              go_wp2
              go_ret
              exact ⟨by rw [← hkR'.out, skip_stop hlt'.out hb'.out hr.out]; rfl, rfl⟩
          · have hr : Hid (isRem s k = false) := by show _ = _; unfold isRem; rw [byN_past (k := k + 1) (by omega)]; simp
            clear h47
            go_wp2
            go_ret
            exact ⟨by rw [← hkR'.out, skip_stop hlt'.out hb'.out hr.out]; rfl, rfl⟩
        · have g4 : ¬ ((s[k]).toNat : Int) = 47 := by rw [byN_at hlt] at h47; omega
          have hr : Hid (isRem s k = false) := by show _ = _; unfold isRem; simp [h47]
          clear h47
          go_wp2
          go_ret
          exact ⟨by rw [← hkR'.out, skip_stop hlt'.out hb'.out hr.out]; rfl, rfl⟩
    · have hlt' := Lib.hid hlt
      go_wp2
      go_ret
      exact ⟨by rw [← hkR'.out, skip_end hlt'.out]; rfl, rfl⟩
end Go.Proofs.YtiodfenkbhlpdaaGreatDoor
