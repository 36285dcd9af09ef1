/-
  WHAT IS PROVED HERE: a part of the proof of the claim's theorem: Uh.
-/
import Derived.Test.YtkffjjlmoojffaaGreatDoorRows
import Derived.Test.YtkffjjlmoojffaaGreatDoorM11
import Derived.WalkKit
import Derived.WalkSpells
import Derived.WalkLawsBesides
import Derived.Deep.RegionWith
set_option linter.all false
namespace Go.Proofs.YtkffjjlmoojffaaGreatDoor
open Go.RowKit
def wAt (s : ByteArray) : Option Nat := (List.range s.size).find? fun j => decide (byN s j = 119)
theorem wAt_some {s : ByteArray} {a : Nat} (ha : a < s.size) (h : byN s a = 119) (hno : ∀ j, j < a → ¬ byN s j = 119) : wAt s = some a :=
  List.find?_range_eq_some.2 ⟨decide_eq_true h, List.mem_range.2 ha, fun j hj => by rw [decide_eq_false (hno j hj)]; rfl⟩
theorem wAt_none {s : ByteArray} (hno : ∀ j, j < s.size → ¬ byN s j = 119) : wAt s = none :=
  List.find?_range_eq_none.2 fun j hj => by rw [decide_eq_false (hno j hj)]; rfl
def decV (s : ByteArray) : Nat → Nat
  | 0 => 0
  | k + 1 => 10 * decV s k + (byN s k - 48)
theorem decV_lt (s : ByteArray) : ∀ k, (∀ j, j < k → isDig (byN s j) = true) → decV s k < 10 ^ k
  | 0, _ => Nat.one_pos
  | k + 1, h => by
    have h1 := decV_lt s k (fun j hj => h j (by omega))
    have h2 := h k (by omega)
    unfold isDig at h2
    simp only [decide_eq_true_eq] at h2
    show 10 * decV s k + (byN s k - 48) < 10 ^ (k + 1)
    rw [Nat.pow_succ]
    omega
def headOk (s : ByteArray) (a : Nat) : Bool := decide (a ≤ 3) && (List.range a).all fun j => isDig (byN s j)
theorem headOk_yes {s : ByteArray} {a : Nat} (h3 : a ≤ 3) (h : ∀ j, j < a → isDig (byN s j) = true) : headOk s a = true := by
  unfold headOk
  rw [decide_eq_true h3, Bool.true_and, List.all_eq_true]
  exact fun j hj => h j (List.mem_range.1 hj)
theorem headOk_long {s : ByteArray} {a : Nat} (h3 : ¬ a ≤ 3) : headOk s a = false := by unfold headOk; rw [decide_eq_false h3, Bool.false_and]
theorem headOk_no {s : ByteArray} {a j : Nat} (hj : j < a) (h : isDig (byN s j) = false) : headOk s a = false := by
  unfold headOk
  rw [Bool.and_eq_false_iff]
  right
  rw [List.all_eq_false]
  exact ⟨j, List.mem_range.2 hj, by rw [h]; simp⟩
noncomputable def numR (s : ByteArray) : Int × Nat × Int := match wAt s with
  | none => if (parseS s).2 = 0 then (0, (parseS s).1, 0) else (0, 0, (parseS s).2)
  | some a => if headOk s a = true then
      (if decV s a < 1 ∨ 128 < decV s a then (0, 0, 10)
       else if (parseS (s.extract (a + 1) s.size)).2 = 0 then
         (if (parseS (s.extract (a + 1) s.size)).1 % 2 ^ hw (decV s a) = (parseS (s.extract (a + 1) s.size)).1 then ((decV s a : Nat), (parseS (s.extract (a + 1) s.size)).1, 0) else (0, 0, 5))
       else (0, 0, (parseS (s.extract (a + 1) s.size)).2))
      else (0, 0, 4)
theorem parseR_lt (b : Nat) (l : List UInt8) : (parseR b l).1 < B128 := by
  unfold parseR
  split
  · decide
  · split
    · split
      · decide
      · rename_i h; unfold B128; simp only; omega
    · decide
theorem parseS_lt (s : ByteArray) : (parseS s).1 < B128 := by unfold parseS; split <;> exact parseR_lt _ _
structure ZInv (w wr : World) : Prop where
  below : Below w.heap.size w wr
  size : w.heap.size + 1 + 1 ≤ wr.heap.size
  r0 : wr.cell? ⟨w.heap.size, 0, none⟩ = some (.int .u64 0)
  r1 : wr.cell? ⟨w.heap.size, 1, none⟩ = some (.int .u64 0)
  fr : ∀ o, wr.frozen? ⟨w.heap.size, o, none⟩ = false
  z0 : wr.cell? ⟨w.heap.size + 1, 0, none⟩ = some (.int .u64 0)
  z1 : wr.cell? ⟨w.heap.size + 1, 1, none⟩ = some (.int .u64 0)
theorem ZInv.start (w : World) (T U : TypeId) : ZInv w ((w.alloc (.cells #[.int .u64 0, .int .u64 0] T)).alloc (.cells #[.int .u64 0, .int .u64 0] U)) := by
  obtain ⟨W, hW, hB, hz, ca, cb, fa, fb⟩ := box2 w #[.int .u64 0, .int .u64 0] #[.int .u64 0, .int .u64 0] T U
  rw [← hW, ← plus_self W]
  exact ⟨hB.trans ((below_plus W _).mono hB.size), Nat.le_trans (by omega) (size_plus W _), ca 0 (some (.int .u64 0)) rfl _, ca 1 (some (.int .u64 0)) rfl _, fa _, cb 0 (some (.int .u64 0)) rfl _, cb 1 (some (.int .u64 0)) rfl _⟩
theorem ZInv.plus {w wr : World} (h : ZInv w wr) (x : Ext) : ZInv w (plus wr x) := by
  have hs := h.size
  exact ⟨h.below.trans ((below_plus wr x).mono h.below.size), Nat.le_trans hs (size_plus wr x), (cell_plus wr x _ 0 (by omega)).trans h.r0, (cell_plus wr x _ 1 (by omega)).trans h.r1, fun o => (frozen_plus wr x _ o (by omega)).trans (h.fr o), (cell_plus wr x _ 0 (by omega)).trans h.z0, (cell_plus wr x _ 1 (by omega)).trans h.z1⟩
theorem ZInv.alloc {w wr : World} (h : ZInv w wr) (x : Obj) : ZInv w (wr.alloc x) := by
  have hs := h.size
  exact ⟨h.below.alloc h.below.size _, by simp; omega, (cell_old wr x _ 0 (by omega)).trans h.r0, (cell_old wr x _ 1 (by omega)).trans h.r1, fun o => (frozen_old wr x _ o (by omega)).trans (h.fr o), (cell_old wr x _ 0 (by omega)).trans h.z0, (cell_old wr x _ 1 (by omega)).trans h.z1⟩
noncomputable abbrev numV (r : Int × Nat × Int) : Value := .tuple #[.int .i64 r.1, nv r.2.1, .int .i64 r.2.2]
set_option maxHeartbeats 8000000 in
theorem ref_number (s : ByteArray) (hs : s.size ≤ 140737488355328) : Pure Tryz.prog 73 #[.string s] (numV (numR s)) := by
  intro w
  obtain ⟨vp, hvp⟩ : ∃ vp, numV (numR s) = vp := ⟨_, rfl⟩
  rw [hvp]
  have hvp' := Lib.hid hvp
  clear hvp
  go_enter Tryz.func73, Tryz.ntmps73
  go_wp2
  refine abs_world3 (T := ZInv w) ?_ (ZInv.start w _ _)
  intro W hZ
  have hZ' := Lib.hid hZ
  clear hZ
  go_loopw [6, 7] (fun av iv wr => wr = W ∧ ((∃ k : Nat, k ≤ s.size ∧ iv = .int .i64 (k : Int) ∧ av = .int .i64 (-1) ∧ ∀ j, j < k → ¬ byN s j = 119) ∨ (∃ a : Nat, a < s.size ∧ iv = .int .i64 ((a : Int) + 1) ∧ av = .int .i64 (a : Int) ∧ byN s a = 119 ∧ ∀ j, j < a → ¬ byN s j = 119))) (fun _ iv _ => s.size + 1 - (intOf iv).toNat)
  case atStart => exact ⟨rfl, .inl ⟨0, Nat.zero_le _, rfl, rfl, fun j hj => absurd hj (by omega)⟩⟩
  case round =>
    obtain ⟨rfl, hrel⟩ := hrel
    rcases hrel with ⟨k, hk, rfl, rfl, hno⟩ | ⟨a, ha, rfl, rfl, h119, hno⟩
    · have hno' := Lib.hid hno
      clear hno
      by_cases hlt : k < s.size
      · have e1 : byN s k = (s[k]).toNat := byN_at hlt
        generalize hcd : (s[k]).toNat = c at e1
        by_cases hc : c = 119
        · have hq : ((c : Int) == 119) = true := by subst hc; rfl
          have hc' := Lib.hid hc
          have e1' := Lib.hid e1
          have hlt' := Lib.hid hlt
          clear hc e1
          go_wp2
          go_roundw
          case rel => exact ⟨by trivial, .inr ⟨k, hlt'.out, by go_num, rfl, e1'.out.trans hc'.out, hno'.out⟩⟩
          case measure => simp [intOf]; have := hlt'.out; omega
        · have hq : ((c : Int) == 119) = false := by rw [beq_eq_false_iff_ne]; omega
          have hc' := Lib.hid hc
          have e1' := Lib.hid e1
          have hlt' := Lib.hid hlt
          clear hc e1
          go_wp2
          go_roundw
          case rel =>
            refine ⟨by trivial, .inl ⟨k + 1, by have := hlt'.out; omega, by go_num, rfl, fun j hj => ?_⟩⟩
            rcases Nat.lt_or_ge j k with h | h
            · exact hno'.out j h
            · rw [show j = k by omega, e1'.out]; exact hc'.out
          case measure => simp [intOf]; have := hlt'.out; omega
      · have hP := ref_parse s hs
        have hR : Hid (numR s = if (parseS s).2 = 0 then (0, (parseS s).1, 0) else (0, 0, (parseS s).2)) := by
          show _ = _
          unfold numR
          rw [wAt_none (fun j hj => hno'.out j (by omega))]
        generalize parseS s = r at hP hR
        obtain ⟨N, E⟩ := r
        simp only at hP hR
        have hP' := Lib.hid hP
        clear hP
        go_wp2_with fail
        refine (hP'.out _).mono ?_
        rintro e w' ⟨rfl, x, rfl⟩
        have hZ2 := hZ'.out.plus x
        generalize plus wr x = V1 at hZ2 ⊢
        have hZ2' := Lib.hid hZ2
        clear hZ' hP' hZ2
        by_cases hE : E = 0
        · subst hE
          rw [if_pos rfl] at hR
          go_wp2
          refine abs_world3 (T := fun V => ZInv w V ∧ V.cell? ⟨V1.heap.size, 0, none⟩ = some (.int .u64 (hi N)) ∧ V.cell? ⟨V1.heap.size, 1, none⟩ = some (.int .u64 (lo N))) ?_ ⟨hZ2'.out.alloc _, cell_new V1 _ _ _ 0 rfl, cell_new V1 _ _ _ 1 rfl⟩
          rintro V ⟨hZ3, m0, m1⟩
          generalize V1.heap.size = bn at m0 m1 ⊢
          have z0 := hZ3.z0
          have z1 := hZ3.z1
          have r0 := hZ3.r0
          have r1 := hZ3.r1
          have fr := hZ3.fr
          have hB := Lib.hid hZ3.below
          clear hZ3 hZ2'
          go_region
          all_goals (try go_wp2)
          all_goals
            refine bodyPost_ret (v := .tuple #[.int .i64 0, .agg #[.int .u64 (hi N), .int .u64 (lo N)], .int .i64 0]) (by simp [results, Tryz.results73, go_sem, r0, r1]) rfl ⟨by rw [← hvp'.out, hR.out], ?_⟩
            exact plus_of_below (((Below.refl _ _).trans hB.out).drew.setCell (Nat.le_refl _) _ |>.setCell (Nat.le_refl _) _)
        · have hq : ((E : Int) == 0) = false := by rw [beq_eq_false_iff_ne]; exact hE
          rw [if_neg hE] at hR
          clear hE
          go_wp2
          refine abs_world3 (T := fun V => ZInv w V ∧ V.cell? ⟨V1.heap.size, 0, none⟩ = some (.int .u64 (hi N)) ∧ V.cell? ⟨V1.heap.size, 1, none⟩ = some (.int .u64 (lo N))) ?_ ⟨hZ2'.out.alloc _, cell_new V1 _ _ _ 0 rfl, cell_new V1 _ _ _ 1 rfl⟩
          rintro V ⟨hZ3, m0, m1⟩
          generalize V1.heap.size = bn at m0 m1 ⊢
          have z0 := hZ3.z0
          have z1 := hZ3.z1
          have r0 := hZ3.r0
          have r1 := hZ3.r1
          have fr := hZ3.fr
          have hB := Lib.hid hZ3.below
          clear hZ3 hZ2'
          go_region
          all_goals (try go_wp2)
          all_goals
            refine bodyPost_ret (v := .tuple #[.int .i64 0, .agg #[.int .u64 0, .int .u64 0], .int .i64 E]) (by simp [results, Tryz.results73, go_sem, r0, r1]) rfl ⟨by rw [← hvp'.out, hR.out]; exact congrArg (fun z => Ending.returned (.tuple #[.int .i64 0, z, .int .i64 E])) nv_zero.symm, ?_⟩
            exact plus_of_below (((Below.refl _ _).trans hB.out).drew.setCell (Nat.le_refl _) _ |>.setCell (Nat.le_refl _) _)
    · have hR : Hid (numR s = (if headOk s a = true then
          (if decV s a < 1 ∨ 128 < decV s a then (0, 0, 10)
           else if (parseS (s.extract (a + 1) s.size)).2 = 0 then
             (if (parseS (s.extract (a + 1) s.size)).1 % 2 ^ hw (decV s a) = (parseS (s.extract (a + 1) s.size)).1 then (((decV s a : Nat) : Int), (parseS (s.extract (a + 1) s.size)).1, 0) else (0, 0, 5))
           else (0, 0, (parseS (s.extract (a + 1) s.size)).2))
          else (0, 0, 4))) := by
        show _ = _
        unfold numR
        rw [wAt_some ha h119 hno]
      have ha' := Lib.hid ha
      clear hno h119
      go_wp2
      all_goals
        go_loopw [8, 9] (fun wv iv wr' => wr' = wr ∧ ∃ k : Nat, k ≤ a ∧ iv = .int .i64 (k : Int) ∧ wv = .int .i64 ((decV s k : Nat) : Int) ∧ (k = 0 ∨ a ≤ 3) ∧ ∀ j, j < k → isDig (byN s j) = true) (fun _ iv _ => a - (intOf iv).toNat)
        case atStart => exact ⟨rfl, 0, Nat.zero_le _, rfl, rfl, .inl rfl, fun j hj => absurd hj (by omega)⟩
        case round =>
          obtain ⟨rfl, k, hk, rfl, rfl, h3, hds⟩ := hrel
          have hds' := Lib.hid hds
          clear hds
          by_cases hlt : k < a
          · have hks : k < s.size := by have := ha'.out; omega
            have e1 : byN s k = (s[k]).toNat := byN_at hks
            have c256 := (s[k]).toNat_lt
            generalize hcd : (s[k]).toNat = c at e1 c256
            have hG := Lib.hid (fun w => ref_digit3 c w c256)
            cases hd : isDig c with
            | false =>
              rw [hd] at hG
              have hR2 : Hid (numR s = (0, 0, 4)) := by
                show _ = _
                rw [hR.out, if_neg (by rw [headOk_no hlt (by rw [e1]; exact hd)]; simp)]
              have z0 := hZ'.out.z0
              have z1 := hZ'.out.z1
              have r0 := hZ'.out.r0
              have r1 := hZ'.out.r1
              have fr := hZ'.out.fr
              have hB := Lib.hid hZ'.out.below
              clear hd e1 hZ' hR
              go_wp2_with (go_at_call 71; refine (hG.out _).mono ?_; rintro e w' ⟨rfl, rfl⟩)
              go_region
              all_goals (try go_wp2)
              all_goals
                refine bodyPost_ret (v := .tuple #[.int .i64 0, .agg #[.int .u64 0, .int .u64 0], .int .i64 4]) (by simp [results, Tryz.results73, go_sem, r0, r1]) rfl ⟨by rw [← hvp'.out, hR2.out]; exact congrArg (fun z => Ending.returned (.tuple #[.int .i64 0, z, .int .i64 4])) nv_zero.symm, ?_⟩
                exact plus_of_below (((Below.refl _ _).trans hB.out).drew.setCell (Nat.le_refl _) _ |>.setCell (Nat.le_refl _) _)
            | true =>
              rw [hd] at hG
              by_cases ha3 : a ≤ 3
              · have hb : decV s k < 1000 := Nat.lt_of_lt_of_le (decV_lt s k hds'.out) (Nat.pow_le_pow_right (n := 10) (by decide) (show k ≤ 3 by omega))
                have hc : 48 ≤ c ∧ c ≤ 57 := by unfold isDig at hd; simpa using hd
                have hn : Hid (((decV s (k + 1) : Nat) : Int) = 10 * ((decV s k : Nat) : Int) + ((c : Int) - 48)) := by
                  show _ = _
                  have : decV s (k + 1) = 10 * decV s k + (byN s k - 48) := rfl
                  rw [this, e1]; omega
                have hds2 : Hid (∀ j, j < k + 1 → isDig (byN s j) = true) := by
                  intro j hj
                  rcases Nat.lt_or_ge j k with h | h
                  · exact hds'.out j h
                  · rw [show j = k by omega, e1]; exact hd
                obtain ⟨hc1, hc2⟩ := hc
                generalize decV s k = D at hb hn ⊢
                have hlt' := Lib.hid hlt
                have ha3' := Lib.hid ha3
                clear hd e1
                go_wp2_with (go_at_call 71; refine (hG.out _).mono ?_; rintro e w' ⟨rfl, rfl⟩)
                go_roundw
                case rel => exact ⟨by trivial, k + 1, by have := hlt'.out; omega, by go_num, by rw [hn.out], .inr ha3'.out, hds2.out⟩
                case measure => simp [intOf]; have := hlt'.out; omega
              · have hR2 : Hid (numR s = (0, 0, 4)) := by
                  show _ = _
                  rw [hR.out, if_neg (by rw [headOk_long ha3]; simp)]
                have z0 := hZ'.out.z0
                have z1 := hZ'.out.z1
                have r0 := hZ'.out.r0
                have r1 := hZ'.out.r1
                have fr := hZ'.out.fr
                have hB := Lib.hid hZ'.out.below
                clear hd e1 hZ' hR
                go_wp2_with (go_at_call 71; refine (hG.out _).mono ?_; rintro e w' ⟨rfl, rfl⟩)
                go_region
                all_goals (try go_wp2)
                all_goals
                  refine bodyPost_ret (v := .tuple #[.int .i64 0, .agg #[.int .u64 0, .int .u64 0], .int .i64 4]) (by simp [results, Tryz.results73, go_sem, r0, r1]) rfl ⟨by rw [← hvp'.out, hR2.out]; exact congrArg (fun z => Ending.returned (.tuple #[.int .i64 0, z, .int .i64 4])) nv_zero.symm, ?_⟩
                  exact plus_of_below (((Below.refl _ _).trans hB.out).drew.setCell (Nat.le_refl _) _ |>.setCell (Nat.le_refl _) _)
          · have hka : k = a := by omega
            subst hka
            have hH : headOk s k = true := headOk_yes (by omega) hds'.out
            rw [if_pos hH] at hR
            clear hH
            by_cases hW1 : decV s k < 1
            · have hR2 : Hid (numR s = (0, 0, 10)) := by
                show _ = _
                rw [hR.out, if_pos (.inl hW1)]
              generalize decV s k = D at hW1 ⊢
              have z0 := hZ'.out.z0
              have z1 := hZ'.out.z1
              have r0 := hZ'.out.r0
              have r1 := hZ'.out.r1
              have fr := hZ'.out.fr
              have hB := Lib.hid hZ'.out.below
              clear hZ' hR
              go_wp2
              go_region
              all_goals (try go_wp2)
              all_goals
                refine bodyPost_ret (v := .tuple #[.int .i64 0, .agg #[.int .u64 0, .int .u64 0], .int .i64 10]) (by simp [results, Tryz.results73, go_sem, r0, r1]) rfl ⟨by rw [← hvp'.out, hR2.out]; exact congrArg (fun z => Ending.returned (.tuple #[.int .i64 0, z, .int .i64 10])) nv_zero.symm, ?_⟩
                exact plus_of_below (((Below.refl _ _).trans hB.out).drew.setCell (Nat.le_refl _) _ |>.setCell (Nat.le_refl _) _)
            · by_cases hW2 : 128 < decV s k
              · have hR2 : Hid (numR s = (0, 0, 10)) := by
                  show _ = _
                  rw [hR.out, if_pos (.inr hW2)]
                generalize decV s k = D at hW1 hW2 ⊢
                have z0 := hZ'.out.z0
                have z1 := hZ'.out.z1
                have r0 := hZ'.out.r0
                have r1 := hZ'.out.r1
                have fr := hZ'.out.fr
                have hB := Lib.hid hZ'.out.below
                clear hZ' hR
                go_wp2
                go_region
                all_goals (try go_wp2)
                all_goals
                  refine bodyPost_ret (v := .tuple #[.int .i64 0, .agg #[.int .u64 0, .int .u64 0], .int .i64 10]) (by simp [results, Tryz.results73, go_sem, r0, r1]) rfl ⟨by rw [← hvp'.out, hR2.out]; exact congrArg (fun z => Ending.returned (.tuple #[.int .i64 0, z, .int .i64 10])) nv_zero.symm, ?_⟩
                  exact plus_of_below (((Below.refl _ _).trans hB.out).drew.setCell (Nat.le_refl _) _ |>.setCell (Nat.le_refl _) _)
              · rw [if_neg (by omega)] at hR
                have hP := ref_parse (s.extract (k + 1) s.size) (by simp; omega)
                have hNlt := parseS_lt (s.extract (k + 1) s.size)
                generalize parseS (s.extract (k + 1) s.size) = r at hP hR hNlt
                obtain ⟨N, E⟩ := r
                simp only at hP hR hNlt
                have hP' := Lib.hid hP
                have hF := Lib.hid (ref_fits N ((decV s k : Nat) : Int) hNlt)
                generalize decV s k = D at hW1 hW2 hR hF ⊢
                clear hP
                go_wp2_with fail
                refine (hP'.out _).mono ?_
                rintro e w' ⟨rfl, x, rfl⟩
                have hZ2 := hZ'.out.plus x
                generalize plus wr x = V1 at hZ2 ⊢
                have hZ2' := Lib.hid hZ2
                clear hZ' hP' hZ2
                by_cases hE : E = 0
                · subst hE
                  rw [if_pos rfl] at hR
                  by_cases hfit : N % 2 ^ hw ((D : Nat) : Int) = N
                  · rw [decide_eq_true hfit] at hF
                    have hR2 : Hid (numR s = ((D : Int), N, 0)) := by
                      show _ = _
                      rw [hR.out, if_pos hfit]
                    clear hfit hR
                    go_wp2_with fail
                    refine (hF.out _).mono ?_
                    rintro e w' ⟨rfl, x2, rfl⟩
                    go_wp2
                    refine abs_world3 (T := fun V => ZInv w V ∧ V.cell? ⟨V1.heap.size, 0, none⟩ = some (.int .u64 (hi N)) ∧ V.cell? ⟨V1.heap.size, 1, none⟩ = some (.int .u64 (lo N))) ?_ ⟨(hZ2'.out.alloc (.cells #[.int .u64 (hi N), .int .u64 (lo N)] 58)).plus x2, plus_cell (by simp) (cell_new V1 #[.int .u64 (hi N), .int .u64 (lo N)] 58 _ 0 rfl) x2, plus_cell (by simp) (cell_new V1 #[.int .u64 (hi N), .int .u64 (lo N)] 58 _ 1 rfl) x2⟩
                    rintro V ⟨hZ3, m0, m1⟩
                    generalize V1.heap.size = bn at m0 m1 ⊢
                    have z0 := hZ3.z0
                    have z1 := hZ3.z1
                    have r0 := hZ3.r0
                    have r1 := hZ3.r1
                    have fr := hZ3.fr
                    have hB := Lib.hid hZ3.below
                    clear hZ3 hZ2'
                    go_region
                    all_goals (try go_wp2)
                    all_goals
                      refine bodyPost_ret (v := .tuple #[.int .i64 (D : Int), .agg #[.int .u64 (hi N), .int .u64 (lo N)], .int .i64 0]) (by simp [results, Tryz.results73, go_sem, r0, r1]) rfl ⟨by rw [← hvp'.out, hR2.out], ?_⟩
                      exact plus_of_below (((Below.refl _ _).trans hB.out).drew.setCell (Nat.le_refl _) _ |>.setCell (Nat.le_refl _) _)
                  · rw [decide_eq_false hfit] at hF
                    have hR2 : Hid (numR s = (0, 0, 5)) := by
                      show _ = _
                      rw [hR.out, if_neg hfit]
                    clear hfit hR
                    go_wp2_with fail
                    refine (hF.out _).mono ?_
                    rintro e w' ⟨rfl, x2, rfl⟩
                    go_wp2
                    refine abs_world3 (T := fun V => ZInv w V ∧ V.cell? ⟨V1.heap.size, 0, none⟩ = some (.int .u64 (hi N)) ∧ V.cell? ⟨V1.heap.size, 1, none⟩ = some (.int .u64 (lo N))) ?_ ⟨(hZ2'.out.alloc (.cells #[.int .u64 (hi N), .int .u64 (lo N)] 58)).plus x2, plus_cell (by simp) (cell_new V1 #[.int .u64 (hi N), .int .u64 (lo N)] 58 _ 0 rfl) x2, plus_cell (by simp) (cell_new V1 #[.int .u64 (hi N), .int .u64 (lo N)] 58 _ 1 rfl) x2⟩
                    rintro V ⟨hZ3, m0, m1⟩
                    generalize V1.heap.size = bn at m0 m1 ⊢
                    have z0 := hZ3.z0
                    have z1 := hZ3.z1
                    have r0 := hZ3.r0
                    have r1 := hZ3.r1
                    have fr := hZ3.fr
                    have hB := Lib.hid hZ3.below
                    clear hZ3 hZ2'
                    go_region
                    all_goals (try go_wp2)
                    all_goals
                      refine bodyPost_ret (v := .tuple #[.int .i64 0, .agg #[.int .u64 0, .int .u64 0], .int .i64 5]) (by simp [results, Tryz.results73, go_sem, r0, r1]) rfl ⟨by rw [← hvp'.out, hR2.out]; exact congrArg (fun z => Ending.returned (.tuple #[.int .i64 0, z, .int .i64 5])) nv_zero.symm, ?_⟩
                      exact plus_of_below (((Below.refl _ _).trans hB.out).drew.setCell (Nat.le_refl _) _ |>.setCell (Nat.le_refl _) _)
                · have hq : ((E : Int) == 0) = false := by rw [beq_eq_false_iff_ne]; exact hE
                  have hR2 : Hid (numR s = (0, 0, E)) := by
                    show _ = _
                    rw [hR.out, if_neg hE]
                  clear hE hR
                  go_wp2
                  refine abs_world3 (T := fun V => ZInv w V ∧ V.cell? ⟨V1.heap.size, 0, none⟩ = some (.int .u64 (hi N)) ∧ V.cell? ⟨V1.heap.size, 1, none⟩ = some (.int .u64 (lo N))) ?_ ⟨hZ2'.out.alloc _, cell_new V1 _ _ _ 0 rfl, cell_new V1 _ _ _ 1 rfl⟩
                  rintro V ⟨hZ3, m0, m1⟩
                  generalize V1.heap.size = bn at m0 m1 ⊢
                  have z0 := hZ3.z0
                  have z1 := hZ3.z1
                  have r0 := hZ3.r0
                  have r1 := hZ3.r1
                  have fr := hZ3.fr
                  have hB := Lib.hid hZ3.below
                  clear hZ3 hZ2'
                  go_region
                  all_goals (try go_wp2)
                  all_goals
                    refine bodyPost_ret (v := .tuple #[.int .i64 0, .agg #[.int .u64 0, .int .u64 0], .int .i64 E]) (by simp [results, Tryz.results73, go_sem, r0, r1]) rfl ⟨by rw [← hvp'.out, hR2.out]; exact congrArg (fun z => Ending.returned (.tuple #[.int .i64 0, z, .int .i64 E])) nv_zero.symm, ?_⟩
                    exact plus_of_below (((Below.refl _ _).trans hB.out).drew.setCell (Nat.le_refl _) _ |>.setCell (Nat.le_refl _) _)
end Go.Proofs.YtkffjjlmoojffaaGreatDoor
