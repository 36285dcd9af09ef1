/-
  WHAT IS PROVED HERE: what the document's Length and both packages' Ahead of layer 11 hand back, in whatever world. No condition but that the halves are of 64 bits. Written by gen/mv.py.
-/
import Derived.Test.YtjfkkikbcmglnaaMu
namespace Go.Proofs.Ytjfkkikbcmglnaa
open Go.RowKit
theorem bit_down {m u i : Nat} (hm : m < B128) (hu : u ≤ 128) (hi : i < u) : Pure Try.prog 28 #[nv m, .int .i64 ((u : Int) - 1 - (i : Int))] (.bool (m.testBit (u - 1 - i))) := by
  have h := bit11 m (u - 1 - i) hm (by omega)
  rwa [show ((u - 1 - i : Nat) : Int) = (u : Int) - 1 - (i : Int) by omega] at h
set_option maxRecDepth 100000 in
set_option maxHeartbeats 4000000 in
theorem ref_length (v m : Nat) (x : Int) (hv : v < B128) (hm : m < B128) : Pure Try.prog 21 #[pv v m, .int .i64 x] (lenT v m x) := by
  intro w
  have T0 := ref_may v m x hv hm
  have h0 : mayB v m x = false → Value.tuple #[.int .i64 0, .bool false] = lenT v m x := fun h => lenT_no h
  have h1 : ∀ u : Nat, x = u → mayB v m x = true → (∀ l : Nat, l ≤ u → Ones m u l → Noughts m u l u → Value.tuple #[.int .i64 (l : Int), .bool true] = lenT v m x) ∧ (∀ l i : Nat, l < i → i < u → m.testBit (u - 1 - l) = false → m.testBit (u - 1 - i) = true → Value.tuple #[.int .i64 0, .bool false] = lenT v m x) := fun u hu h => by
    subst hu
    have hu := (may_and h).2.2
    exact ⟨fun l hl e1 e2 => lenT_some h (len_yes hl (by omega) (fun i hi => (may_off (by omega) h hi).1) e1 e2), fun l i e1 e2 e3 e4 => lenT_none h (len_no (by omega) e1 e2 e3 e4)⟩
  have hw : mayB v m x = true → 1 ≤ x ∧ x ≤ 128 := fun h => (may_and h).2.2
  have S0 := Lib.hid (fun (u i : Nat) (hu : u ≤ 128) (hi : i < u) => bit_down hm hu hi)
  clear hv hm
  obtain ⟨R, hR⟩ : ∃ R, lenT v m x = R := ⟨_, rfl⟩
  rw [hR] at h0 h1 ⊢
  generalize mayB v m x = Y at T0 h0 h1 hw
  have h0' := Lib.hid h0
  have h1' := Lib.hid h1
  have hw' := Lib.hid hw
  have T0' := Lib.hid T0
  clear hR h0 h1 hw T0
  go_enter Try.func21, Try.ntmps21
  go_upto_region 1 with (fail)
  obtain ⟨W, hW, hB, hs, ca, fa⟩ := box1 w _ 26
  rw [← hW, ← plus_self W]
  have ca0 := ca 0 (some (.int .u64 (hi v))) rfl
  have ca1 := ca 1 (some (.int .u64 (lo v))) rfl
  have ca2 := ca 2 (some (.int .u64 (hi m))) rfl
  have ca3 := ca 3 (some (.int .u64 (lo m))) rfl
  have hB' := Lib.hid hB
  clear hW ca fa hB hs
  have t0 := Lib.hid (fun y => T0'.out.at W y)
  clear T0'
  cases Y
  case false =>
    have hF := Lib.hid (h0'.out rfl)
    go_wp2_with (first | (with_reducible refine (t0.out _).mono ?_; rintro r w' ⟨rfl, x, rfl⟩))
    go_ret2
    exact ⟨congrArg Ending.returned hF.out, plus_of_below (hB'.out.trans ((below_plus W _).mono hB'.out.size))⟩
  case true =>
  obtain ⟨hx1, hx2⟩ := hw'.out rfl
  obtain ⟨u, hu⟩ : ∃ u : Nat, x = u := ⟨x.toNat, by omega⟩
  obtain ⟨h2, h3⟩ := h1'.out u hu rfl
  have h2' := Lib.hid h2
  have h3' := Lib.hid h3
  subst hu
  have hu128 : u ≤ 128 := by omega
  clear h0' h1' hw' hx1 hx2 h2 h3
  go_upto_region 4 with (first | (with_reducible refine (t0.out _).mono ?_; rintro r w' ⟨rfl, y0, rfl⟩))
  clear t0
  go_loopw [6] (fun iv wr => ∃ i : Nat, i ≤ u ∧ iv = .int .i64 (i : Int) ∧ Hid (Ones m u i) ∧ ∃ z, wr = plus W z) (fun iv _ => u - (intOf iv).toNat)
  case atStart => exact ⟨0, Nat.zero_le _, rfl, Ones.zero m u, _, rfl⟩
  case round =>
    obtain ⟨i, hi, rfl, hs, z, rfl⟩ := hrel
    by_cases hlt : i < u
    · have q0 := (S0.out u i hu128 hlt).at W
      obtain ⟨C, hC⟩ : ∃ C, m.testBit (u - 1 - i) = C := ⟨_, rfl⟩
      rw [hC] at q0
      have q0' := Lib.hid q0
      clear q0
      cases C
      · have hO : Hid (i = u ∨ m.testBit (u - 1 - i) = false) := .inr hC
        clear hC
        go_upto_region 7 with (first | (with_reducible refine (q0'.out _).mono ?_; rintro r w' ⟨rfl, y1, rfl⟩))
        go_loopw [7] (fun iv wr => ∃ j : Nat, i ≤ j ∧ j ≤ u ∧ iv = .int .i64 (j : Int) ∧ Hid (Noughts m u i j) ∧ ∃ z, wr = plus W z) (fun iv _ => u - (intOf iv).toNat)
        case atStart => exact ⟨i, Nat.le_refl _, hi, rfl, Noughts.zero m u i, _, rfl⟩
        case round =>
          obtain ⟨j, hij, hj, rfl, hn, z, rfl⟩ := hrel
          by_cases hlt2 : j < u
          · have q1 := (S0.out u j hu128 hlt2).at W
            obtain ⟨C, hC⟩ : ∃ C, m.testBit (u - 1 - j) = C := ⟨_, rfl⟩
            rw [hC] at q1
            have q1' := Lib.hid q1
            clear q1
            cases C
            · have hn2 := Lib.hid (hn.out.succ hC)
              clear hC hn
              go_wp2_with (first | (with_reducible refine (q1'.out _).mono ?_; rintro r w' ⟨rfl, y1, rfl⟩))
              go_roundw
              case rel => exact ⟨j + 1, Nat.le_succ_of_le hij, hlt2, rfl, hn2, _, rfl⟩
              case measure => exact step_less12 j u hlt2 rfl
            · have hF : Hid (Value.tuple #[.int .i64 0, .bool false] = R) := by
                rcases hO.out with rfl | hO2
                · omega
                · refine h3'.out i j ?_ hlt2 hO2 hC
                  by_cases c : i = j
                  · subst c; rw [hC] at hO2; cases hO2
                  · omega
              clear hC hn
              go_wp2_with (first | (with_reducible refine (q1'.out _).mono ?_; rintro r w' ⟨rfl, y1, rfl⟩))
              go_ret2
              exact ⟨congrArg Ending.returned hF.out, plus_of_below (hB'.out.trans ((below_plus W _).mono hB'.out.size))⟩
          · obtain rfl : j = u := by omega
            have hF := Lib.hid (h2'.out i hi hs.out hn.out)
            clear hn hlt2
            go_wp2
            go_ret2
            exact ⟨congrArg Ending.returned hF.out, plus_of_below (hB'.out.trans ((below_plus W _).mono hB'.out.size))⟩
      · have hs2 := Lib.hid (hs.out.succ hC)
        clear hC
        go_wp2_with (first | (with_reducible refine (q0'.out _).mono ?_; rintro r w' ⟨rfl, y1, rfl⟩))
        go_roundw
        case rel => exact ⟨i + 1, hlt, rfl, hs2, _, rfl⟩
        case measure => exact step_less12 i u hlt rfl
    · have hO : Hid (i = u ∨ m.testBit (u - 1 - i) = false) := .inl (by omega)
      go_upto_region 7 with (fail)
      go_loopw [7] (fun iv wr => ∃ j : Nat, i ≤ j ∧ j ≤ u ∧ iv = .int .i64 (j : Int) ∧ Hid (Noughts m u i j) ∧ ∃ z, wr = plus W z) (fun iv _ => u - (intOf iv).toNat)
      case atStart => exact ⟨i, Nat.le_refl _, hi, rfl, Noughts.zero m u i, _, rfl⟩
      case round =>
        obtain ⟨j, hij, hj, rfl, hn, z, rfl⟩ := hrel
        by_cases hlt2 : j < u
        · exfalso; omega
        · obtain rfl : j = u := by omega
          have hF := Lib.hid (h2'.out i hi hs.out hn.out)
          clear hn hlt2
          go_wp2
          go_ret2
          exact ⟨congrArg Ending.returned hF.out, plus_of_below (hB'.out.trans ((below_plus W _).mono hB'.out.size))⟩
/-- Does an entry go ahead? -/
def aheadB (l1 p1 l2 p2 : Int) : Bool := decide (p2 < p1) || (decide (p1 = p2) && decide (l2 < l1))
abbrev enV (l p : Int) : Value := .agg #[.int .i64 0, .slice none 0 0, .int .i64 l, .int .i64 p, .int .i64 0, .slice none 0 0]
set_option maxRecDepth 100000 in
set_option maxHeartbeats 1000000 in
theorem m_ahead (l1 p1 l2 p2 : Int) : Pure Try.prog 22 #[enV l1 p1, enV l2 p2] (.bool (aheadB l1 p1 l2 p2)) := by
  intro w
  have H : Hid (aheadB l1 p1 l2 p2 = (decide (p2 < p1) || (decide (p1 = p2) && decide (l2 < l1)))) := rfl
  go_enter Try.func22, Try.ntmps22
  go_upto_region 1 with (fail)
  obtain ⟨W, hW, hB, hs, ca, cb, fa, fb⟩ := box2 w _ _ 42 42
  rw [← hW, ← plus_self W]
  have ca2 := ca 2 (some (.int .i64 l1)) rfl
  have ca3 := ca 3 (some (.int .i64 p1)) rfl
  have cb2 := cb 2 (some (.int .i64 l2)) rfl
  have cb3 := cb 3 (some (.int .i64 p2)) rfl
  have hB' := Lib.hid hB
  clear hW ca cb fa fb hB hs
  go_wp2
  all_goals
    go_ret
    refine ⟨?_, plus_of_below (hB'.out.trans ((below_plus W _).mono hB'.out.size))⟩
    rw [H.out]
    simp_all
    try omega
set_option maxRecDepth 100000 in
set_option maxHeartbeats 1000000 in
theorem ref_ahead (l1 p1 l2 p2 : Int) : Pure Try.prog 23 #[enV l1 p1, enV l2 p2] (.bool (aheadB l1 p1 l2 p2)) := by
  intro w
  have H : Hid (aheadB l1 p1 l2 p2 = (decide (p2 < p1) || (decide (p1 = p2) && decide (l2 < l1)))) := rfl
  go_enter Try.func23, Try.ntmps23
  go_upto_region 1 with (fail)
  obtain ⟨W, hW, hB, hs, ca, cb, fa, fb⟩ := box2 w _ _ 42 42
  rw [← hW, ← plus_self W]
  have ca2 := ca 2 (some (.int .i64 l1)) rfl
  have ca3 := ca 3 (some (.int .i64 p1)) rfl
  have cb2 := cb 2 (some (.int .i64 l2)) rfl
  have cb3 := cb 3 (some (.int .i64 p2)) rfl
  have hB' := Lib.hid hB
  clear hW ca cb fa fb hB hs
  go_wp2
  all_goals
    go_ret
    refine ⟨?_, plus_of_below (hB'.out.trans ((below_plus W _).mono hB'.out.size))⟩
    rw [H.out]
    simp_all
    try omega
end Go.Proofs.Ytjfkkikbcmglnaa
