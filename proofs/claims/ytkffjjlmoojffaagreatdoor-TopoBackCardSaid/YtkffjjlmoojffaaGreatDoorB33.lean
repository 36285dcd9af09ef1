/-
  WHAT IS PROVED HERE: a part of the proof of the claim's theorem: NtB.
-/
import Derived.Test.YtkffjjlmoojffaaGreatDoorRows
import Derived.Test.YtkffjjlmoojffaaGreatDoorB24
import Derived.Test.YtkffjjlmoojffaaGreatDoorB32
set_option linter.all false
namespace Go.Proofs.YtkffjjlmoojffaaGreatDoor
open Go.RowKit
set_option maxHeartbeats 2000000 in
theorem to_mayPorts {w : World} (v : Value) (ps : List Int) (h : LiesO w 1 intC v ps) (hb : ps.length ≤ 281474976710656) :
    Calls Tryz.prog 29 #[v] w (Back w (.bool (decide (ps.length ≤ 8) && psMay 1 ps))) := by
  obtain ⟨p, c, rfl, hc⟩ := h
  obtain ⟨n, hn⟩ : ∃ n, ps.length = n := ⟨_, rfl⟩
  rw [hn] at hb ⊢
  have hn' := Lib.hid hn
  have hc' := Lib.hid hc
  clear hc hn
  by_cases h8 : n ≤ 8
  · have e8 : decide ((8 : Int) < (n : Int)) = false := decide_eq_false (by omega)
    have f8 : ¬ (8 : Int) < (n : Int) := by omega
    rw [decide_eq_true h8, Bool.true_and]
    obtain ⟨R, hR⟩ : ∃ R, psMay 1 ps = R := ⟨_, rfl⟩
    rw [hR]
    have hR' := Lib.hid hR
    clear hR
    go_enter Tryz.func29, Tryz.ntmps29
    go_wp2
    rw [← plus_self w]
    go_loopw [3, 5, 11] (fun mv _ iv wr => ∃ (k : Nat) (m : Int), k ≤ n ∧ 1 ≤ m ∧ iv = .int .i64 (k : Int) ∧ mv = .int .i64 m ∧ (∃ y, wr = Go.Proofs.YtkffjjlmoojffaaGreatDoor.plus w y) ∧ Hid (psMay m (ps.drop k) = R)) (fun _ _ iv _ => n - (intOf iv).toNat)
    case atStart => exact ⟨0, 1, Nat.zero_le _, Int.le_refl _, rfl, rfl, ⟨_, rfl⟩, hR'.out⟩
    case round =>
      obtain ⟨k, m, hk, hm1, rfl, rfl, ⟨y, rfl⟩, hm⟩ := hrel
      by_cases hlt : k < n
      · obtain ⟨q, hq⟩ : ∃ q, ps[k]? = some q := ⟨ps[k]'(by rw [hn'.out]; exact hlt), List.getElem?_eq_getElem _⟩
        obtain ⟨g, o, rfl, hg, hcell⟩ := hc'.out k _ hq
        have d0 : ∀ y, (Go.Proofs.YtkffjjlmoojffaaGreatDoor.plus w y).cell? ⟨g, o + k, none⟩ = some (.int .i64 q) := fun y => plus_cell hg (by simpa using hcell 0 _ rfl) y
        have k0 : ¬ ((k : Int) < 0) := by omega
        have k1 : (k : Int) < (n : Int) := by omega
        have hdrop : ps.drop k = q :: ps.drop (k + 1) := by
          obtain ⟨h1, h2⟩ := List.getElem?_eq_some_iff.1 hq
          rw [List.drop_eq_getElem_cons h1, h2]
        have hm' := hm.out
        rw [hdrop, psMay] at hm'
        clear hcell hq hm hdrop
        by_cases c1 : m ≤ q
        · have e1 : decide (q < m) = false := decide_eq_false (by omega)
          have f1 : ¬ q < m := by omega
          by_cases c2 : q ≤ 511
          · have e2 : decide (511 < q) = false := decide_eq_false (by omega)
            have f2 : ¬ 511 < q := by omega
            rw [decide_eq_true c1, decide_eq_true c2, Bool.true_and, Bool.true_and] at hm'
            replace hm' := Lib.hid hm'
            go_wp2
            go_roundw
            case rel => exact ⟨k + 1, q + 1, hlt, by omega, congrArg (Value.int .i64) (by omega), by first | rfl | exact congrArg (Value.int .i64) (by go_num), ⟨_, rfl⟩, hm'.out⟩
            case measure => exact step_lt k n hlt
          · have e2 : decide (511 < q) = true := decide_eq_true (by omega)
            have f2 : 511 < q := by omega
            obtain rfl : R = false := by rw [← hm', decide_eq_false c2]; simp
            clear hm'
            go_wp2
            go_ret
            exact ⟨rfl, _, rfl⟩
        · have e1 : decide (q < m) = true := decide_eq_true (by omega)
          have f1 : q < m := by omega
          obtain rfl : R = false := by rw [← hm', decide_eq_false c1]; simp
          clear hm'
          go_wp2
          go_ret
          exact ⟨rfl, _, rfl⟩
      · obtain rfl : k = n := by omega
        obtain rfl : R = true := by rw [← hm.out, List.drop_of_length_le (by have := hn'.out; omega)]; rfl
        go_wp2
        go_ret
        exact ⟨rfl, _, rfl⟩
  · have e8 : decide ((8 : Int) < (n : Int)) = true := decide_eq_true (by omega)
    have f8 : (8 : Int) < (n : Int) := by omega
    rw [decide_eq_false h8, Bool.false_and]
    go_enter Tryz.func29, Tryz.ntmps29
    go_wp2
    go_ret
    exact ⟨rfl, ⟨#[], w.drawn⟩, (plus_self w).symm⟩
theorem inB_contains (done : List ByteArray) (x : ByteArray) : Lib.containsS done x = inB done x := by
  rw [Bool.eq_iff_iff, Lib.containsS_iff]
  unfold inB
  rw [List.any_eq_true]
  constructor
  · exact fun h => ⟨x, h, decide_eq_true rfl⟩
  · rintro ⟨y, hy, e⟩
    rw [← of_decide_eq_true e]; exact hy
set_option maxRecDepth 100000 in
set_option maxHeartbeats 2000000 in
theorem to_maySwitches {w : World} (p0 : Option Addr) (c0 : Nat) (names : List ByteArray) (h : LiesO w 1 strC (.slice p0 names.length c0) names) (hcap : names.length ≤ c0) (hb : names.length ≤ 281474976710656) (hz : ∀ x ∈ names, x.size ≤ 140737488355328) :
    Calls Tryz.prog 28 #[.slice p0 names.length c0] w (Back w (.bool (decide (names.length ≤ 8) && nmsMay [] names))) := by
  obtain ⟨p, c, hv, hc⟩ := h
  simp only [Value.slice.injEq] at hv
  obtain ⟨rfl, -, rfl⟩ := hv
  obtain ⟨n, hn⟩ : ∃ n, names.length = n := ⟨_, rfl⟩
  rw [hn] at hb hcap ⊢
  have hn' := Lib.hid hn
  have hc' := Lib.hid hc
  have hz' := Lib.hid hz
  have hcap' := Lib.hid hcap
  clear hc hn hz
  by_cases h8 : n ≤ 8
  · have e8 : decide ((8 : Int) < (n : Int)) = false := decide_eq_false (by omega)
    have f8 : ¬ (8 : Int) < (n : Int) := by omega
    rw [decide_eq_true h8, Bool.true_and]
    obtain ⟨R, hR⟩ : ∃ R, nmsMay [] names = R := ⟨_, rfl⟩
    rw [hR]
    have hR' := Lib.hid hR
    clear hR
    go_enter Tryz.func28, Tryz.ntmps28
    go_wp2
    rw [← plus_self w]
    go_loopw [3, 4, 10] (fun _ _ iv wr => ∃ (k : Nat), k ≤ n ∧ iv = .int .i64 (k : Int) ∧ (∃ y, wr = Go.Proofs.YtkffjjlmoojffaaGreatDoor.plus w y) ∧ Hid (nmsMay (names.take k) (names.drop k) = R)) (fun _ _ iv _ => n - (intOf iv).toNat)
    case atStart => exact ⟨0, Nat.zero_le _, rfl, ⟨_, rfl⟩, hR'.out⟩
    case round =>
      obtain ⟨k, hk, rfl, ⟨y, rfl⟩, hm⟩ := hrel
      by_cases hlt : k < n
      · obtain ⟨x, hx⟩ : ∃ q, names[k]? = some q := ⟨names[k]'(by rw [hn'.out]; exact hlt), List.getElem?_eq_getElem _⟩
        obtain ⟨g, o, rfl, hg, hcell⟩ := hc'.out k _ hx
        have d0 : ∀ y, (Go.Proofs.YtkffjjlmoojffaaGreatDoor.plus w y).cell? ⟨g, o + k, none⟩ = some (.string x) := fun y => plus_cell hg (by simpa using hcell 0 _ rfl) y
        have k0 : ¬ ((k : Int) < 0) := by omega
        have k1 : (k : Int) < (n : Int) := by omega
        have k2 : (0 : Int) ≤ (k : Int) := by omega
        have k3 : (k : Int) ≤ (c0 : Int) := by have := hcap'.out; omega
        obtain ⟨h1, h2⟩ := List.getElem?_eq_some_iff.1 hx
        have hdrop : names.drop k = x :: names.drop (k + 1) := by rw [List.drop_eq_getElem_cons h1, h2]
        have htake : names.take (k + 1) = names.take k ++ [x] := by rw [List.take_succ_eq_append_getElem h1, h2]
        have hm' := hm.out
        rw [hdrop, nmsMay, ← htake] at hm'
        have hI := Lib.hid (tok_name x (hz'.out x (List.mem_of_getElem? hx)))
        have hC := Lib.hid (fun y => Tryz.slices_Contains_string g o k c0 names x (Go.Proofs.YtkffjjlmoojffaaGreatDoor.plus w y) (by have := hn'.out; omega) (by omega) (fun j hj => by
          obtain ⟨g', o', hg', hgl, hcell⟩ := hc'.out j (names[j]'hj) (List.getElem?_eq_getElem hj)
          simp only [Option.some.injEq, Addr.mk.injEq, and_true] at hg'
          obtain ⟨rfl, rfl⟩ := hg'
          exact plus_cell hgl (by have := hcell 0 _ rfl; simpa [List.getD, hj] using this) y))
        have eI : Lib.containsS (names.take k) x = inB (names.take k) x := inB_contains _ _
        rw [eI] at hC
        clear hcell hx hm hdrop htake h1 h2 eI
        generalize nameB x = B1 at hI hm'
        generalize inB (names.take k) x = B2 at hC hm'
        cases B1 with
        | false =>
          obtain rfl : R = false := by rw [← hm']; rfl
          clear hm' hC
          go_wp2_with fail
          refine (hI.out.at _ _).mono ?_
          rintro e w' ⟨rfl, x2, rfl⟩
          go_wp2
          go_ret
          exact ⟨rfl, _, rfl⟩
        | true =>
          cases B2 with
          | true =>
            obtain rfl : R = false := by rw [← hm']; rfl
            clear hm'
            go_wp2_with fail
            refine (hI.out.at _ _).mono ?_
            rintro e w' ⟨rfl, x2, rfl⟩
            go_wp2_with fail
            refine (hC.out _).mono ?_
            rintro e w' ⟨rfl, rfl⟩
            go_wp2
            go_ret
            exact ⟨rfl, _, rfl⟩
          | false =>
            replace hm' := Lib.hid hm'
            go_wp2_with fail
            refine (hI.out.at _ _).mono ?_
            rintro e w' ⟨rfl, x2, rfl⟩
            go_wp2_with fail
            refine (hC.out _).mono ?_
            rintro e w' ⟨rfl, rfl⟩
            go_wp2
            go_roundw
            case rel => exact ⟨k + 1, hlt, congrArg (Value.int .i64) (by omega), ⟨_, rfl⟩, Lib.hid (by have := hm'.out; simpa using this)⟩
            case measure => exact step_lt k n hlt
      · obtain rfl : k = n := by omega
        obtain rfl : R = true := by rw [← hm.out, List.drop_of_length_le (by have := hn'.out; omega)]; rfl
        go_wp2
        go_ret
        exact ⟨rfl, _, rfl⟩
  · have e8 : decide ((8 : Int) < (n : Int)) = true := decide_eq_true (by omega)
    have f8 : (8 : Int) < (n : Int) := by omega
    rw [decide_eq_false h8, Bool.false_and]
    go_enter Tryz.func28, Tryz.ntmps28
    go_wp2
    go_ret
    exact ⟨rfl, ⟨#[], w.drawn⟩, (plus_self w).symm⟩
end Go.Proofs.YtkffjjlmoojffaaGreatDoor
