/-
  WHAT IS PROVED HERE: what slices.Index, Contains, Equal hand back of rows of ints (and of bools); the document's vast and Vast hand back one bool.
-/
import Derived.Test.YtplkiadkkefppaaRows
import Derived.Test.YtplkiadkkefppaaZc
import Derived.Test.YtplkiadkkefppaaSf
import Derived.WalkKit
import Derived.Lib.Hide
import Derived.WalkSpells
import Derived.WalkLawsBesides
namespace Go.Proofs.Ytplkiadkkefppaa
open Go.RowKit
/-- A number's cell. -/
def natC (n : Nat) : List Value := [.int .i64 (n : Int)]
def bitC (b : Bool) : List Value := [.bool b]
theorem beq_cast (a b : Nat) (t : Bool) (h : (a == b) = t) : (((a : Int)) == ((b : Int))) = t := by
  rw [← h]
  by_cases e : a = b
  · subst e; rw [beq_self_eq_true, beq_self_eq_true]
  · rw [beq_eq_false_iff_ne.2 (show (a : Int) ≠ (b : Int) by omega), beq_eq_false_iff_ne.2 e]
set_option maxRecDepth 100000 in
set_option maxHeartbeats 8000000 in
theorem ints_index (p : Option Addr) (c : Nat) (l : List Nat) (x : Nat) (w : World) (hr : RowAt w 1 natC p l) (hl : l.length ≤ 1048576) :
    Kp Try.prog w 32 #[.slice p l.length c, .int .i64 (x : Int)] (.int .i64 (firstI (fun y => x == y) l 0)) := by
  intro y0
  have hr := hr.plus y0
  obtain ⟨W, hW⟩ : ∃ W, plus w y0 = W := ⟨_, rfl⟩
  rw [hW] at hr ⊢
  clear hW
  obtain ⟨n, hn⟩ : ∃ n, l.length = n := ⟨_, rfl⟩
  rw [hn] at hl
  obtain ⟨R, hR⟩ : ∃ R, firstI (fun y => x == y) l 0 = R := ⟨_, rfl⟩
  have h0 : firstI (fun y => x == y) (l.drop 0) 0 = R := hR
  rw [hn, hR]
  have hr' := Lib.hid hr
  have hn' := Lib.hid hn
  have hl' := Lib.hid hl
  have h0' := Lib.hid h0
  clear hr hl hn hR h0
  go_enter Try.func32, Try.ntmps32
  go_wp2
  go_loopw [5, 8] (fun _ iv wr => ∃ k : Nat, k ≤ n ∧ iv = .int .i64 (k : Int) ∧ Hid (firstI (fun y => x == y) (l.drop k) k = R) ∧ wr = W) (fun _ iv _ => n - (intOf iv).toNat)
  case atStart => exact ⟨0, Nat.zero_le _, rfl, h0', rfl⟩
  case round =>
    obtain ⟨k, hk, rfl, hs, rfl⟩ := hrel
    by_cases hlt : k < n
    · obtain ⟨a, ha⟩ : ∃ s, l[k]? = some s := ⟨l[k]'(by rw [hn'.out]; exact hlt), List.getElem?_eq_getElem _⟩
      obtain ⟨pa, rfl, hc⟩ := hr'.out k a ha
      have hs1 := (firstI_drop (fun y => x == y) l k a ha).symm.trans hs.out
      rw [Nat.mul_one] at hc
      have d0 := hc.c0 _ rfl
      have a6 := Lib.hid (wr_succ k n hlt hl'.out)
      clear hc ha hs
      obtain ⟨Z, hZ⟩ : ∃ Z, (x == a) = Z := ⟨_, rfl⟩
      simp only [hZ] at hs1
      have g := beq_cast x a Z hZ
      clear hZ
      cases Z with
      | false =>
        have hs2 := Lib.hid (show firstI (fun y => x == y) (l.drop (k + 1)) (k + 1) = R by rw [← hs1, if_neg (by decide)])
        clear hs1
        go_wp2
        go_roundw
        case rel => exact ⟨k + 1, hlt, congrArg (Value.int .i64) a6.out, hs2, by trivial⟩
        case measure => exact step_less k n hlt a6.out
      | true =>
        have hs2 := Lib.hid (show (k : Int) = R by rw [← hs1, if_pos rfl])
        clear hs1
        go_wp2
        go_ret
        exact ⟨congrArg (fun z => Ending.returned (Value.int .i64 z)) hs2.out, _, (plus_self _).symm⟩
    · obtain rfl : k = n := by omega
      have hs2 := Lib.hid (show (-1 : Int) = R by
        rw [← hs.out, List.drop_of_length_le (by rw [hn'.out]; exact Nat.le_refl _)]; rfl)
      clear hs hlt hk
      go_wp2
      go_ret
      exact ⟨congrArg (fun z => Ending.returned (Value.int .i64 z)) hs2.out, _, (plus_self _).symm⟩
theorem firstI_has (x : Nat) : ∀ (l : List Nat) (k : Nat), (decide (0 ≤ firstI (fun y => x == y) l k)) = l.contains x
  | [], k => by simp [firstI]
  | a :: l, k => by
    rw [firstI, List.contains_cons]
    by_cases e : (x == a) = true
    · rw [if_pos e, e]; simp
    · rw [if_neg e, firstI_has x l (k + 1)]
      simp [e]
set_option maxRecDepth 100000 in
set_option maxHeartbeats 8000000 in
theorem ints_contains (p : Option Addr) (c : Nat) (l : List Nat) (x : Nat) (w : World) (hr : RowAt w 1 natC p l) (hl : l.length ≤ 1048576) :
    Kp Try.prog w 22 #[.slice p l.length c, .int .i64 (x : Int)] (.bool (l.contains x)) := by
  intro y0
  have h1 := (ints_index p c l x w hr hl).up y0
  have h2 := firstI_has x l 0
  obtain ⟨W, hW⟩ : ∃ W, plus w y0 = W := ⟨_, rfl⟩
  rw [hW] at h1 ⊢
  clear hW hr
  obtain ⟨n, hn⟩ : ∃ n, l.length = n := ⟨_, rfl⟩
  obtain ⟨R, hR⟩ : ∃ R, firstI (fun y => x == y) l 0 = R := ⟨_, rfl⟩
  rw [hn, hR] at h1
  rw [hR] at h2
  rw [hn]
  have h1' := Lib.hid h1
  have h2' := Lib.hid h2
  clear h1 hn hl hR h2
  go_enter Try.func22, Try.ntmps22
  go_wp2_with fail
  refine (calls_self h1'.out).mono ?_
  rintro r w' ⟨rfl, x1, rfl⟩
  go_wp2
  go_ret
  exact ⟨congrArg (fun z => Ending.returned (Value.bool z)) h2'.out, _, rfl⟩
set_option maxRecDepth 100000 in
set_option maxHeartbeats 8000000 in
theorem ints_equal (p q : Option Addr) (c d : Nat) (l m : List Nat) (w : World) (hr : RowAt w 1 natC p l) (hs : RowAt w 1 natC q m) (hl : l.length ≤ 1048576) :
    Kp Try.prog w 14 #[.slice p l.length c, .slice q m.length d] (.bool (l == m)) := by
  intro y0
  have hr := hr.plus y0
  have hs := hs.plus y0
  obtain ⟨W, hW⟩ : ∃ W, plus w y0 = W := ⟨_, rfl⟩
  rw [hW] at hr hs ⊢
  clear hW
  obtain ⟨n, hn⟩ : ∃ n, l.length = n := ⟨_, rfl⟩
  obtain ⟨n2, hn2⟩ : ∃ n, m.length = n := ⟨_, rfl⟩
  rw [hn] at hl
  obtain ⟨R, hR⟩ : ∃ R, (l == m) = R := ⟨_, rfl⟩
  have h0 : (l.drop 0 == m.drop 0) = R := hR
  rw [hn, hn2, hR]
  by_cases e : n = n2
  case neg =>
    have hF := Lib.hid (show false = R by
      rw [← hR]; symm; rw [beq_eq_false_iff_ne]; intro h; apply e; rw [← hn, ← hn2, h])
    have e2 : ¬ ((n : Int) = (n2 : Int)) := by omega
    clear hr hs hl hn hn2 hR h0 e
    go_enter Try.func14, Try.ntmps14
    go_wp2
    go_ret
    exact ⟨congrArg (fun z => Ending.returned (Value.bool z)) hF.out, _, (plus_self _).symm⟩
  case pos =>
  subst e
  have hr' := Lib.hid hr
  have hs' := Lib.hid hs
  have hn' := Lib.hid hn
  have hm' := Lib.hid hn2
  have hl' := Lib.hid hl
  have h0' := Lib.hid h0
  clear hr hs hl hn hn2 hR h0
  go_enter Try.func14, Try.ntmps14
  go_wp2
  go_loopw [5, 13] (fun _ iv wr => ∃ k : Nat, k ≤ n ∧ iv = .int .i64 (k : Int) ∧ Hid ((l.drop k == m.drop k) = R) ∧ ∃ y, wr = plus W y) (fun _ iv _ => n - (intOf iv).toNat)
  case atStart => exact ⟨0, Nat.zero_le _, rfl, h0', ⟨#[], W.drawn⟩, (plus_self W).symm⟩
  case round =>
    obtain ⟨k, hk, rfl, hd, y, rfl⟩ := hrel
    by_cases hlt : k < n
    · obtain ⟨a, ha⟩ : ∃ s, l[k]? = some s := ⟨l[k]'(by rw [hn'.out]; exact hlt), List.getElem?_eq_getElem _⟩
      obtain ⟨b, hb⟩ : ∃ s, m[k]? = some s := ⟨m[k]'(by rw [hm'.out]; exact hlt), List.getElem?_eq_getElem _⟩
      obtain ⟨pa, rfl, hc⟩ := hr'.out k a ha
      obtain ⟨qa, rfl, he⟩ := hs'.out k b hb
      rw [Nat.mul_one] at hc he
      have hs1 : (a == b && (l.drop (k + 1) == m.drop (k + 1))) = R := by
        rw [← hd.out]
        obtain ⟨h1, rfl⟩ := List.getElem?_eq_some_iff.1 ha
        obtain ⟨h2, rfl⟩ := List.getElem?_eq_some_iff.1 hb
        rw [List.drop_eq_getElem_cons h1, List.drop_eq_getElem_cons h2]
        rfl
      have d0 := fun y => (hc.plus y).c0 _ rfl
      have d1 := fun y => (he.plus y).c0 _ rfl
      have a6 := Lib.hid (wr_succ k n hlt hl'.out)
      clear hc he ha hb hd
      obtain ⟨Z, hZ⟩ : ∃ Z, (a == b) = Z := ⟨_, rfl⟩
      simp only [hZ] at hs1
      have g := beq_cast a b Z hZ
      have g1 : ¬ (Z = true) → ¬ ((a : Int) = (b : Int)) := fun h e => h (by rw [← g]; simpa using e)
      have g2 : Z = true → (a : Int) = (b : Int) := fun h => by rw [h] at g; simpa using g
      clear hZ
      cases Z with
      | true =>
        have hs2 := Lib.hid (show (l.drop (k + 1) == m.drop (k + 1)) = R by rw [← hs1, Bool.true_and])
        clear hs1
        go_wp2
        refine wp_region_own (by kernel_rfl) (by kernel_rfl) ?_
        repeat (go_big_quiet_step (fail))
        refine wpQuiet_nil ?_
        rintro _ ⟨y1, rfl⟩
        go_wp2
        go_roundw
        case rel => exact ⟨k + 1, hlt, congrArg (Value.int .i64) a6.out, hs2, _, rfl⟩
        case measure => exact step_less k n hlt a6.out
      | false =>
        have hs2 := Lib.hid (show false = R by rw [← hs1, Bool.false_and])
        clear hs1
        go_wp2
        refine wp_region_own (by kernel_rfl) (by kernel_rfl) ?_
        repeat (go_big_quiet_step (fail))
        refine wpQuiet_nil ?_
        rintro _ ⟨y1, rfl⟩
        go_wp2
        go_ret
        exact ⟨congrArg (fun z => Ending.returned (Value.bool z)) hs2.out, _, rfl⟩
    · obtain rfl : k = n := by omega
      have hs2 := Lib.hid (show true = R by
        rw [← hd.out, List.drop_of_length_le (by rw [hn'.out]; exact Nat.le_refl _), List.drop_of_length_le (by rw [hm'.out]; exact Nat.le_refl _)]; rfl)
      clear hd hlt hk
      go_wp2
      go_ret
      exact ⟨congrArg (fun z => Ending.returned (Value.bool z)) hs2.out, _, rfl⟩
set_option maxRecDepth 100000 in
set_option maxHeartbeats 8000000 in
theorem bits_equal (p q : Option Addr) (c d : Nat) (l m : List Bool) (w : World) (hr : RowAt w 1 bitC p l) (hs : RowAt w 1 bitC q m) (hl : l.length ≤ 1048576) :
    Kp Try.prog w 15 #[.slice p l.length c, .slice q m.length d] (.bool (l == m)) := by
  intro y0
  have hr := hr.plus y0
  have hs := hs.plus y0
  obtain ⟨W, hW⟩ : ∃ W, plus w y0 = W := ⟨_, rfl⟩
  rw [hW] at hr hs ⊢
  clear hW
  obtain ⟨n, hn⟩ : ∃ n, l.length = n := ⟨_, rfl⟩
  obtain ⟨n2, hn2⟩ : ∃ n, m.length = n := ⟨_, rfl⟩
  rw [hn] at hl
  obtain ⟨R, hR⟩ : ∃ R, (l == m) = R := ⟨_, rfl⟩
  have h0 : (l.drop 0 == m.drop 0) = R := hR
  rw [hn, hn2, hR]
  by_cases e : n = n2
  case neg =>
    have hF := Lib.hid (show false = R by
      rw [← hR]; symm; rw [beq_eq_false_iff_ne]; intro h; apply e; rw [← hn, ← hn2, h])
    have e2 : ¬ ((n : Int) = (n2 : Int)) := by omega
    clear hr hs hl hn hn2 hR h0 e
    go_enter Try.func15, Try.ntmps15
    go_wp2
    go_ret
    exact ⟨congrArg (fun z => Ending.returned (Value.bool z)) hF.out, _, (plus_self _).symm⟩
  case pos =>
  subst e
  have hr' := Lib.hid hr
  have hs' := Lib.hid hs
  have hn' := Lib.hid hn
  have hm' := Lib.hid hn2
  have hl' := Lib.hid hl
  have h0' := Lib.hid h0
  clear hr hs hl hn hn2 hR h0
  go_enter Try.func15, Try.ntmps15
  go_wp2
  go_loopw [5, 13] (fun _ iv wr => ∃ k : Nat, k ≤ n ∧ iv = .int .i64 (k : Int) ∧ Hid ((l.drop k == m.drop k) = R) ∧ ∃ y, wr = plus W y) (fun _ iv _ => n - (intOf iv).toNat)
  case atStart => exact ⟨0, Nat.zero_le _, rfl, h0', ⟨#[], W.drawn⟩, (plus_self W).symm⟩
  case round =>
    obtain ⟨k, hk, rfl, hd, y, rfl⟩ := hrel
    by_cases hlt : k < n
    · obtain ⟨a, ha⟩ : ∃ s, l[k]? = some s := ⟨l[k]'(by rw [hn'.out]; exact hlt), List.getElem?_eq_getElem _⟩
      obtain ⟨b, hb⟩ : ∃ s, m[k]? = some s := ⟨m[k]'(by rw [hm'.out]; exact hlt), List.getElem?_eq_getElem _⟩
      obtain ⟨pa, rfl, hc⟩ := hr'.out k a ha
      obtain ⟨qa, rfl, he⟩ := hs'.out k b hb
      rw [Nat.mul_one] at hc he
      have hs1 : (a == b && (l.drop (k + 1) == m.drop (k + 1))) = R := by
        rw [← hd.out]
        obtain ⟨h1, rfl⟩ := List.getElem?_eq_some_iff.1 ha
        obtain ⟨h2, rfl⟩ := List.getElem?_eq_some_iff.1 hb
        rw [List.drop_eq_getElem_cons h1, List.drop_eq_getElem_cons h2]
        rfl
      have d0 := fun y => (hc.plus y).c0 _ rfl
      have d1 := fun y => (he.plus y).c0 _ rfl
      have a6 := Lib.hid (wr_succ k n hlt hl'.out)
      clear hc he ha hb hd
      obtain ⟨Z, hZ⟩ : ∃ Z, (a == b) = Z := ⟨_, rfl⟩
      simp only [hZ] at hs1
      cases Z with
      | true =>
        obtain rfl : a = b := by simpa using hZ
        clear hZ
        have hs2 := Lib.hid (show (l.drop (k + 1) == m.drop (k + 1)) = R by rw [← hs1, Bool.true_and])
        clear hs1
        go_wp2
        refine wp_region_own (by kernel_rfl) (by kernel_rfl) ?_
        repeat (go_big_quiet_step (fail))
        refine wpQuiet_nil ?_
        rintro _ ⟨y1, rfl⟩
        go_wp2
        go_roundw
        case rel => exact ⟨k + 1, hlt, congrArg (Value.int .i64) a6.out, hs2, _, rfl⟩
        case measure => exact step_less k n hlt a6.out
      | false =>
        have g1 : ¬ a = b := by simpa using hZ
        have hs2 := Lib.hid (show false = R by rw [← hs1, Bool.false_and])
        clear hs1
        go_wp2
        refine wp_region_own (by kernel_rfl) (by kernel_rfl) ?_
        repeat (go_big_quiet_step (fail))
        refine wpQuiet_nil ?_
        rintro _ ⟨y1, rfl⟩
        go_wp2
        go_ret
        exact ⟨congrArg (fun z => Ending.returned (Value.bool z)) hs2.out, _, rfl⟩
    · obtain rfl : k = n := by omega
      have hs2 := Lib.hid (show true = R by
        rw [← hd.out, List.drop_of_length_le (by rw [hn'.out]; exact Nat.le_refl _), List.drop_of_length_le (by rw [hm'.out]; exact Nat.le_refl _)]; rfl)
      clear hd hlt hk
      go_wp2
      go_ret
      exact ⟨congrArg (fun z => Ending.returned (Value.bool z)) hs2.out, _, rfl⟩
/-- A width of a field that is vast. -/
def vastB (l : List Fd) : Bool := l.any fun f => decide (f.w < -1073741824) || decide (1073741824 < f.w)
theorem any_drop {α : Type} (f : α → Bool) (l : List α) (k : Nat) (x : α) (hx : l[k]? = some x) : (l.drop k).any f = (f x || (l.drop (k + 1)).any f) := by
  obtain ⟨h1, rfl⟩ := List.getElem?_eq_some_iff.1 hx
  rw [List.drop_eq_getElem_cons h1, List.any_cons]
set_option maxRecDepth 100000 in
set_option maxHeartbeats 8000000 in
theorem ref_vast (K : Fd → Prop) (A : Sl Fd) (w : World) (hA : A.In w 2 Fd.cells K) (hl : A.l.length ≤ 1048576) : Kp Try.prog w 27 #[A.v] (.bool (vastB A.l)) := by
  intro y0
  obtain ⟨p, cap, l⟩ := A
  have hr := hA.row.plus y0
  simp only [Sl.v] at hl hr ⊢
  obtain ⟨W, hW⟩ : ∃ W, plus w y0 = W := ⟨_, rfl⟩
  rw [hW] at hr ⊢
  clear hW hA
  obtain ⟨n, hn⟩ : ∃ n, l.length = n := ⟨_, rfl⟩
  rw [hn] at hl
  obtain ⟨R, hR⟩ : ∃ R, vastB l = R := ⟨_, rfl⟩
  have h0 : vastB (l.drop 0) = R := hR
  rw [hn, hR]
  have hr' := Lib.hid hr
  have hn' := Lib.hid hn
  have hl' := Lib.hid hl
  have h0' := Lib.hid h0
  clear hr hl hn hR h0
  go_enter Try.func27, Try.ntmps27
  go_wp2
  go_loopw [3] (fun iv wr => ∃ k : Nat, k ≤ n ∧ iv = .int .i64 (k : Int) ∧ Hid (vastB (l.drop k) = R) ∧ wr = W) (fun iv _ => n - (intOf iv).toNat)
  case atStart => exact ⟨0, Nat.zero_le _, rfl, h0', rfl⟩
  case round =>
    obtain ⟨k, hk, rfl, hd, rfl⟩ := hrel
    by_cases hlt : k < n
    · obtain ⟨⟨nm, fw⟩, ha⟩ : ∃ s, l[k]? = some s := ⟨l[k]'(by rw [hn'.out]; exact hlt), List.getElem?_eq_getElem _⟩
      obtain ⟨pa, rfl, hc⟩ := hr'.out k _ ha
      have d0 := hc.c0 _ rfl
      have d1 := hc.cs 0 _ rfl
      have hs1 := (any_drop _ l k _ ha).symm.trans hd.out
      have a6 := Lib.hid (wr_succ k n hlt hl'.out)
      clear hc ha hd
      simp only at hs1
      by_cases q1 : fw < -1073741824
      · have hs2 := Lib.hid (show true = R by rw [← hs1, decide_eq_true q1]; rfl)
        clear hs1
        go_wp2
        go_ret
        exact ⟨congrArg (fun z => Ending.returned (Value.bool z)) hs2.out, _, (plus_self _).symm⟩
      · by_cases q2 : 1073741824 < fw
        · have hs2 := Lib.hid (show true = R by rw [← hs1, decide_eq_true q2, Bool.or_true]; rfl)
          clear hs1
          go_wp2
          go_ret
          exact ⟨congrArg (fun z => Ending.returned (Value.bool z)) hs2.out, _, (plus_self _).symm⟩
        · have hs2 := Lib.hid (show vastB (l.drop (k + 1)) = R by rw [← hs1, decide_eq_false q1, decide_eq_false q2]; rfl)
          clear hs1
          go_wp2
          go_roundw
          case rel => exact ⟨k + 1, hlt, congrArg (Value.int .i64) a6.out, hs2, by trivial⟩
          case measure => exact step_less k n hlt a6.out
    · obtain rfl : k = n := by omega
      have hs2 := Lib.hid (show false = R by
        rw [← hd.out, List.drop_of_length_le (by rw [hn'.out]; exact Nat.le_refl _)]; rfl)
      clear hd hlt hk
      go_wp2
      go_ret
      exact ⟨congrArg (fun z => Ending.returned (Value.bool z)) hs2.out, _, (plus_self _).symm⟩
end Go.Proofs.Ytplkiadkkefppaa
