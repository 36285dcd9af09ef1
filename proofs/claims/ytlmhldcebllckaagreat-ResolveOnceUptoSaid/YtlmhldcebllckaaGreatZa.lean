/-
  WHAT IS PROVED HERE: what resolve's first hands back, of slices of these types, with whatever function of no side effect. Written by gen/za.py.
-/
import Derived.Test.YtlmhldcebllckaaGreatRows
import Derived.Test.YtlmhldcebllckaaGreatFG
import Derived.WalkKit
import Derived.Lib.Hide
import Derived.WalkSpells
import Derived.WalkLawsBesides
namespace Go.Proofs.YtlmhldcebllckaaGreat
open Go.RowKit
/-- The number of the first one that is so, counted from k on; -1: there is none. -/
def firstI {α : Type} (q : α → Bool) : List α → Nat → Int
  | [], _ => -1
  | x :: l, k => if q x then (k : Int) else firstI q l (k + 1)
theorem firstI_drop {α : Type} (q : α → Bool) (l : List α) (k : Nat) (x : α) (hx : l[k]? = some x) : firstI q (l.drop k) k = if q x then (k : Int) else firstI q (l.drop (k + 1)) (k + 1) := by
  obtain ⟨h1, rfl⟩ := List.getElem?_eq_some_iff.1 hx
  rw [List.drop_eq_getElem_cons h1, firstI]
set_option maxHeartbeats 8000000 in
theorem first_Header {α : Type} (cells : α → List Value) (hC : ∀ x, shp_Header (cells x)) (may : α → Bool) (g : FuncId) (first caps : Array Value) (K : α → Prop) (w : World) (A : Sl α) (hA : A.In w 2 cells K) (hl : A.l.length ≤ 1048576)
    (hent : ∀ args w, (callFunc g args).run Tryz.prog w = .ok (.enter g args) w)
    (hf : ∀ x ∈ A.l, Kp Tryz.prog w g (first.push (.agg (cells x).toArray) ++ caps) (.bool (may x))) :
    Kp Tryz.prog w 26 #[A.v, .func (.func g) first caps] (.int .i64 (firstI may A.l 0)) := by
  intro y0
  obtain ⟨p, cap, l⟩ := A
  simp only [Sl.v] at hl hf ⊢
  obtain ⟨n, hn⟩ : ∃ n, l.length = n := ⟨_, rfl⟩
  have hA := hA.row.plus y0
  have hf := fun x hx => ((hf x hx).up y0).pure
  obtain ⟨W, hW⟩ : ∃ W, plus w y0 = W := ⟨_, rfl⟩
  rw [hW] at hA ⊢
  simp only [hW] at hf
  rw [hn] at hl
  clear hW
  obtain ⟨R, hR⟩ : ∃ R, firstI may l 0 = R := ⟨_, rfl⟩
  have h0 : firstI may (l.drop 0) 0 = R := hR
  rw [hn, hR]
  have hA' := Lib.hid hA
  have hn' := Lib.hid hn
  have hl' := Lib.hid hl
  have h0' := Lib.hid h0
  have hf' := Lib.hid hf
  have hC' := Lib.hid hC
  clear hA hl hn hR h0 hf hC
  go_enter Tryz.func26, Tryz.ntmps26
  go_wp2
  go_loopw [5, 6, 9] (fun _ _ iv wr => ∃ k : Nat, k ≤ n ∧ iv = .int .i64 (k : Int) ∧ Hid (firstI may (l.drop k) k = R) ∧ ∃ y, wr = plus W y) (fun _ _ iv _ => n - (intOf iv).toNat)
  case atStart => exact ⟨0, Nat.zero_le _, rfl, h0', ⟨#[], W.drawn⟩, (plus_self W).symm⟩
  case round =>
    obtain ⟨k, hk, rfl, hs, y, rfl⟩ := hrel
    by_cases hlt : k < n
    · obtain ⟨a, ha⟩ : ∃ s, l[k]? = some s := ⟨l[k]'(by rw [hn'.out]; exact hlt), List.getElem?_eq_getElem _⟩
      obtain ⟨pa, rfl, hc⟩ := hA'.out k a ha
      have q1 := hf'.out a (List.mem_of_getElem? ha)
      have hs1 := (firstI_drop may l k a ha).symm.trans hs.out
      obtain ⟨Z, hZ⟩ : ∃ Z, may a = Z := ⟨_, rfl⟩
      rw [hZ] at q1 hs1
      obtain ⟨c0, c1p, c1n, c1c, ea⟩ := hC'.out a
      rw [ea] at q1
      have d0 := fun y => (hc.plus y).c0 _ (by rw [ea]; rfl)
      have d1 := fun y => (hc.plus y).cs 0 _ (by rw [ea]; rfl)
      have q1' := Lib.hid q1
      have a6 := Lib.hid (wr_succ k n hlt hl'.out)
      clear q1 hZ hc ha hs ea
      cases Z with
      | false =>
        have hs2 := Lib.hid (show firstI may (l.drop (k + 1)) (k + 1) = R by rw [← hs1, if_neg (by decide)])
        clear hs1
        go_wp2_with (refine pure_call1 q1'.out ?_; rintro e w' ⟨rfl, x, rfl⟩)
        go_roundw
        case rel => exact ⟨k + 1, hlt, congrArg (Value.int .i64) a6.out, hs2, x, rfl⟩
        case measure => exact step_less k n hlt a6.out
      | true =>
        have hs2 := Lib.hid (show (k : Int) = R by rw [← hs1, if_pos rfl])
        clear hs1
        go_wp2_with (refine pure_call1 q1'.out ?_; rintro e w' ⟨rfl, x, rfl⟩)
        go_ret
        exact ⟨congrArg (fun z => Ending.returned (Value.int .i64 z)) hs2.out, x, rfl⟩
    · obtain rfl : k = n := by omega
      have hs2 := Lib.hid (show (-1 : Int) = R by
        rw [← hs.out, List.drop_of_length_le (by rw [hn'.out]; exact Nat.le_refl _)]; rfl)
      clear hs hlt hk
      go_wp2
      go_ret
      exact ⟨congrArg (fun z => Ending.returned (Value.int .i64 z)) hs2.out, y, rfl⟩
set_option maxHeartbeats 8000000 in
theorem first_Field {α : Type} (cells : α → List Value) (hC : ∀ x, shp_Field (cells x)) (may : α → Bool) (g : FuncId) (first caps : Array Value) (K : α → Prop) (w : World) (A : Sl α) (hA : A.In w 2 cells K) (hl : A.l.length ≤ 1048576)
    (hent : ∀ args w, (callFunc g args).run Tryz.prog w = .ok (.enter g args) w)
    (hf : ∀ x ∈ A.l, Kp Tryz.prog w g (first.push (.agg (cells x).toArray) ++ caps) (.bool (may x))) :
    Kp Tryz.prog w 143 #[A.v, .func (.func g) first caps] (.int .i64 (firstI may A.l 0)) := by
  intro y0
  obtain ⟨p, cap, l⟩ := A
  simp only [Sl.v] at hl hf ⊢
  obtain ⟨n, hn⟩ : ∃ n, l.length = n := ⟨_, rfl⟩
  have hA := hA.row.plus y0
  have hf := fun x hx => ((hf x hx).up y0).pure
  obtain ⟨W, hW⟩ : ∃ W, plus w y0 = W := ⟨_, rfl⟩
  rw [hW] at hA ⊢
  simp only [hW] at hf
  rw [hn] at hl
  clear hW
  obtain ⟨R, hR⟩ : ∃ R, firstI may l 0 = R := ⟨_, rfl⟩
  have h0 : firstI may (l.drop 0) 0 = R := hR
  rw [hn, hR]
  have hA' := Lib.hid hA
  have hn' := Lib.hid hn
  have hl' := Lib.hid hl
  have h0' := Lib.hid h0
  have hf' := Lib.hid hf
  have hC' := Lib.hid hC
  clear hA hl hn hR h0 hf hC
  go_enter Tryz.func143, Tryz.ntmps143
  go_wp2
  go_loopw [5, 6, 9] (fun _ _ iv wr => ∃ k : Nat, k ≤ n ∧ iv = .int .i64 (k : Int) ∧ Hid (firstI may (l.drop k) k = R) ∧ ∃ y, wr = plus W y) (fun _ _ iv _ => n - (intOf iv).toNat)
  case atStart => exact ⟨0, Nat.zero_le _, rfl, h0', ⟨#[], W.drawn⟩, (plus_self W).symm⟩
  case round =>
    obtain ⟨k, hk, rfl, hs, y, rfl⟩ := hrel
    by_cases hlt : k < n
    · obtain ⟨a, ha⟩ : ∃ s, l[k]? = some s := ⟨l[k]'(by rw [hn'.out]; exact hlt), List.getElem?_eq_getElem _⟩
      obtain ⟨pa, rfl, hc⟩ := hA'.out k a ha
      have q1 := hf'.out a (List.mem_of_getElem? ha)
      have hs1 := (firstI_drop may l k a ha).symm.trans hs.out
      obtain ⟨Z, hZ⟩ : ∃ Z, may a = Z := ⟨_, rfl⟩
      rw [hZ] at q1 hs1
      obtain ⟨c0, c1, ea⟩ := hC'.out a
      rw [ea] at q1
      have d0 := fun y => (hc.plus y).c0 _ (by rw [ea]; rfl)
      have d1 := fun y => (hc.plus y).cs 0 _ (by rw [ea]; rfl)
      have q1' := Lib.hid q1
      have a6 := Lib.hid (wr_succ k n hlt hl'.out)
      clear q1 hZ hc ha hs ea
      cases Z with
      | false =>
        have hs2 := Lib.hid (show firstI may (l.drop (k + 1)) (k + 1) = R by rw [← hs1, if_neg (by decide)])
        clear hs1
        go_wp2_with (refine pure_call1 q1'.out ?_; rintro e w' ⟨rfl, x, rfl⟩)
        go_roundw
        case rel => exact ⟨k + 1, hlt, congrArg (Value.int .i64) a6.out, hs2, x, rfl⟩
        case measure => exact step_less k n hlt a6.out
      | true =>
        have hs2 := Lib.hid (show (k : Int) = R by rw [← hs1, if_pos rfl])
        clear hs1
        go_wp2_with (refine pure_call1 q1'.out ?_; rintro e w' ⟨rfl, x, rfl⟩)
        go_ret
        exact ⟨congrArg (fun z => Ending.returned (Value.int .i64 z)) hs2.out, x, rfl⟩
    · obtain rfl : k = n := by omega
      have hs2 := Lib.hid (show (-1 : Int) = R by
        rw [← hs.out, List.drop_of_length_le (by rw [hn'.out]; exact Nat.le_refl _)]; rfl)
      clear hs hlt hk
      go_wp2
      go_ret
      exact ⟨congrArg (fun z => Ending.returned (Value.int .i64 z)) hs2.out, y, rfl⟩
set_option maxHeartbeats 8000000 in
theorem first_State {α : Type} (cells : α → List Value) (hC : ∀ x, shp_State (cells x)) (may : α → Bool) (g : FuncId) (first caps : Array Value) (K : α → Prop) (w : World) (A : Sl α) (hA : A.In w 5 cells K) (hl : A.l.length ≤ 1048576)
    (hent : ∀ args w, (callFunc g args).run Tryz.prog w = .ok (.enter g args) w)
    (hf : ∀ x ∈ A.l, Kp Tryz.prog w g (first.push (.agg (cells x).toArray) ++ caps) (.bool (may x))) :
    Kp Tryz.prog w 32 #[A.v, .func (.func g) first caps] (.int .i64 (firstI may A.l 0)) := by
  intro y0
  obtain ⟨p, cap, l⟩ := A
  simp only [Sl.v] at hl hf ⊢
  obtain ⟨n, hn⟩ : ∃ n, l.length = n := ⟨_, rfl⟩
  have hA := hA.row.plus y0
  have hf := fun x hx => ((hf x hx).up y0).pure
  obtain ⟨W, hW⟩ : ∃ W, plus w y0 = W := ⟨_, rfl⟩
  rw [hW] at hA ⊢
  simp only [hW] at hf
  rw [hn] at hl
  clear hW
  obtain ⟨R, hR⟩ : ∃ R, firstI may l 0 = R := ⟨_, rfl⟩
  have h0 : firstI may (l.drop 0) 0 = R := hR
  rw [hn, hR]
  have hA' := Lib.hid hA
  have hn' := Lib.hid hn
  have hl' := Lib.hid hl
  have h0' := Lib.hid h0
  have hf' := Lib.hid hf
  have hC' := Lib.hid hC
  clear hA hl hn hR h0 hf hC
  go_enter Tryz.func32, Tryz.ntmps32
  go_wp2
  go_loopw [5, 6, 9] (fun _ _ iv wr => ∃ k : Nat, k ≤ n ∧ iv = .int .i64 (k : Int) ∧ Hid (firstI may (l.drop k) k = R) ∧ ∃ y, wr = plus W y) (fun _ _ iv _ => n - (intOf iv).toNat)
  case atStart => exact ⟨0, Nat.zero_le _, rfl, h0', ⟨#[], W.drawn⟩, (plus_self W).symm⟩
  case round =>
    obtain ⟨k, hk, rfl, hs, y, rfl⟩ := hrel
    by_cases hlt : k < n
    · obtain ⟨a, ha⟩ : ∃ s, l[k]? = some s := ⟨l[k]'(by rw [hn'.out]; exact hlt), List.getElem?_eq_getElem _⟩
      obtain ⟨pa, rfl, hc⟩ := hA'.out k a ha
      have q1 := hf'.out a (List.mem_of_getElem? ha)
      have hs1 := (firstI_drop may l k a ha).symm.trans hs.out
      obtain ⟨Z, hZ⟩ : ∃ Z, may a = Z := ⟨_, rfl⟩
      rw [hZ] at q1 hs1
      obtain ⟨c0, c1p, c1n, c1c, c2, c3p, c3n, c3c, c4p, c4n, c4c, ea⟩ := hC'.out a
      rw [ea] at q1
      have d0 := fun y => (hc.plus y).c0 _ (by rw [ea]; rfl)
      have d1 := fun y => (hc.plus y).cs 0 _ (by rw [ea]; rfl)
      have d2 := fun y => (hc.plus y).cs 1 _ (by rw [ea]; rfl)
      have d3 := fun y => (hc.plus y).cs 2 _ (by rw [ea]; rfl)
      have d4 := fun y => (hc.plus y).cs 3 _ (by rw [ea]; rfl)
      have q1' := Lib.hid q1
      have a6 := Lib.hid (wr_succ k n hlt hl'.out)
      clear q1 hZ hc ha hs ea
      cases Z with
      | false =>
        have hs2 := Lib.hid (show firstI may (l.drop (k + 1)) (k + 1) = R by rw [← hs1, if_neg (by decide)])
        clear hs1
        go_wp2_with (refine pure_call1 q1'.out ?_; rintro e w' ⟨rfl, x, rfl⟩)
        go_roundw
        case rel => exact ⟨k + 1, hlt, congrArg (Value.int .i64) a6.out, hs2, x, rfl⟩
        case measure => exact step_less k n hlt a6.out
      | true =>
        have hs2 := Lib.hid (show (k : Int) = R by rw [← hs1, if_pos rfl])
        clear hs1
        go_wp2_with (refine pure_call1 q1'.out ?_; rintro e w' ⟨rfl, x, rfl⟩)
        go_ret
        exact ⟨congrArg (fun z => Ending.returned (Value.int .i64 z)) hs2.out, x, rfl⟩
    · obtain rfl : k = n := by omega
      have hs2 := Lib.hid (show (-1 : Int) = R by
        rw [← hs.out, List.drop_of_length_le (by rw [hn'.out]; exact Nat.le_refl _)]; rfl)
      clear hs hlt hk
      go_wp2
      go_ret
      exact ⟨congrArg (fun z => Ending.returned (Value.int .i64 z)) hs2.out, y, rfl⟩
set_option maxHeartbeats 8000000 in
theorem first_Action {α : Type} (cells : α → List Value) (hC : ∀ x, shp_Action (cells x)) (may : α → Bool) (g : FuncId) (first caps : Array Value) (K : α → Prop) (w : World) (A : Sl α) (hA : A.In w 3 cells K) (hl : A.l.length ≤ 1048576)
    (hent : ∀ args w, (callFunc g args).run Tryz.prog w = .ok (.enter g args) w)
    (hf : ∀ x ∈ A.l, Kp Tryz.prog w g (first.push (.agg (cells x).toArray) ++ caps) (.bool (may x))) :
    Kp Tryz.prog w 28 #[A.v, .func (.func g) first caps] (.int .i64 (firstI may A.l 0)) := by
  intro y0
  obtain ⟨p, cap, l⟩ := A
  simp only [Sl.v] at hl hf ⊢
  obtain ⟨n, hn⟩ : ∃ n, l.length = n := ⟨_, rfl⟩
  have hA := hA.row.plus y0
  have hf := fun x hx => ((hf x hx).up y0).pure
  obtain ⟨W, hW⟩ : ∃ W, plus w y0 = W := ⟨_, rfl⟩
  rw [hW] at hA ⊢
  simp only [hW] at hf
  rw [hn] at hl
  clear hW
  obtain ⟨R, hR⟩ : ∃ R, firstI may l 0 = R := ⟨_, rfl⟩
  have h0 : firstI may (l.drop 0) 0 = R := hR
  rw [hn, hR]
  have hA' := Lib.hid hA
  have hn' := Lib.hid hn
  have hl' := Lib.hid hl
  have h0' := Lib.hid h0
  have hf' := Lib.hid hf
  have hC' := Lib.hid hC
  clear hA hl hn hR h0 hf hC
  go_enter Tryz.func28, Tryz.ntmps28
  go_wp2
  go_loopw [5, 6, 9] (fun _ _ iv wr => ∃ k : Nat, k ≤ n ∧ iv = .int .i64 (k : Int) ∧ Hid (firstI may (l.drop k) k = R) ∧ ∃ y, wr = plus W y) (fun _ _ iv _ => n - (intOf iv).toNat)
  case atStart => exact ⟨0, Nat.zero_le _, rfl, h0', ⟨#[], W.drawn⟩, (plus_self W).symm⟩
  case round =>
    obtain ⟨k, hk, rfl, hs, y, rfl⟩ := hrel
    by_cases hlt : k < n
    · obtain ⟨a, ha⟩ : ∃ s, l[k]? = some s := ⟨l[k]'(by rw [hn'.out]; exact hlt), List.getElem?_eq_getElem _⟩
      obtain ⟨pa, rfl, hc⟩ := hA'.out k a ha
      have q1 := hf'.out a (List.mem_of_getElem? ha)
      have hs1 := (firstI_drop may l k a ha).symm.trans hs.out
      obtain ⟨Z, hZ⟩ : ∃ Z, may a = Z := ⟨_, rfl⟩
      rw [hZ] at q1 hs1
      obtain ⟨c0, c1p, c1n, c1c, c2p, c2n, c2c, ea⟩ := hC'.out a
      rw [ea] at q1
      have d0 := fun y => (hc.plus y).c0 _ (by rw [ea]; rfl)
      have d1 := fun y => (hc.plus y).cs 0 _ (by rw [ea]; rfl)
      have d2 := fun y => (hc.plus y).cs 1 _ (by rw [ea]; rfl)
      have q1' := Lib.hid q1
      have a6 := Lib.hid (wr_succ k n hlt hl'.out)
      clear q1 hZ hc ha hs ea
      cases Z with
      | false =>
        have hs2 := Lib.hid (show firstI may (l.drop (k + 1)) (k + 1) = R by rw [← hs1, if_neg (by decide)])
        clear hs1
        go_wp2_with (refine pure_call1 q1'.out ?_; rintro e w' ⟨rfl, x, rfl⟩)
        go_roundw
        case rel => exact ⟨k + 1, hlt, congrArg (Value.int .i64) a6.out, hs2, x, rfl⟩
        case measure => exact step_less k n hlt a6.out
      | true =>
        have hs2 := Lib.hid (show (k : Int) = R by rw [← hs1, if_pos rfl])
        clear hs1
        go_wp2_with (refine pure_call1 q1'.out ?_; rintro e w' ⟨rfl, x, rfl⟩)
        go_ret
        exact ⟨congrArg (fun z => Ending.returned (Value.int .i64 z)) hs2.out, x, rfl⟩
    · obtain rfl : k = n := by omega
      have hs2 := Lib.hid (show (-1 : Int) = R by
        rw [← hs.out, List.drop_of_length_le (by rw [hn'.out]; exact Nat.le_refl _)]; rfl)
      clear hs hlt hk
      go_wp2
      go_ret
      exact ⟨congrArg (fun z => Ending.returned (Value.int .i64 z)) hs2.out, y, rfl⟩
set_option maxHeartbeats 8000000 in
theorem first_Table {α : Type} (cells : α → List Value) (hC : ∀ x, shp_Table (cells x)) (may : α → Bool) (g : FuncId) (first caps : Array Value) (K : α → Prop) (w : World) (A : Sl α) (hA : A.In w 5 cells K) (hl : A.l.length ≤ 1048576)
    (hent : ∀ args w, (callFunc g args).run Tryz.prog w = .ok (.enter g args) w)
    (hf : ∀ x ∈ A.l, Kp Tryz.prog w g (first.push (.agg (cells x).toArray) ++ caps) (.bool (may x))) :
    Kp Tryz.prog w 30 #[A.v, .func (.func g) first caps] (.int .i64 (firstI may A.l 0)) := by
  intro y0
  obtain ⟨p, cap, l⟩ := A
  simp only [Sl.v] at hl hf ⊢
  obtain ⟨n, hn⟩ : ∃ n, l.length = n := ⟨_, rfl⟩
  have hA := hA.row.plus y0
  have hf := fun x hx => ((hf x hx).up y0).pure
  obtain ⟨W, hW⟩ : ∃ W, plus w y0 = W := ⟨_, rfl⟩
  rw [hW] at hA ⊢
  simp only [hW] at hf
  rw [hn] at hl
  clear hW
  obtain ⟨R, hR⟩ : ∃ R, firstI may l 0 = R := ⟨_, rfl⟩
  have h0 : firstI may (l.drop 0) 0 = R := hR
  rw [hn, hR]
  have hA' := Lib.hid hA
  have hn' := Lib.hid hn
  have hl' := Lib.hid hl
  have h0' := Lib.hid h0
  have hf' := Lib.hid hf
  have hC' := Lib.hid hC
  clear hA hl hn hR h0 hf hC
  go_enter Tryz.func30, Tryz.ntmps30
  go_wp2
  go_loopw [5, 6, 9] (fun _ _ iv wr => ∃ k : Nat, k ≤ n ∧ iv = .int .i64 (k : Int) ∧ Hid (firstI may (l.drop k) k = R) ∧ ∃ y, wr = plus W y) (fun _ _ iv _ => n - (intOf iv).toNat)
  case atStart => exact ⟨0, Nat.zero_le _, rfl, h0', ⟨#[], W.drawn⟩, (plus_self W).symm⟩
  case round =>
    obtain ⟨k, hk, rfl, hs, y, rfl⟩ := hrel
    by_cases hlt : k < n
    · obtain ⟨a, ha⟩ : ∃ s, l[k]? = some s := ⟨l[k]'(by rw [hn'.out]; exact hlt), List.getElem?_eq_getElem _⟩
      obtain ⟨pa, rfl, hc⟩ := hA'.out k a ha
      have q1 := hf'.out a (List.mem_of_getElem? ha)
      have hs1 := (firstI_drop may l k a ha).symm.trans hs.out
      obtain ⟨Z, hZ⟩ : ∃ Z, may a = Z := ⟨_, rfl⟩
      rw [hZ] at q1 hs1
      obtain ⟨c0, c1p, c1n, c1c, c2p, c2n, c2c, c3, c4p, c4n, c4c, ea⟩ := hC'.out a
      rw [ea] at q1
      have d0 := fun y => (hc.plus y).c0 _ (by rw [ea]; rfl)
      have d1 := fun y => (hc.plus y).cs 0 _ (by rw [ea]; rfl)
      have d2 := fun y => (hc.plus y).cs 1 _ (by rw [ea]; rfl)
      have d3 := fun y => (hc.plus y).cs 2 _ (by rw [ea]; rfl)
      have d4 := fun y => (hc.plus y).cs 3 _ (by rw [ea]; rfl)
      have q1' := Lib.hid q1
      have a6 := Lib.hid (wr_succ k n hlt hl'.out)
      clear q1 hZ hc ha hs ea
      cases Z with
      | false =>
        have hs2 := Lib.hid (show firstI may (l.drop (k + 1)) (k + 1) = R by rw [← hs1, if_neg (by decide)])
        clear hs1
        go_wp2_with (refine pure_call1 q1'.out ?_; rintro e w' ⟨rfl, x, rfl⟩)
        go_roundw
        case rel => exact ⟨k + 1, hlt, congrArg (Value.int .i64) a6.out, hs2, x, rfl⟩
        case measure => exact step_less k n hlt a6.out
      | true =>
        have hs2 := Lib.hid (show (k : Int) = R by rw [← hs1, if_pos rfl])
        clear hs1
        go_wp2_with (refine pure_call1 q1'.out ?_; rintro e w' ⟨rfl, x, rfl⟩)
        go_ret
        exact ⟨congrArg (fun z => Ending.returned (Value.int .i64 z)) hs2.out, x, rfl⟩
    · obtain rfl : k = n := by omega
      have hs2 := Lib.hid (show (-1 : Int) = R by
        rw [← hs.out, List.drop_of_length_le (by rw [hn'.out]; exact Nat.le_refl _)]; rfl)
      clear hs hlt hk
      go_wp2
      go_ret
      exact ⟨congrArg (fun z => Ending.returned (Value.int .i64 z)) hs2.out, y, rfl⟩
set_option maxHeartbeats 8000000 in
theorem first_Expr {α : Type} (cells : α → List Value) (hC : ∀ x, shp_Expr (cells x)) (may : α → Bool) (g : FuncId) (first caps : Array Value) (K : α → Prop) (w : World) (A : Sl α) (hA : A.In w 9 cells K) (hl : A.l.length ≤ 1048576)
    (hent : ∀ args w, (callFunc g args).run Tryz.prog w = .ok (.enter g args) w)
    (hf : ∀ x ∈ A.l, Kp Tryz.prog w g (first.push (.agg (cells x).toArray) ++ caps) (.bool (may x))) :
    Kp Tryz.prog w 111 #[A.v, .func (.func g) first caps] (.int .i64 (firstI may A.l 0)) := by
  intro y0
  obtain ⟨p, cap, l⟩ := A
  simp only [Sl.v] at hl hf ⊢
  obtain ⟨n, hn⟩ : ∃ n, l.length = n := ⟨_, rfl⟩
  have hA := hA.row.plus y0
  have hf := fun x hx => ((hf x hx).up y0).pure
  obtain ⟨W, hW⟩ : ∃ W, plus w y0 = W := ⟨_, rfl⟩
  rw [hW] at hA ⊢
  simp only [hW] at hf
  rw [hn] at hl
  clear hW
  obtain ⟨R, hR⟩ : ∃ R, firstI may l 0 = R := ⟨_, rfl⟩
  have h0 : firstI may (l.drop 0) 0 = R := hR
  rw [hn, hR]
  have hA' := Lib.hid hA
  have hn' := Lib.hid hn
  have hl' := Lib.hid hl
  have h0' := Lib.hid h0
  have hf' := Lib.hid hf
  have hC' := Lib.hid hC
  clear hA hl hn hR h0 hf hC
  go_enter Tryz.func111, Tryz.ntmps111
  go_wp2
  go_loopw [5, 6, 9] (fun _ _ iv wr => ∃ k : Nat, k ≤ n ∧ iv = .int .i64 (k : Int) ∧ Hid (firstI may (l.drop k) k = R) ∧ ∃ y, wr = plus W y) (fun _ _ iv _ => n - (intOf iv).toNat)
  case atStart => exact ⟨0, Nat.zero_le _, rfl, h0', ⟨#[], W.drawn⟩, (plus_self W).symm⟩
  case round =>
    obtain ⟨k, hk, rfl, hs, y, rfl⟩ := hrel
    by_cases hlt : k < n
    · obtain ⟨a, ha⟩ : ∃ s, l[k]? = some s := ⟨l[k]'(by rw [hn'.out]; exact hlt), List.getElem?_eq_getElem _⟩
      obtain ⟨pa, rfl, hc⟩ := hA'.out k a ha
      have q1 := hf'.out a (List.mem_of_getElem? ha)
      have hs1 := (firstI_drop may l k a ha).symm.trans hs.out
      obtain ⟨Z, hZ⟩ : ∃ Z, may a = Z := ⟨_, rfl⟩
      rw [hZ] at q1 hs1
      obtain ⟨c0, c1, c2, c3, c4, c5, c6, c7, c8p, c8n, c8c, ea⟩ := hC'.out a
      rw [ea] at q1
      have d0 := fun y => (hc.plus y).c0 _ (by rw [ea]; rfl)
      have d1 := fun y => (hc.plus y).cs 0 _ (by rw [ea]; rfl)
      have d2 := fun y => (hc.plus y).cs 1 _ (by rw [ea]; rfl)
      have d3 := fun y => (hc.plus y).cs 2 _ (by rw [ea]; rfl)
      have d4 := fun y => (hc.plus y).cs 3 _ (by rw [ea]; rfl)
      have d5 := fun y => (hc.plus y).cs 4 _ (by rw [ea]; rfl)
      have d6 := fun y => (hc.plus y).cs 5 _ (by rw [ea]; rfl)
      have d7 := fun y => (hc.plus y).cs 6 _ (by rw [ea]; rfl)
      have d8 := fun y => (hc.plus y).cs 7 _ (by rw [ea]; rfl)
      have q1' := Lib.hid q1
      have a6 := Lib.hid (wr_succ k n hlt hl'.out)
      clear q1 hZ hc ha hs ea
      cases Z with
      | false =>
        have hs2 := Lib.hid (show firstI may (l.drop (k + 1)) (k + 1) = R by rw [← hs1, if_neg (by decide)])
        clear hs1
        go_wp2_with (refine pure_call1 q1'.out ?_; rintro e w' ⟨rfl, x, rfl⟩)
        go_roundw
        case rel => exact ⟨k + 1, hlt, congrArg (Value.int .i64) a6.out, hs2, x, rfl⟩
        case measure => exact step_less k n hlt a6.out
      | true =>
        have hs2 := Lib.hid (show (k : Int) = R by rw [← hs1, if_pos rfl])
        clear hs1
        go_wp2_with (refine pure_call1 q1'.out ?_; rintro e w' ⟨rfl, x, rfl⟩)
        go_ret
        exact ⟨congrArg (fun z => Ending.returned (Value.int .i64 z)) hs2.out, x, rfl⟩
    · obtain rfl : k = n := by omega
      have hs2 := Lib.hid (show (-1 : Int) = R by
        rw [← hs.out, List.drop_of_length_le (by rw [hn'.out]; exact Nat.le_refl _)]; rfl)
      clear hs hlt hk
      go_wp2
      go_ret
      exact ⟨congrArg (fun z => Ending.returned (Value.int .i64 z)) hs2.out, y, rfl⟩
set_option maxHeartbeats 8000000 in
theorem first_string (may : ByteArray → Bool) (g : FuncId) (first caps : Array Value) (K : ByteArray → Prop) (w : World) (A : Sl ByteArray) (hA : A.In w 1 strCells K) (hl : A.l.length ≤ 1048576)
    (hent : ∀ args w, (callFunc g args).run Tryz.prog w = .ok (.enter g args) w)
    (hf : ∀ x ∈ A.l, Kp Tryz.prog w g (first.push (.string x) ++ caps) (.bool (may x))) :
    Kp Tryz.prog w 145 #[A.v, .func (.func g) first caps] (.int .i64 (firstI may A.l 0)) := by
  intro y0
  obtain ⟨p, cap, l⟩ := A
  simp only [Sl.v] at hl hf ⊢
  obtain ⟨n, hn⟩ : ∃ n, l.length = n := ⟨_, rfl⟩
  have hA := hA.row.plus y0
  have hf := fun x hx => ((hf x hx).up y0).pure
  obtain ⟨W, hW⟩ : ∃ W, plus w y0 = W := ⟨_, rfl⟩
  rw [hW] at hA ⊢
  simp only [hW] at hf
  rw [hn] at hl
  clear hW
  obtain ⟨R, hR⟩ : ∃ R, firstI may l 0 = R := ⟨_, rfl⟩
  have h0 : firstI may (l.drop 0) 0 = R := hR
  rw [hn, hR]
  have hA' := Lib.hid hA
  have hn' := Lib.hid hn
  have hl' := Lib.hid hl
  have h0' := Lib.hid h0
  have hf' := Lib.hid hf
  clear hA hl hn hR h0 hf
  go_enter Tryz.func145, Tryz.ntmps145
  go_wp2
  go_loopw [5, 6, 9] (fun _ _ iv wr => ∃ k : Nat, k ≤ n ∧ iv = .int .i64 (k : Int) ∧ Hid (firstI may (l.drop k) k = R) ∧ ∃ y, wr = plus W y) (fun _ _ iv _ => n - (intOf iv).toNat)
  case atStart => exact ⟨0, Nat.zero_le _, rfl, h0', ⟨#[], W.drawn⟩, (plus_self W).symm⟩
  case round =>
    obtain ⟨k, hk, rfl, hs, y, rfl⟩ := hrel
    by_cases hlt : k < n
    · obtain ⟨a, ha⟩ : ∃ s, l[k]? = some s := ⟨l[k]'(by rw [hn'.out]; exact hlt), List.getElem?_eq_getElem _⟩
      obtain ⟨pa, rfl, hc⟩ := hA'.out k a ha
      have q1 := hf'.out a (List.mem_of_getElem? ha)
      have hs1 := (firstI_drop may l k a ha).symm.trans hs.out
      obtain ⟨Z, hZ⟩ : ∃ Z, may a = Z := ⟨_, rfl⟩
      rw [hZ] at q1 hs1
      have d0 := fun y => (hc.plus y).c0 _ rfl
      simp only [Nat.mul_one] at d0
      have q1' := Lib.hid q1
      have a6 := Lib.hid (wr_succ k n hlt hl'.out)
      clear q1 hZ hc ha hs 
      cases Z with
      | false =>
        have hs2 := Lib.hid (show firstI may (l.drop (k + 1)) (k + 1) = R by rw [← hs1, if_neg (by decide)])
        clear hs1
        go_wp2_with (refine (q1'.out _).mono ?_; rintro e w' ⟨rfl, x, rfl⟩)
        go_roundw
        case rel => exact ⟨k + 1, hlt, congrArg (Value.int .i64) a6.out, hs2, x, rfl⟩
        case measure => exact step_less k n hlt a6.out
      | true =>
        have hs2 := Lib.hid (show (k : Int) = R by rw [← hs1, if_pos rfl])
        clear hs1
        go_wp2_with (refine (q1'.out _).mono ?_; rintro e w' ⟨rfl, x, rfl⟩)
        go_ret
        exact ⟨congrArg (fun z => Ending.returned (Value.int .i64 z)) hs2.out, x, rfl⟩
    · obtain rfl : k = n := by omega
      have hs2 := Lib.hid (show (-1 : Int) = R by
        rw [← hs.out, List.drop_of_length_le (by rw [hn'.out]; exact Nat.le_refl _)]; rfl)
      clear hs hlt hk
      go_wp2
      go_ret
      exact ⟨congrArg (fun z => Ending.returned (Value.int .i64 z)) hs2.out, y, rfl⟩
end Go.Proofs.YtlmhldcebllckaaGreat
