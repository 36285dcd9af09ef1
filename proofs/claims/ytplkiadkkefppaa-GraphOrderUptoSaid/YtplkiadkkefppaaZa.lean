/-
  WHAT IS PROVED HERE: what resolve's first hands back, of slices of these types, with whatever function of no side effect. Written by gen/za.py.
-/
import Derived.Test.YtplkiadkkefppaaRows
import Derived.Test.YtplkiadkkefppaaFG
import Derived.WalkKit
import Derived.Lib.Hide
import Derived.WalkSpells
import Derived.WalkLawsBesides
namespace Go.Proofs.Ytplkiadkkefppaa
open Go.RowKit
/-- The number of the first one that is so, counted from k on; -1: there is none. -/
def firstI {α : Type} (q : α → Bool) : List α → Nat → Int
  | [], _ => -1
  | x :: l, k => if q x then (k : Int) else firstI q l (k + 1)
theorem firstI_drop {α : Type} (q : α → Bool) (l : List α) (k : Nat) (x : α) (hx : l[k]? = some x) : firstI q (l.drop k) k = if q x then (k : Int) else firstI q (l.drop (k + 1)) (k + 1) := by
  obtain ⟨h1, rfl⟩ := List.getElem?_eq_some_iff.1 hx
  rw [List.drop_eq_getElem_cons h1, firstI]
set_option maxHeartbeats 8000000 in
theorem first_State {α : Type} (cells : α → List Value) (hC : ∀ x, shp_State (cells x)) (may : α → Bool) (g : FuncId) (first caps : Array Value) (K : α → Prop) (w : World) (A : Sl α) (hA : A.In w 5 cells K) (hl : A.l.length ≤ 1048576)
    (hent : ∀ args w, (callFunc g args).run Try.prog w = .ok (.enter g args) w)
    (hf : ∀ x ∈ A.l, Kp Try.prog w g (first.push (.agg (cells x).toArray) ++ caps) (.bool (may x))) :
    Kp Try.prog w 30 #[A.v, .func (.func g) first caps] (.int .i64 (firstI may A.l 0)) := by
  intro y0
  obtain ⟨p, cap, l⟩ := A
  simp only [Sl.v] at hl hf ⊢
  obtain ⟨n, hn⟩ : ∃ n, l.length = n := ⟨_, rfl⟩
  have hA := hA.row.plus y0
  have hf := fun x hx => ((hf x hx).up y0).pure
  obtain ⟨W, hW⟩ : ∃ W, plus w y0 = W := ⟨_, rfl⟩
  rw [hW] at hA ⊢
  simp only [hW] at hf
  rw [hn] at hl
  clear hW
  obtain ⟨R, hR⟩ : ∃ R, firstI may l 0 = R := ⟨_, rfl⟩
  have h0 : firstI may (l.drop 0) 0 = R := hR
  rw [hn, hR]
  have hA' := Lib.hid hA
  have hn' := Lib.hid hn
  have hl' := Lib.hid hl
  have h0' := Lib.hid h0
  have hf' := Lib.hid hf
  have hC' := Lib.hid hC
  clear hA hl hn hR h0 hf hC
  go_enter Try.func30, Try.ntmps30
  go_wp2
  go_loopw [5, 6, 9] (fun _ _ iv wr => ∃ k : Nat, k ≤ n ∧ iv = .int .i64 (k : Int) ∧ Hid (firstI may (l.drop k) k = R) ∧ ∃ y, wr = plus W y) (fun _ _ iv _ => n - (intOf iv).toNat)
  case atStart => exact ⟨0, Nat.zero_le _, rfl, h0', ⟨#[], W.drawn⟩, (plus_self W).symm⟩
  case round =>
    obtain ⟨k, hk, rfl, hs, y, rfl⟩ := hrel
    by_cases hlt : k < n
    · obtain ⟨a, ha⟩ : ∃ s, l[k]? = some s := ⟨l[k]'(by rw [hn'.out]; exact hlt), List.getElem?_eq_getElem _⟩
      obtain ⟨pa, rfl, hc⟩ := hA'.out k a ha
      have q1 := hf'.out a (List.mem_of_getElem? ha)
      have hs1 := (firstI_drop may l k a ha).symm.trans hs.out
      obtain ⟨Z, hZ⟩ : ∃ Z, may a = Z := ⟨_, rfl⟩
      rw [hZ] at q1 hs1
      obtain ⟨c0, c1p, c1n, c1c, c2, c3p, c3n, c3c, c4p, c4n, c4c, ea⟩ := hC'.out a
      rw [ea] at q1
      have d0 := fun y => (hc.plus y).c0 _ (by rw [ea]; rfl)
      have d1 := fun y => (hc.plus y).cs 0 _ (by rw [ea]; rfl)
      have d2 := fun y => (hc.plus y).cs 1 _ (by rw [ea]; rfl)
      have d3 := fun y => (hc.plus y).cs 2 _ (by rw [ea]; rfl)
      have d4 := fun y => (hc.plus y).cs 3 _ (by rw [ea]; rfl)
      have q1' := Lib.hid q1
      have a6 := Lib.hid (wr_succ k n hlt hl'.out)
      clear q1 hZ hc ha hs ea
      cases Z with
      | false =>
        have hs2 := Lib.hid (show firstI may (l.drop (k + 1)) (k + 1) = R by rw [← hs1, if_neg (by decide)])
        clear hs1
        go_wp2_with (refine pure_call1 q1'.out ?_; rintro e w' ⟨rfl, x, rfl⟩)
        go_roundw
        case rel => exact ⟨k + 1, hlt, congrArg (Value.int .i64) a6.out, hs2, x, rfl⟩
        case measure => exact step_less k n hlt a6.out
      | true =>
        have hs2 := Lib.hid (show (k : Int) = R by rw [← hs1, if_pos rfl])
        clear hs1
        go_wp2_with (refine pure_call1 q1'.out ?_; rintro e w' ⟨rfl, x, rfl⟩)
        go_ret
        exact ⟨congrArg (fun z => Ending.returned (Value.int .i64 z)) hs2.out, x, rfl⟩
    · obtain rfl : k = n := by omega
      have hs2 := Lib.hid (show (-1 : Int) = R by
        rw [← hs.out, List.drop_of_length_le (by rw [hn'.out]; exact Nat.le_refl _)]; rfl)
      clear hs hlt hk
      go_wp2
      go_ret
      exact ⟨congrArg (fun z => Ending.returned (Value.int .i64 z)) hs2.out, y, rfl⟩
end Go.Proofs.Ytplkiadkkefppaa
