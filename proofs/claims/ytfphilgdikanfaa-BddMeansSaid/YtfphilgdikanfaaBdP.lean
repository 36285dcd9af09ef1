/-
  WHAT IS PROVED HERE: the page's example (known) is true.
-/
import Derived.Test.YtfphilgdikanfaaBdN
namespace Go.Proofs.Ytfphilgdikanfaa
open Go.RowKit
def bdK1 : List Bd := [⟨64, 0, 0⟩, ⟨64, 1, 1⟩, ⟨0, 0, 1⟩]
def bdK2 : List Bd := [⟨64, 0, 0⟩, ⟨64, 1, 1⟩, ⟨0, 0, 1⟩, ⟨1, 0, 1⟩]
def bdK3 : List Bd := [⟨64, 0, 0⟩, ⟨64, 1, 1⟩, ⟨0, 0, 1⟩, ⟨1, 0, 1⟩, ⟨0, 0, 3⟩]
theorem bdK_1 : bdVarS 3 false bd0 0 = (bdK1, some 2) := by decide +kernel
theorem bdK_2 : bdVarS 3 false bdK1 1 = (bdK2, some 3) := by decide +kernel
theorem bdK_3 : bdIteS 3 false bdK2 2 3 0 = (bdK3, some 4) := by decide +kernel
theorem bdK_4 : bdIteS 3 false bdK3 2 1 3 = (bdK3, none) := by decide +kernel
theorem bdK_5 : bdVarS 3 true bdK3 0 = (bdK3, none) := by decide +kernel
/-- What was all above B stays so. -/
theorem BdGo.above {w w1 : World} {L L1 : BdL} (h : BdGo w L w1 L1) {B : Nat} (hB : B ≤ w.heap.size) (hL : ∀ k, L.has k → B ≤ k) : Below B w w1 ∧ ∀ k, L1.has k → B ≤ k := by
  refine ⟨h.keep.below hB hL, fun k hk => ?_⟩
  by_cases q : k < w.heap.size
  · exact hL k (h.move.has q hk)
  · omega
theorem bd_go_end {w w5 w6 : World} {y : Ext} {L L' : BdL} (hB : Below w.heap.size w w5) (hG : BdGo (plus w5 y) L w6 L') (hL : ∀ k, L.has k → w.heap.size ≤ k) : Below w.heap.size w w6 := by
  have q := hB.trans ((below_plus w5 y).mono hB.size)
  exact q.trans (hG.above q.size hL).1
set_option maxRecDepth 100000 in
set_option maxHeartbeats 8000000 in
theorem law_known15 (w : World) : Calls Try.prog 6 #[] w fun e w' => e = .returned (.bool true) ∧ ∃ x, w' = plus w x := by
  have hN : Calls Try.prog 5 #[.int .i64 3] w (NewEnds w 3) := st_New w 3 (by omega) (by omega)
  have hN' := Lib.hid hN
  clear hN
  go_enter Try.func6, Try.ntmps6
  go_wp2_with fail
  refine hN'.out.mono ?_
  rintro e w1 ⟨bs, L, rfl, hS, hB, hbs, hL⟩
  have hV := st_Var hS 0
  rw [bdK_1] at hV
  have hV' := Lib.hid hV
  have hB' := Lib.hid hB
  have hL' := Lib.hid hL
  clear hS hB hbs hL hV hN'
  go_wp2_with fail
  refine hV'.out.mono ?_
  rintro e w2 ⟨L2, hG, hS, rfl⟩
  obtain ⟨b2, l2⟩ := hG.above hB'.out.size hL'.out
  have hB2 := hB'.out.trans b2
  simp only [Option.isNone_some, Option.getD_some] at hS ⊢
  have hV := st_Var hS 1
  rw [bdK_2] at hV
  have hV2' := Lib.hid hV
  have hB2' := Lib.hid hB2
  have hL2' := Lib.hid l2
  clear hS hG b2 l2 hB2 hV hV' hB' hL'
  go_wp2_with fail
  refine hV2'.out.mono ?_
  rintro e w3 ⟨L3, hG, hS, rfl⟩
  obtain ⟨b2, l2⟩ := hG.above hB2'.out.size hL2'.out
  have hB2 := hB2'.out.trans b2
  simp only [Option.isNone_some, Option.getD_some] at hS ⊢
  have hA := st_And hS 2 3
  rw [bdK_3] at hA
  have hA' := Lib.hid hA
  have hB3' := Lib.hid hB2
  have hL3' := Lib.hid l2
  clear hS hG b2 l2 hB2 hA hV2' hB2' hL2'
  go_wp2_with fail
  refine hA'.out.mono ?_
  rintro e w4 ⟨L4, hG, hS, rfl⟩
  obtain ⟨b2, l2⟩ := hG.above hB3'.out.size hL3'.out
  have hB2 := hB3'.out.trans b2
  simp only [Option.isNone_some, Option.getD_some] at hS ⊢
  have hO := st_Or hS 2 3
  rw [bdK_4] at hO
  have hO' := Lib.hid hO
  have hB4' := Lib.hid hB2
  have hL4' := Lib.hid l2
  clear hS hG b2 l2 hB2 hO hA' hB3' hL3'
  go_wp2_with fail
  refine hO'.out.mono ?_
  rintro e w5 ⟨L5, hG, hS, rfl⟩
  obtain ⟨b2, l2⟩ := hG.above hB4'.out.size hL4'.out
  have hB2 := hB4'.out.trans b2
  simp only [Option.isNone_none, Option.getD_none] at hS ⊢
  have hF' := Lib.hid (st_Full hS)
  have hN' := st_Len hS
  rw [show bdK3.length - 2 = 3 from rfl] at hN'
  replace hN' := Lib.hid hN'
  have hV : ∀ y, Calls Try.prog 14 #[.pointer (some ⟨bs, 0, none⟩), .int .i64 0] (plus w5 y) (StOut (plus w5 y) bs L5 3 (bdK3, none)) := fun y => by
    have := st_Var (hS.plus y) 0
    rwa [bdK_5] at this
  have hV' := Lib.hid hV
  have hB5' := Lib.hid hB2
  have hL5' := Lib.hid l2
  clear hS hG b2 l2 hB2 hO' hB4' hL4' hV
  rw [← plus_self w5]
  go_wp2_with (first | (go_at_call 12; with_reducible refine (hF'.out _).mono ?_; rintro r w' ⟨rfl, x, rfl⟩) | (go_at_call 10; with_reducible refine (hN'.out _).mono ?_; rintro r w' ⟨rfl, x, rfl⟩))
  refine (hV'.out _).mono ?_
  rintro e w6 ⟨L6, hG, hS, rfl⟩
  simp only [Option.getD_none]
  have hB6 : Hid (∃ x, w6 = plus w x) := Lib.hid (plus_of_below (bd_go_end hB5'.out hG hL5'.out))
  clear hS hG hV' hB5' hL5' hF' hN'
  go_wp2
  go_ret
  exact ⟨rfl, hB6.out⟩
end Go.Proofs.Ytfphilgdikanfaa
