/-
  WHAT IS PROVED HERE: a part of the proof of the claim's theorem: NetZ.
-/
import Derived.Test.YtkffjjlmoojffaaGreatDoorRows
import Derived.Test.YtkffjjlmoojffaaGreatDoorB40
set_option linter.all false
namespace Go.Proofs.YtkffjjlmoojffaaGreatDoor
open Go.RowKit
theorem frame10 (p x t f d b : Value) : (#[p] ++ (((((((Array.replicate 9 undef).setIfInBounds 3 x).setIfInBounds 4 t).setIfInBounds 2 t).setIfInBounds 5 f).setIfInBounds 6 b).setIfInBounds 0 d).setIfInBounds 1 b : Array Value) = #[p, d, b, t, x, t, f, b, undef, undef] := by
  simp [Array.replicate]
def Caught1 (w : World) (n : Nat) (E l c : Int) (older : List PanicEntry) (e : Ending) (u' : FrameMode) (w' : World) : Prop :=
  e = .returned (.tuple #[]) ∧ u' = .panicking ({ v := .iface 32 (fv E l c), recovered := true } :: older) ∧ Below n w w' ∧ (∃ X : World, w' = ((X.setCell ⟨n, 0, none⟩ (.int .i64 E)).setCell ⟨n, 1, none⟩ (.int .i64 l)).setCell ⟨n, 2, none⟩ (.int .i64 c)) ∧ w'.cell? ⟨n, 0, none⟩ = some (.int .i64 E) ∧ w'.cell? ⟨n, 1, none⟩ = some (.int .i64 l) ∧ w'.cell? ⟨n, 2, none⟩ = some (.int .i64 c)
set_option maxHeartbeats 4000000 in
theorem tcatch_fault (n : Nat) (E l c : Int) (older : List PanicEntry) (w : World) (v0 v1 v2 : Value) (hn : n < w.heap.size) (h0 : w.cell? ⟨n, 0, none⟩ = some v0) (h1 : w.cell? ⟨n, 1, none⟩ = some v1) (h2 : w.cell? ⟨n, 2, none⟩ = some v2) (fq : ∀ o, w.frozen? ⟨n, o, none⟩ = false) :
    CallsD Tryz.prog 14 #[.pointer (some ⟨n, 0, none⟩)] (.panicking ({ v := .iface 32 (fv E l c), recovered := false } :: older)) w (Caught1 w n E l c older) := by
  have hta := assert_fault (fv E l c)
  refine callsD_of_wpS Tryz.func14 rfl fun c₀ cs hu => ?_
  apply wpS_seq
  apply wpS_region
  simp [wpOpsS, go_sem, recoverD, hu, Tryz.ntmps14, Exit.thenS, hta]
  refine wpS_of_wp ?_
  rw [frame10]
  obtain ⟨V, hV⟩ : ∃ V, V = w.alloc (.cells #[.int .i64 E, .int .i64 l, .int .i64 c] 32) := ⟨_, rfl⟩
  have old : ∀ (m o : Nat) (x : Value), m < w.heap.size → w.cell? ⟨m, o, none⟩ = some x → V.cell? ⟨m, o, none⟩ = some x := fun m o x hm hx => by rw [hV]; exact (cell_old w _ m o hm).trans hx
  have q0 := old n 0 v0 hn h0
  have q1 := old n 1 v1 hn h1
  have q2 := old n 2 v2 hn h2
  have g0 : V.cell? ⟨w.heap.size, 0, none⟩ = some (.int .i64 E) := by rw [hV]; exact cell_new w _ _ _ 0 rfl
  have g1 : V.cell? ⟨w.heap.size, 1, none⟩ = some (.int .i64 l) := by rw [hV]; exact cell_new w _ _ _ 1 rfl
  have g2 : V.cell? ⟨w.heap.size, 2, none⟩ = some (.int .i64 c) := by rw [hV]; exact cell_new w _ _ _ 2 rfl
  have f1 : ∀ o, V.frozen? ⟨n, o, none⟩ = false := fun o => by rw [hV]; exact (frozen_old w _ n o hn).trans (fq o)
  have hB : Hid (Below n w V) := by show Below _ _ _; rw [hV]; exact (Below.refl _ w).alloc (by omega) _
  have n1 : ¬ w.heap.size = n := by omega
  have n3 : ¬ n = w.heap.size := by omega
  have hfin : Hid (Caught1 w n E l c older (.returned (.tuple #[])) (.panicking ({ v := .iface 32 (fv E l c), recovered := true } :: older)) (((V.setCell ⟨n, 0, none⟩ (.int .i64 E)).setCell ⟨n, 1, none⟩ (.int .i64 l)).setCell ⟨n, 2, none⟩ (.int .i64 c))) := Lib.hid (by
    refine ⟨rfl, rfl, ((hB.out.setCell (p := ⟨n, _, none⟩) (Nat.le_refl _) _).setCell (p := ⟨n, _, none⟩) (Nat.le_refl _) _).setCell (p := ⟨n, _, none⟩) (Nat.le_refl _) _, ⟨V, rfl⟩, ?_, ?_, ?_⟩
    · rw [World.cell?_setCell_other _ _ _ _ (by simp), World.cell?_setCell_other _ _ _ _ (by simp)]
      exact World.cell?_setCell_same _ _ _ q0
    · rw [World.cell?_setCell_other _ _ _ _ (by simp)]
      exact World.cell?_setCell_same _ _ _ (u := v1) (by rw [World.cell?_setCell_other _ _ _ _ (by simp)]; exact q1)
    · exact World.cell?_setCell_same _ _ _ (u := v2) (by rw [World.cell?_setCell_other _ _ _ _ (by simp), World.cell?_setCell_other _ _ _ _ (by simp)]; exact q2))
  rw [← hV]
  clear hV old h0 h1 h2 fq hta hn
  generalize w.heap.size = N at *
  go_wp2
  simp only [bodyPostS]
  exact ⟨trivial, _, rfl, _, results_none rfl _ _ _, hfin.out⟩
set_option maxHeartbeats 4000000 in
theorem tcatch_none (n : Nat) (w : World) :
    CallsD Tryz.prog 14 #[.pointer (some ⟨n, 0, none⟩)] .returning w fun e u' w' => e = .returned (.tuple #[]) ∧ u' = .returning ∧ ∃ x, w' = plus w x := by
  have hta := assert_nil
  refine callsD_of_wpS Tryz.func14 rfl fun c₀ cs hu => ?_
  apply wpS_seq
  apply wpS_region
  simp [wpOpsS, go_sem, recoverD, hu, Tryz.ntmps14, Exit.thenS, hta]
  refine wpS_of_wp ?_
  rw [frame10]
  have hB : ∃ x, w.alloc (.cells #[.int .i64 0, .int .i64 0, .int .i64 0] 32) = plus w x := plus_of_below ((Below.refl _ w).alloc (Nat.le_refl _) _)
  obtain ⟨x, hx⟩ := hB
  have hx' := Lib.hid hx
  rw [hx]
  clear hx
  go_wp2
  simp only [bodyPostS]
  cases c₀
  simp only at hu
  subst hu
  exact ⟨trivial, _, rfl, _, results_none rfl _ _ _, rfl, rfl, x, rfl⟩
end Go.Proofs.YtkffjjlmoojffaaGreatDoor
