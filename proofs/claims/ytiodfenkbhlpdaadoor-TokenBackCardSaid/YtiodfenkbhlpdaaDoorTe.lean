/-
  WHAT IS PROVED HERE: what text.Fault and the document's Fault hand back, of any byte of any text of at most 2^47 bytes, and any error.
-/
import Derived.Test.YtiodfenkbhlpdaaDoorRows
import Derived.Test.YtiodfenkbhlpdaaDoorTc
import Derived.WalkKit
import Derived.WalkSpells
import Derived.WalkLawsBesides
namespace Go.Proofs.YtiodfenkbhlpdaaDoor
open Go.RowKit
/-- A fault: an error, and a place. -/
abbrev fv (e l c : Int) : Value := .agg #[.int .i64 e, .int .i64 l, .int .i64 c]
theorem own_end3 {w W : World} {y : Ext} {b : Nat} (hB : Below w.heap.size w W) (hb : w.heap.size ≤ b) (u v t : Value) : ∃ x, (((plus W y).setCell ⟨b, 0, none⟩ u).setCell ⟨b, 1, none⟩ v).setCell ⟨b, 2, none⟩ t = plus w x :=
  plus_of_below ((((hB.trans ((below_plus W y).mono hB.size)).setCell hb _).setCell hb _).setCell hb _)
theorem text_fault_ok (s : ByteArray) (a : Int) : Pure Tryd.prog 21 #[.string s, .int .i64 a, .int .i64 0] (fv 0 0 0) := by
  intro w
  go_enter Tryd.func21, Tryd.ntmps21
  go_wp2
  refine bodyPost_ret (v := fv 0 0 0) (by simp [results, Tryd.results21, go_sem]) rfl ⟨rfl, ?_⟩
  exact plus_of_below ((Below.refl _ _).alloc (Nat.le_refl _) _)
set_option maxHeartbeats 1000000 in
theorem text_fault (s : ByteArray) (a e : Int) (he : ¬ e = 0) (hs : s.size ≤ 140737488355328) (h0 : -9223372036854775808 ≤ a) (h1 : a ≤ 9223372036854775807) :
    Pure Tryd.prog 21 #[.string s, .int .i64 a, .int .i64 e] (fv e (lineOf s (clampN a s.size) : Nat) (colOf s (clampN a s.size) : Nat)) := by
  intro w
  have hW := Lib.hid (text_where s a hs h0 h1)
  generalize lineOf s (clampN a s.size) = l at hW
  generalize colOf s (clampN a s.size) = c at hW
  go_enter Tryd.func21, Tryd.ntmps21
  go_wp2_with fail
  obtain ⟨W, hW', hB, hs', ca, fa⟩ := box1 w #[.int .i64 0, .int .i64 0, .int .i64 0] 28
  rw [← hW']
  have ca0 := fun y => ca 0 (some (.int .i64 0)) rfl y
  have ca1 := fun y => ca 1 (some (.int .i64 0)) rfl y
  have ca2 := fun y => ca 2 (some (.int .i64 0)) rfl y
  clear hW' ca
  rw [← plus_self W]
  refine (hW.out.at _ _).mono ?_
  rintro e' w' ⟨rfl, y, rfl⟩
  go_wp2
  refine bodyPost_ret (v := fv e l c) (by simp [results, Tryd.results21, go_sem, ca0, ca1, ca2]) rfl ⟨rfl, ?_⟩
  exact own_end3 hB (Nat.le_refl _) _ _ _
end Go.Proofs.YtiodfenkbhlpdaaDoor
