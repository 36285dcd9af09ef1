/-
  WHAT IS PROVED HERE: what resolve's literals that look for a name hand back. Written by gen/za.py.
-/
import Derived.Test.YtplkiadkkefppaaRows
import Derived.Test.YtplkiadkkefppaaZa
import Derived.WalkKit
import Derived.Lib.Hide
import Derived.WalkSpells
import Derived.WalkLawsBesides
namespace Go.Proofs.Ytplkiadkkefppaa
open Go.RowKit
set_option maxHeartbeats 2000000 in
theorem lit_State (B : Nat) (nm : ByteArray) (a0 : ByteArray) (a1p : Option Addr) (a1n : Nat) (a1c : Nat) (a2 : ByteArray) (a3p : Option Addr) (a3n : Nat) (a3c : Nat) (a4p : Option Addr) (a4n : Nat) (a4c : Nat) (w : World) (hb : w.cell? ⟨B, 0, none⟩ = some (.string nm)) : Kp Try.prog w 31 #[.agg #[.string a0, .slice a1p a1n a1c, .string a2, .slice a3p a3n a3c, .slice a4p a4n a4c], .pointer (some ⟨B, 0, none⟩)] (.bool (a0.toList == nm.toList)) := by
  intro y0
  have hb := cell_keep hb y0
  obtain ⟨V, hV⟩ : ∃ V, plus w y0 = V := ⟨_, rfl⟩
  rw [hV] at hb ⊢
  clear hV
  have hl := World.block_lt_of_cell? V _ hb
  have hb2 := fun X : Obj => cell_alloc hb X
  clear hb
  go_enter Try.func31, Try.ntmps31
  go_wp2
  go_ret
  exact ⟨rfl, plus_of_below ((Below.refl _ _).alloc (Nat.le_refl _) _)⟩
end Go.Proofs.Ytplkiadkkefppaa
