/-
  WHAT IS PROVED HERE: what resolve's literals that look for a name hand back. Written by gen/za.py.
-/
import Derived.Test.YtlmhldcebllckaaGreatRows
import Derived.Test.YtlmhldcebllckaaGreatZa
import Derived.WalkKit
import Derived.Lib.Hide
import Derived.WalkSpells
import Derived.WalkLawsBesides
namespace Go.Proofs.YtlmhldcebllckaaGreat
open Go.RowKit
set_option maxHeartbeats 2000000 in
theorem lit_Header (B : Nat) (nm : ByteArray) (a0 : ByteArray) (a1p : Option Addr) (a1n : Nat) (a1c : Nat) (w : World) (hb : w.cell? ⟨B, 0, none⟩ = some (.string nm)) : Kp Tryz.prog w 27 #[.agg #[.string a0, .slice a1p a1n a1c], .pointer (some ⟨B, 0, none⟩)] (.bool (a0.toList == nm.toList)) := by
  intro y0
  have hb := cell_keep hb y0
  obtain ⟨V, hV⟩ : ∃ V, plus w y0 = V := ⟨_, rfl⟩
  rw [hV] at hb ⊢
  clear hV
  have hl := World.block_lt_of_cell? V _ hb
  have hb2 := fun X : Obj => cell_alloc hb X
  clear hb
  go_enter Tryz.func27, Tryz.ntmps27
  go_wp2
  go_ret
  exact ⟨rfl, plus_of_below ((Below.refl _ _).alloc (Nat.le_refl _) _)⟩
set_option maxHeartbeats 2000000 in
theorem lit_Field (B : Nat) (nm : ByteArray) (a0 : ByteArray) (a1 : Int) (w : World) (hb : w.cell? ⟨B, 0, none⟩ = some (.string nm)) : Kp Tryz.prog w 144 #[.agg #[.string a0, .int .i64 a1], .pointer (some ⟨B, 0, none⟩)] (.bool (a0.toList == nm.toList)) := by
  intro y0
  have hb := cell_keep hb y0
  obtain ⟨V, hV⟩ : ∃ V, plus w y0 = V := ⟨_, rfl⟩
  rw [hV] at hb ⊢
  clear hV
  have hl := World.block_lt_of_cell? V _ hb
  have hb2 := fun X : Obj => cell_alloc hb X
  clear hb
  go_enter Tryz.func144, Tryz.ntmps144
  go_wp2
  go_ret
  exact ⟨rfl, plus_of_below ((Below.refl _ _).alloc (Nat.le_refl _) _)⟩
set_option maxHeartbeats 2000000 in
theorem lit_State (B : Nat) (nm : ByteArray) (a0 : ByteArray) (a1p : Option Addr) (a1n : Nat) (a1c : Nat) (a2 : ByteArray) (a3p : Option Addr) (a3n : Nat) (a3c : Nat) (a4p : Option Addr) (a4n : Nat) (a4c : Nat) (w : World) (hb : w.cell? ⟨B, 0, none⟩ = some (.string nm)) : Kp Tryz.prog w 33 #[.agg #[.string a0, .slice a1p a1n a1c, .string a2, .slice a3p a3n a3c, .slice a4p a4n a4c], .pointer (some ⟨B, 0, none⟩)] (.bool (a0.toList == nm.toList)) := by
  intro y0
  have hb := cell_keep hb y0
  obtain ⟨V, hV⟩ : ∃ V, plus w y0 = V := ⟨_, rfl⟩
  rw [hV] at hb ⊢
  clear hV
  have hl := World.block_lt_of_cell? V _ hb
  have hb2 := fun X : Obj => cell_alloc hb X
  clear hb
  go_enter Tryz.func33, Tryz.ntmps33
  go_wp2
  go_ret
  exact ⟨rfl, plus_of_below ((Below.refl _ _).alloc (Nat.le_refl _) _)⟩
set_option maxHeartbeats 2000000 in
theorem lit_Action (B : Nat) (nm : ByteArray) (a0 : ByteArray) (a1p : Option Addr) (a1n : Nat) (a1c : Nat) (a2p : Option Addr) (a2n : Nat) (a2c : Nat) (w : World) (hb : w.cell? ⟨B, 0, none⟩ = some (.string nm)) : Kp Tryz.prog w 29 #[.agg #[.string a0, .slice a1p a1n a1c, .slice a2p a2n a2c], .pointer (some ⟨B, 0, none⟩)] (.bool (a0.toList == nm.toList)) := by
  intro y0
  have hb := cell_keep hb y0
  obtain ⟨V, hV⟩ : ∃ V, plus w y0 = V := ⟨_, rfl⟩
  rw [hV] at hb ⊢
  clear hV
  have hl := World.block_lt_of_cell? V _ hb
  have hb2 := fun X : Obj => cell_alloc hb X
  clear hb
  go_enter Tryz.func29, Tryz.ntmps29
  go_wp2
  go_ret
  exact ⟨rfl, plus_of_below ((Below.refl _ _).alloc (Nat.le_refl _) _)⟩
set_option maxHeartbeats 2000000 in
theorem lit_Table (B : Nat) (nm : ByteArray) (a0 : ByteArray) (a1p : Option Addr) (a1n : Nat) (a1c : Nat) (a2p : Option Addr) (a2n : Nat) (a2c : Nat) (a3 : ByteArray) (a4p : Option Addr) (a4n : Nat) (a4c : Nat) (w : World) (hb : w.cell? ⟨B, 0, none⟩ = some (.string nm)) : Kp Tryz.prog w 31 #[.agg #[.string a0, .slice a1p a1n a1c, .slice a2p a2n a2c, .string a3, .slice a4p a4n a4c], .pointer (some ⟨B, 0, none⟩)] (.bool (a0.toList == nm.toList)) := by
  intro y0
  have hb := cell_keep hb y0
  obtain ⟨V, hV⟩ : ∃ V, plus w y0 = V := ⟨_, rfl⟩
  rw [hV] at hb ⊢
  clear hV
  have hl := World.block_lt_of_cell? V _ hb
  have hb2 := fun X : Obj => cell_alloc hb X
  clear hb
  go_enter Tryz.func31, Tryz.ntmps31
  go_wp2
  go_ret
  exact ⟨rfl, plus_of_below ((Below.refl _ _).alloc (Nat.le_refl _) _)⟩
set_option maxHeartbeats 2000000 in
theorem lit_string (B : Nat) (nm s : ByteArray) (w : World) (hb : w.cell? ⟨B, 0, none⟩ = some (.string nm)) : Kp Tryz.prog w 146 #[.string s, .pointer (some ⟨B, 0, none⟩)] (.bool (s.toList == nm.toList)) := by
  intro y0
  have hb := cell_keep hb y0
  obtain ⟨V, hV⟩ : ∃ V, plus w y0 = V := ⟨_, rfl⟩
  rw [hV] at hb ⊢
  clear hV
  go_enter Tryz.func146, Tryz.ntmps146
  go_wp2
  go_ret
  exact ⟨rfl, _, (plus_self _).symm⟩
end Go.Proofs.YtlmhldcebllckaaGreat
