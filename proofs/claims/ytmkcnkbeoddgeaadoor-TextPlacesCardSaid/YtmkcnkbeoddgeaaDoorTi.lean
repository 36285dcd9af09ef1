/-
  WHAT IS PROVED HERE: the page's examples, which each law of layer 2 asks (known), are as the page says, in worlds in which the library's table of powers of ten holds what the library's text says.
-/
import Derived.Test.YtmkcnkbeoddgeaaDoorRows
import Derived.Test.YtmkcnkbeoddgeaaDoorTh
import Derived.WalkKit
import Derived.WalkSpells
import Derived.WalkLawsBesides
namespace Go.Proofs.YtmkcnkbeoddgeaaDoor
open Go.RowKit
theorem where_at (s : ByteArray) (a : Int) (l c : Nat) (hs : s.size ≤ 1000) (h0 : -9223372036854775808 ≤ a) (h1 : a ≤ 9223372036854775807) (e1 : lineOf s (clampN a s.size) = l) (e2 : colOf s (clampN a s.size) = c) :
    Pure Tryd.prog 8 #[.string s, .int .i64 a] (pv l c) := by
  subst e1 e2; exact text_where s a hs h0 h1
theorem itoaB_small (n : Nat) (h : n < 10) : itoaB (n : Int) = ⟨#[UInt8.ofNat (48 + n)]⟩ := by
  unfold itoaB; rw [Lib.itoa_nonneg, Lib.decDigits_one h]
theorem say_known : sayB 4 2 1 = ⟨#[108, 105, 110, 101, 32, 50, 32, 99, 111, 108, 117, 109, 110, 32, 49, 58, 32, 102, 111, 114, 109]⟩ := by
  have a := itoaB_small 2 (by decide)
  have b := itoaB_small 1 (by decide)
  unfold sayB
  rw [if_neg (by decide), show (2 : Int) = ((2 : Nat) : Int) from rfl, show (1 : Int) = ((1 : Nat) : Int) from rfl, a, b]
  decide +kernel
set_option maxHeartbeats 1000000 in
theorem known_any : Pure' 5 #[] (.bool true) := by
  intro w hT
  have k1 := Lib.hid (where_at ⟨#[97, 10, 98, 99]⟩ 3 2 2 (by decide +kernel) (by decide) (by decide) (by decide +kernel) (by decide +kernel))
  have k2 := Lib.hid (where_at ⟨#[97, 10]⟩ 1 1 2 (by decide +kernel) (by decide) (by decide) (by decide +kernel) (by decide +kernel))
  have k3 := Lib.hid (where_at ⟨#[97, 10]⟩ 2 2 1 (by decide +kernel) (by decide) (by decide) (by decide +kernel) (by decide +kernel))
  have k4 : Hid (Pure Tryd.prog 10 #[.string ⟨#[97, 10]⟩, .int .i64 2, .int .i64 4] (fv 4 2 1)) := by
    have := text_fault ⟨#[97, 10]⟩ 2 4 (by decide) (by decide +kernel) (by decide) (by decide)
    rw [show lineOf ⟨#[97, 10]⟩ (clampN 2 (ByteArray.size ⟨#[97, 10]⟩)) = 2 from by decide +kernel, show colOf ⟨#[97, 10]⟩ (clampN 2 (ByteArray.size ⟨#[97, 10]⟩)) = 1 from by decide +kernel] at this
    exact this
  have k5 : Hid (Pure' 12 #[fv 4 2 1] (.string ⟨#[108, 105, 110, 101, 32, 50, 32, 99, 111, 108, 117, 109, 110, 32, 49, 58, 32, 102, 111, 114, 109]⟩)) := by
    have := text_say 4 2 1 (by decide) (by decide) (by decide) (by decide)
    rw [say_known] at this
    exact this
  have hT' := Lib.hid hT
  clear hT
  go_enter Tryd.func5, Tryd.ntmps5
  go_wp2_with fail
  refine (k1.out _).mono ?_
  rintro r w' ⟨rfl, x1, rfl⟩
  go_wp2_with fail
  refine (k2.out.at _ _).mono ?_
  rintro r w' ⟨rfl, x2, rfl⟩
  go_wp2_with fail
  refine (k3.out.at _ _).mono ?_
  rintro r w' ⟨rfl, x3, rfl⟩
  go_wp2_with fail
  refine (k4.out.at _ _).mono ?_
  rintro r w' ⟨rfl, x4, rfl⟩
  go_wp2_with fail
  refine (k5.out.at _ hT'.out _).mono ?_
  rintro r w' ⟨rfl, x5, rfl⟩
  go_wp2
  go_ret
  exact ⟨rfl, x5, rfl⟩
end Go.Proofs.YtmkcnkbeoddgeaaDoor
