/-
  WHAT IS PROVED HERE: the law NumBack is true of every number of 128 bits and every text, in whatever world. No condition.
-/
import Derived.Test.YtdngncblilkchaaRows
import Derived.Test.YtdngncblilkchaaNh
import Derived.Test.YtdngncblilkchaaPlain7
import Derived.Test.YtdngncblilkchaaNg
import Derived.WalkKit
import Derived.WalkSpells
import Derived.Deep.RegionHeld3
import Derived.WalkLawsBesides
namespace Go.Proofs.Ytdngncblilkchaa
open Go.RowKit
theorem fin_world {w U : World} (h : Below w.heap.size w U) (x : Ext) (o : Obj) (z : Ext) : ∃ t, plus ((plus U x).alloc o) z = plus w t := by
  have h1 := h.size
  have h2 := size_plus U x
  have hs : ((plus U x).alloc o).heap.size = (plus U x).heap.size + 1 := by simp
  exact plus_of_below (((h.trans ((below_plus U x).mono h1)).alloc (by omega) o).trans ((below_plus _ z).mono (by omega)))
theorem index_run (s : ByteArray) (h : 0 < s.size) (w : World) : (Instr.index 9 (.string s) (.int .i64 0)).run Try.prog w = .ok (.int .u8 ((s[0]).toNat : Int)) w := by
  have h1 : (0 : Int) < (s.size : Int) := by omega
  go_simp
/-- The two numbers' variables. -/
def back_inv (n : Nat) (w : World) (b : Nat) (V : World) : Prop := V.cell? ⟨w.heap.size, 0, none⟩ = some (.int .u64 (hi n)) ∧ V.cell? ⟨w.heap.size, 1, none⟩ = some (.int .u64 (lo n)) ∧ V.cell? ⟨b, 0, none⟩ = some (.int .u64 (hi n)) ∧ V.cell? ⟨b, 1, none⟩ = some (.int .u64 (lo n)) ∧ RB w b V
set_option maxRecDepth 100000 in
set_option maxHeartbeats 4000000 in
theorem back_walk (n : Nat) (s : ByteArray) (hn : n < B128) (hs : s.size ≤ maxLen) : Pure Try.prog 5 #[nv n, .string s] (.bool true) := by
  intro w
  unfold maxLen at hs
  by_cases hl : 60 < s.size
  · go_enter Try.func5, Try.ntmps5
    go_wp2_with (go_at_call 38; refine (known_any _).mono ?_; rintro e w' ⟨rfl, z, rfl⟩)
    go_ret
    exact ⟨rfl, plus_of_below (((Below.refl _ _).alloc (Nat.le_refl _) _).trans ((below_plus _ z).mono (by simp)))⟩
  obtain ⟨J, hz, hnz⟩ := ndig n
  have T1 : Hid (Pure Try.prog 40 #[nv n] (.string ⟨(digB n J).toArray⟩)) := num_text n J hn (ndig_le n J hn hnz) hz hnz
  have T2 : Hid (Pure Try.prog 39 #[.string ⟨(digB n J).toArray⟩] (.tuple #[nv n, .int .i64 0])) := (num_parse _).eqv (by rw [parse_text n J hn hz])
  have hn' := Lib.hid hn
  clear hz hnz hn
  go_enter Try.func5, Try.ntmps5
  go_wp2_with fail
  obtain ⟨W, hW, hB, hsz, ca, fa⟩ := box1 w _ 24
  rw [← hW]
  have a0 := ca 0 (some (.int .u64 (hi n))) rfl
  have a1 := ca 1 (some (.int .u64 (lo n))) rfl
  clear hW fa ca
  refine (T1.out W).mono ?_
  rintro e w' ⟨rfl, x, rfl⟩
  go_wp2_with fail
  refine (T2.out.at W x).mono ?_
  rintro e w' ⟨rfl, y, rfl⟩
  go_wp2
  have hsy := size_plus W y
  have hBy := hB.trans ((below_plus W y).mono hB.size)
  have hV0 : back_inv n w ((plus W y).heap.size) ((plus W y).alloc (Obj.cells #[Value.int .u64 (hi n), Value.int .u64 (lo n)] 24)) :=
    ⟨(cell_old _ _ _ 0 (by omega)).trans (a0 y), (cell_old _ _ _ 1 (by omega)).trans (a1 y), cell_new _ _ _ _ 0 rfl, cell_new _ _ _ _ 1 rfl, ⟨hBy.alloc (by omega) _, by omega, by simp⟩⟩
  have hb : (plus W y).heap.size ≠ w.heap.size := by omega
  refine abs_world (T := back_inv n w ((plus W y).heap.size)) ?_ hV0
  clear hV0
  intro V hV
  generalize (plus W y).heap.size = b at hV hb
  clear a0 a1 hsy hBy hB hsz T1 T2
  unfold back_inv at hV
  have hVd : V.drew.cell? ⟨w.heap.size, 0, none⟩ = some (.int .u64 (hi n)) ∧ V.drew.cell? ⟨w.heap.size, 1, none⟩ = some (.int .u64 (lo n)) ∧ V.drew.cell? ⟨b, 0, none⟩ = some (.int .u64 (hi n)) ∧ V.drew.cell? ⟨b, 1, none⟩ = some (.int .u64 (lo n)) ∧ RB w b V.drew := ⟨hV.1, hV.2.1, hV.2.2.1, hV.2.2.2.1, ⟨hV.2.2.2.2.below.drew, hV.2.2.2.2.le, hV.2.2.2.2.lt⟩⟩
  go_region_held3 (fun V => V.cell? ⟨w.heap.size, 0, none⟩ = some (.int .u64 (hi n)) ∧ V.cell? ⟨w.heap.size, 1, none⟩ = some (.int .u64 (lo n)) ∧ V.cell? ⟨b, 0, none⟩ = some (.int .u64 (hi n)) ∧ V.cell? ⟨b, 1, none⟩ = some (.int .u64 (lo n)) ∧ RB w b V) (first | assumption | exact hVd) (first | (go_at_call 42; refine (bytesS n n hn'.out w _ b (by assumption)).mono ?_; rintro e w' ⟨g, rfl, hG, hS⟩) | (go_at_call 41; refine (fromS n n _ hn'.out w _ b (by assumption) (by assumption)).mono ?_; rintro e w' ⟨rfl, hS⟩))
  obtain ⟨k0, k1, k2, k3, hR⟩ := hS
  have hR' := Lib.hid hR
  clear k0 k1 k2 k3 hV hVd hG hR
  generalize hU : w' = U at *
  have hP := Lib.hid (num_parse s)
  have hback := Lib.hid (text_back s)
  have hsome := Lib.hid (parseS_some s)
  have hcodes := parseS_codes s
  generalize parseS s = r at hP hback hsome hcodes
  obtain ⟨Y, E⟩ := r
  simp only at hcodes
  rcases hcodes with rfl | rfl | rfl
  · have h0 := hsome.out rfl
    have hidx := index_run s h0
    by_cases hc : s[0] = 48
    · have hC : ((s[0]).toNat : Int) = 48 := by rw [hc]; rfl
      rw [hC] at hidx
      clear hc hC
      go_wp2_with fail
      refine (hP.out U).mono ?_
      rintro e w' ⟨rfl, x, rfl⟩
      go_wp2_with (go_at_call 38; refine (known_any _).mono ?_; rintro e w' ⟨rfl, z, rfl⟩)
      go_ret
      exact ⟨rfl, fin_world hR'.out.below x _ z⟩
    · obtain ⟨hY, J', g1, g2, g3, g4⟩ := hback.out rfl h0 hc
      have T3 : Hid (Pure Try.prog 40 #[nv Y] (.string s)) := (num_text Y J' hY g1 g2 g3).eqv (congrArg Value.string g4)
      have eqS := str_eq s
      have hC : (((s[0]).toNat : Int) == 48) = false := by
        rw [beq_eq_false_iff_ne]
        intro e
        apply hc
        apply UInt8.toNat_inj.1
        rw [show (48 : UInt8).toNat = 48 from rfl]; omega
      generalize ((s[0]).toNat : Int) = C at hidx hC
      clear hc hY g1 g2 g3 g4
      go_wp2_with fail
      refine (hP.out U).mono ?_
      rintro e w' ⟨rfl, x, rfl⟩
      go_wp2_with fail
      refine (T3.out _).mono ?_
      rintro e w' ⟨rfl, z, rfl⟩
      go_wp2_with (go_at_call 38; refine (known_any _).mono ?_; rintro e w' ⟨rfl, z2, rfl⟩)
      go_ret
      refine ⟨rfl, ?_⟩
      rw [plus_plus]
      exact fin_world hR'.out.below x _ _
  · go_wp2_with fail
    refine (hP.out U).mono ?_
    rintro e w' ⟨rfl, x, rfl⟩
    go_wp2_with (go_at_call 38; refine (known_any _).mono ?_; rintro e w' ⟨rfl, z, rfl⟩)
    go_ret
    exact ⟨rfl, fin_world hR'.out.below x _ z⟩
  · go_wp2_with fail
    refine (hP.out U).mono ?_
    rintro e w' ⟨rfl, x, rfl⟩
    go_wp2_with (go_at_call 38; refine (known_any _).mono ?_; rintro e w' ⟨rfl, z, rfl⟩)
    go_ret
    exact ⟨rfl, fin_world hR'.out.below x _ z⟩
end Go.Proofs.Ytdngncblilkchaa
