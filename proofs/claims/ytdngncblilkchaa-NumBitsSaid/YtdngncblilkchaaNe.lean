/-
  WHAT IS PROVED HERE: what num.Text hands back, for every number of 128 bits: its decimal digits, without noughts ahead.
-/
import Derived.Test.YtdngncblilkchaaRows
import Derived.Test.YtdngncblilkchaaPlain4
import Derived.Test.YtdngncblilkchaaNd
import Derived.WalkKit
import Derived.WalkSpells
import Derived.WalkLawsBesides
namespace Go.Proofs.Ytdngncblilkchaa
open Go.RowKit
theorem abs_world {P : Program} {c : Code} {Q : Exit → Act → World → Prop} {a : Act} {W : World} {T : World → Prop} (h : ∀ W, T W → c.wp P Q a W) (hT : T W) : c.wp P Q a W := h W hT
theorem hi_lt (N : Nat) (h : N < B128) : hi N ≤ 18446744073709551615 := by unfold B128 at h; unfold hi; omega
theorem TInv.start (w : World) (n : Nat) (T U : TypeId) : TInv w n 0 ((w.alloc (.cells #[.int .u64 (hi n), .int .u64 (lo n)] T)).alloc (.cells #[.int .u8 0, .int .u8 0, .int .u8 0, .int .u8 0, .int .u8 0, .int .u8 0, .int .u8 0, .int .u8 0, .int .u8 0, .int .u8 0, .int .u8 0, .int .u8 0, .int .u8 0, .int .u8 0, .int .u8 0, .int .u8 0, .int .u8 0, .int .u8 0, .int .u8 0, .int .u8 0, .int .u8 0, .int .u8 0, .int .u8 0, .int .u8 0, .int .u8 0, .int .u8 0, .int .u8 0, .int .u8 0, .int .u8 0, .int .u8 0, .int .u8 0, .int .u8 0, .int .u8 0, .int .u8 0, .int .u8 0, .int .u8 0, .int .u8 0, .int .u8 0, .int .u8 0] U)) := by
  have h1 : (w.alloc (.cells #[.int .u64 (hi n), .int .u64 (lo n)] T)).heap.size = w.heap.size + 1 := by simp
  refine ⟨((Below.refl _ _).alloc (Nat.le_refl _) _).alloc (by omega) _, by simp, ?_, ?_, ?_, ?_, fun i hi => ?_⟩
  · rw [Nat.pow_zero, Nat.div_one]; exact (cell_old _ _ _ 0 (by omega)).trans (cell_new w _ T _ 0 rfl)
  · rw [Nat.pow_zero, Nat.div_one]; exact (cell_old _ _ _ 1 (by omega)).trans (cell_new w _ T _ 1 rfl)
  · exact fun o => (frozen_old _ _ _ o (by omega)).trans (frozen_new w _ T _ o rfl)
  · exact fun o => frozen_new _ _ U _ o h1.symm
  · rw [tdig_zero n i hi]
    refine (cell_new _ _ U _ i h1.symm).trans ?_
    rw [show (#[.int .u8 0, .int .u8 0, .int .u8 0, .int .u8 0, .int .u8 0, .int .u8 0, .int .u8 0, .int .u8 0, .int .u8 0, .int .u8 0, .int .u8 0, .int .u8 0, .int .u8 0, .int .u8 0, .int .u8 0, .int .u8 0, .int .u8 0, .int .u8 0, .int .u8 0, .int .u8 0, .int .u8 0, .int .u8 0, .int .u8 0, .int .u8 0, .int .u8 0, .int .u8 0, .int .u8 0, .int .u8 0, .int .u8 0, .int .u8 0, .int .u8 0, .int .u8 0, .int .u8 0, .int .u8 0, .int .u8 0, .int .u8 0, .int .u8 0, .int .u8 0, .int .u8 0] : Array Value) = Array.replicate 39 (.int .u8 0) from rfl, Array.getElem?_replicate, if_pos hi]
/-- A digit is split off. -/
theorem div_n (N : Nat) : Pure Try.prog 55 #[.int .u64 (hi N % 10), .int .u64 (lo N), .int .u64 10] (.tuple #[.int .u64 (lo (N / 10)), .int .u64 ((N % 10 : Nat) : Int)]) := by
  have h := div10 (N / 18446744073709551616 % 10) (N % 18446744073709551616) (Nat.mod_lt _ (by decide)) (Nat.mod_lt _ (by decide))
  rw [lo_div, rem_div] at h
  exact h
/-- The bytes behind place p, as a string. -/
theorem text_run (w W : World) (n j p : Nat) (hp : p + j = 38) (h : TInv w n (j + 1) W) : (convert 41 9 (.slice (some ⟨w.heap.size + 1, p, none⟩) (39 - p) (39 - p))).run Try.prog W = .ok (.string ⟨(digB n j).toArray⟩) W := by
  rw [run_convert_bytes_string W _ _ 5 _ _ _ Try.underlying41 Try.underlying5 Try.underlying9]
  have hl : (loadCells ⟨w.heap.size + 1, p, none⟩ (39 - p)).run Try.prog W = .ok (((List.range (39 - p)).map fun i => tdig n (j + 1) (p + i)).map (Value.int .u8)).toArray W := by
    have := run_loadCells_list (P := Try.prog) (w := W) ⟨w.heap.size + 1, p, none⟩ (((List.range (39 - p)).map fun i => tdig n (j + 1) (p + i)).map (Value.int .u8)) (fun i v hv => by
      have hi : i < 39 - p := by
        have := (List.getElem?_eq_some_iff.1 hv).1
        simpa using this
      simp [hi] at hv
      subst hv
      have hb := h.b (p + i) (by omega)
      rcases Nat.eq_zero_or_pos i with rfl | hpos
      · simpa [Addr.add] using hb
      · simpa [Addr.add, Nat.ne_of_gt hpos] using hb)
    simpa using this
  rw [run_bytesToString W _ _ _ _ hl]
  congr 2
  exact bytes_of (by rw [bytes_fold]; exact digB_eq n j p hp)
theorem slice_run (B p : Nat) (hp : p < 39) (w : World) : (Instr.sliceAt 59 (.pointer (some ⟨B, 0, none⟩)) (some (.int .i64 (p : Int))) none none).run Try.prog w = .ok (.slice (some ⟨B, p, none⟩) (39 - p) (39 - p)) w := by
  have hn : Try.prog.arrayLen 59 = 39 := by kernel_rfl
  have he : Try.prog.elem 59 = 5 := by kernel_rfl
  have hz : (sizeOf 5).run Try.prog w = .ok 1 w := by kernel_rfl
  rw [run_sliceAt_array_l w 59 ⟨B, 0, none⟩ (by kernel_rfl) .i64 (p : Int) (by omega) (by rw [hn]; omega), he, hz, hn]
  have h3 : ¬ (39 = p) := by omega
  simp only [Result.andThen, slicedAt, Int.toNat_natCast, if_neg h3, Nat.mul_one]
  congr 4
  rcases Nat.eq_zero_or_pos p with rfl | hpos
  · rfl
  · simp [Addr.add, Nat.ne_of_gt hpos]
set_option maxHeartbeats 1000000 in
theorem num_text (n J : Nat) (hn : n < B128) (hJ : J ≤ 38) (hz : n / 10 ^ (J + 1) = 0) (hnz : ∀ j, j < J → n / 10 ^ (j + 1) ≠ 0) : Pure Try.prog 40 #[nv n] (.string ⟨(digB n J).toArray⟩) := by
  intro w
  have eqN := eql_nv
  have hn' := Lib.hid hn
  have hz' := Lib.hid hz
  have hnz' := Lib.hid hnz
  clear hn hz hnz
  go_enter Try.func40, Try.ntmps40
  go_wp2
  go_loopw [4] (fun a wr => ∃ j p : Nat, p + j = 38 ∧ j ≤ J ∧ a = .int .i64 p ∧ TInv w n j wr) (fun a _ => (intOf a).toNat)
  case atStart => exact ⟨0, 38, rfl, Nat.zero_le _, rfl, TInv.start w n _ _⟩
  case round =>
    obtain ⟨j, p, hp, hj, rfl, hT⟩ := hrel
    have hN : n / 10 ^ j < B128 := Nat.lt_of_le_of_lt (Nat.div_le_self _ _) hn'.out
    have hD := Lib.hid (div_n (n / 10 ^ j))
    have hd : n / 10 ^ j % 10 < 10 := Nat.mod_lt _ (by decide)
    have hq := hi_div (n / 10 ^ j)
    have h0 := hi_pos (n / 10 ^ j)
    have h1 := hi_lt (n / 10 ^ j) hN
    have hS := Lib.hid (fun x => hT.store hp x _ rfl (n / 10 ^ j / 10) (div_pow n j))
    have n0 := hT.n0
    have n1 := hT.n1
    have hX := fun x => hT.plus x
    have f0 := fun x => (hX x).fn
    have f1 := fun x => (hX x).fb
    have m0 := fun x => (hX x).n0
    have m1 := fun x => (hX x).n1
    have bp := fun x => (hX x).b p (by omega)
    generalize hNN : n / 10 ^ j = N at hD hd hq h0 h1 hS n0 n1 m0 m1
    generalize hdd : N % 10 = d at hD hd hS
    have hNN' := Lib.hid hNN
    have hp' := Lib.hid hp
    have hT' := Lib.hid hT
    have hlt : p < 39 := by omega
    clear hNN hdd hN hX hT hp
    go_wp2_with fail
    refine (hD.out wr).mono ?_
    rintro e w' ⟨rfl, x, rfl⟩
    go_wp2
    refine abs_world (T := TInv w n (j + 1)) ?_ (hS.out x)
    intro W2 hW
    have hX := fun x => hW.plus x
    have n0 := fun x => (hX x).n0
    have n1 := fun x => (hX x).n1
    have hO := Lib.hid (num_of 0 (by decide))
    have hSl := slice_run (w.heap.size + 1) p hlt
    have hR := Lib.hid (fun y => text_run w (plus W2 y) n j p hp'.out (hX y))
    rw [← div_pow, hNN'.out] at n0 n1
    have hW' := Lib.hid hW
    clear hW hX
    by_cases hjJ : j = J
    · have e0 : N / 10 = 0 := by rw [← hNN'.out, div_pow, hjJ]; exact hz'.out
      refine wp_region_own0 (by kernel_rfl) (by kernel_rfl) ?_
      repeat (go_big_quiet_step (exact hO.out.at _ _))
      refine wpQuiet_nil ?_
      rintro _ ⟨y, rfl⟩
      have hR' := fun y => hR.out y
      go_wp2
      go_ret
      subst hjJ
      exact ⟨rfl, plus_of_below (hW'.out.plus y).below⟩
    · have e0 : ¬ N / 10 = 0 := by rw [← hNN'.out, div_pow]; exact hnz'.out j (by omega)
      refine wp_region_own0 (by kernel_rfl) (by kernel_rfl) ?_
      repeat (go_big_quiet_step (exact hO.out.at _ _))
      refine wpQuiet_nil ?_
      rintro _ ⟨y, rfl⟩
      go_wp2
      have hj' : j < J := by omega
      have h1 := hp'.out
      have hW2 := hW'.out.plus y
      go_roundw
      case rel => exact ⟨j + 1, p - 1, by omega, by omega, by go_num, hW2⟩
      case measure => simp [intOf]; omega
end Go.Proofs.Ytdngncblilkchaa
