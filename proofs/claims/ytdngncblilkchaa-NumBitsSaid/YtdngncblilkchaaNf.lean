/-
  WHAT IS PROVED HERE: the page's examples come out as it says, in whatever world. No condition.
-/
import Derived.Test.YtdngncblilkchaaRows
import Derived.Test.YtdngncblilkchaaNe
import Derived.WalkKit
import Derived.WalkSpells
import Derived.WalkLawsBesides
namespace Go.Proofs.Ytdngncblilkchaa
open Go.RowKit
theorem digs_of (b : Nat) (l : List UInt8) (h : (l.all fun c => decide (digV (c.toNat : Int) b < b)) = true) : digs b l := fun c hc => of_decide_eq_true (List.all_eq_true.1 h c hc)
theorem parse_k1 : parseS ⟨#[48, 120, 102, 70]⟩ = (255, 0) := by
  unfold parseS
  rw [if_pos (by decide), show Lib.trimPrefix (⟨#[48, 120, 102, 70]⟩ : ByteArray).data.toList [48, 120] = [102, 70] from by decide, parseR_ok 16 [102, 70] (by simp) (digs_of _ _ (by decide +kernel)) (by decide +kernel)]
  exact Prod.ext (by decide +kernel) rfl
theorem parse_k2 : parseS ⟨#[48, 120]⟩ = (0, 4) := by
  unfold parseS
  rw [if_pos (by decide), show Lib.trimPrefix (⟨#[48, 120]⟩ : ByteArray).data.toList [48, 120] = [] from by decide, parseR_nil]
theorem parse_k3 : parseS ⟨#[51,52,48,50,56,50,51,54,54,57,50,48,57,51,56,52,54,51,52,54,51,51,55,52,54,48,55,52,51,49,55,54,56,50,49,49,52,53,54]⟩ = (0, 5) := by
  unfold parseS
  rw [if_neg (by decide), parseR_over 10 _ (by simp) (digs_of _ _ (by decide +kernel)) (by decide +kernel)]
theorem known1 : Pure Try.prog 39 #[.string ⟨#[48, 120, 102, 70]⟩] (.tuple #[nv 255, .int .i64 0]) := (num_parse _).eqv (by rw [parse_k1])
theorem known2 : Pure Try.prog 39 #[.string ⟨#[48, 120]⟩] (.tuple #[nv 0, .int .i64 4]) := (num_parse _).eqv (by rw [parse_k2])
theorem known3 : Pure Try.prog 39 #[.string ⟨#[51,52,48,50,56,50,51,54,54,57,50,48,57,51,56,52,54,51,52,54,51,51,55,52,54,48,55,52,51,49,55,54,56,50,49,49,52,53,54]⟩] (.tuple #[nv 0, .int .i64 5]) := (num_parse _).eqv (by rw [parse_k3])
theorem known4 : Pure Try.prog 40 #[.agg #[.int .u64 1, .int .u64 0]] (.string ⟨#[49,56,52,52,54,55,52,52,48,55,51,55,48,57,53,53,49,54,49,54]⟩) := by
  have h := num_text 18446744073709551616 19 (by decide) (by decide) (by decide +kernel) (by
    intro j hj h
    have : 18446744073709551616 / 10 ^ 19 = 0 := by
      apply Nat.div_eq_of_lt
      have := (Nat.div_eq_zero_iff_lt (Nat.pos_of_ne_zero (by simp))).1 h
      exact Nat.lt_of_lt_of_le this (Nat.pow_le_pow_right (by decide) (by omega))
    revert this; decide +kernel)
  have e1 : hi 18446744073709551616 = 1 := by decide +kernel
  have e2 : lo 18446744073709551616 = 0 := by decide +kernel
  have e3 : (digB 18446744073709551616 19).toArray = #[49,56,52,52,54,55,52,52,48,55,51,55,48,57,53,53,49,54,49,54] := by decide +kernel
  unfold nv at h
  rw [e1, e2, e3] at h
  exact h
theorem known5 : Pure Try.prog 26 #[nv 0, nv 1, .int .i64 8] (nv 255) := (num_sub 0 1 8 (by decide)).eqv (congrArg nv (by decide +kernel))
theorem str_eq (s : ByteArray) (w : World) : (binOp .eql 9 (.string s) (.string s)).run Try.prog w = .ok (.bool true) w := by
  go_simp
set_option maxHeartbeats 1000000 in
theorem known_any : Pure Try.prog 38 #[] (.bool true) := by
  intro w
  have eqN := eql_nv
  go_enter Try.func38, Try.ntmps38
  go_wp2_with fail
  refine (known1 w).mono ?_
  rintro e w' ⟨rfl, x, rfl⟩
  go_wp2_with fail
  obtain ⟨W1, hW1, hB1, hs1, ca1, fa1⟩ := box1 (plus w x) _ 24
  rw [← hW1]
  have c0 := ca1 0 (some (.int .u64 (hi 255))) rfl
  have c1 := ca1 1 (some (.int .u64 (lo 255))) rfl
  clear hW1 fa1 ca1
  refine (known2 W1).mono ?_
  rintro e w' ⟨rfl, y, rfl⟩
  go_wp2_with fail
  refine (known3 _).mono ?_
  rintro e w' ⟨rfl, z, rfl⟩
  go_wp2
  have hB : Below w.heap.size w (plus w x) := below_plus w x
  have hB2 := hB.trans ((hB1.mono hB.size).trans ((below_plus W1 y).mono (by have := hB.size; have := hB1.size; omega)))
  have hlt : (plus w x).heap.size < W1.heap.size := by omega
  generalize hg : (plus (((plus W1 y).alloc (.cells #[.int .u64 (hi 0), .int .u64 (lo 0)] 24))) z).alloc (.cells #[.int .u64 (hi 0), .int .u64 (lo 0)] 24) = W3
  have hs1' := (below_plus W1 y).size
  have hz := below_plus ((plus W1 y).alloc (.cells #[.int .u64 (hi 0), .int .u64 (lo 0)] 24)) z
  have hzs : W1.heap.size ≤ ((plus W1 y).alloc (.cells #[.int .u64 (hi 0), .int .u64 (lo 0)] 24)).heap.size := by simp; omega
  have c3 : Below W1.heap.size W1 W3 := by
    rw [← hg]
    exact (((below_plus W1 y).alloc hs1' _).trans (hz.mono hzs)).alloc (by have := hz.size; omega) _
  have hW3 : Below w.heap.size w W3 := (hB.trans (hB1.mono hB.size)).trans (c3.mono (by have := hB.size; omega))
  have k0 : ∀ u, (plus W3 u).cell? ⟨(plus w x).heap.size, 0, none⟩ = some (.int .u64 (hi 255)) := fun u => ((cell_plus W3 u (plus w x).heap.size 0 (Nat.lt_of_lt_of_le hlt c3.size)).trans (c3.cell (p := ⟨_, 0, none⟩) hlt)).trans (by have := c0 ⟨#[], W1.drawn⟩; rwa [plus_self] at this)
  have k1 : ∀ u, (plus W3 u).cell? ⟨(plus w x).heap.size, 1, none⟩ = some (.int .u64 (lo 255)) := fun u => ((cell_plus W3 u (plus w x).heap.size 1 (Nat.lt_of_lt_of_le hlt c3.size)).trans (c3.cell (p := ⟨_, 1, none⟩) hlt)).trans (by have := c1 ⟨#[], W1.drawn⟩; rwa [plus_self] at this)
  have o0 : Hid (Pure Try.prog 14 #[.int .u64 0] (nv 0)) := num_of 0 (by decide)
  have o1 : Hid (Pure Try.prog 14 #[.int .u64 1] (nv 1)) := num_of 1 (by decide)
  have o255 : Hid (Pure Try.prog 14 #[.int .u64 255] (nv 255)) := num_of 255 (by decide)
  have eqS := str_eq
  have hW3' := Lib.hid hW3
  clear hg hz hzs c3 hW3 hs1' hlt hB2 hB c0 c1 hB1 hs1
  refine wp_region_own0 (by kernel_rfl) (by kernel_rfl) ?_
  repeat (go_big_quiet_step (first | (go_at_call 40; exact known4.at _ _) | (go_at_call 26; exact known5.at _ _) | (go_at_call_of 14 (Value.int IntKind.u64 0); exact o0.out.at _ _) | (go_at_call_of 14 (Value.int IntKind.u64 1); exact o1.out.at _ _) | (go_at_call_of 14 (Value.int IntKind.u64 255); exact o255.out.at _ _)))
  refine wpQuiet_nil ?_
  rintro _ ⟨v, rfl⟩
  go_wp2
  go_ret
  exact ⟨rfl, plus_of_below (hW3'.out.trans ((below_plus W3 v).mono hW3'.out.size))⟩
end Go.Proofs.Ytdngncblilkchaa
