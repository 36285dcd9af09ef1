/-
  WHAT IS PROVED HERE: the landed resolve's teller: one, parts.
-/
import Derived.Test.YtlmhldcebllckaaGreatRows
import Derived.Test.YtlmhldcebllckaaGreatZk
namespace Go.Proofs.YtlmhldcebllckaaGreat
open Go.RowKit Go.Shelf
attribute [local go_sem] Oper.semAt_some
/-- An item that is no statement. -/
def itV (kind a b : Int) : Value := .agg #[.int .u8 kind, .int .i64 a, .int .i64 b, .int .u8 0, .string ⟨#[]⟩, .string ⟨#[]⟩, .int .u8 0, .int .i64 0, .int .u64 0, .int .u64 0, .string ⟨#[]⟩, .string ⟨#[]⟩, .int .i64 0, .int .i64 0, .slice none 0 0, .slice none 0 0, .slice none 0 0]
abbrev yv (l : Nat) : Value := .func (.yield l) #[] #[]
set_option maxRecDepth 100000 in
set_option maxHeartbeats 4000000 in
theorem one_in (l : Nat) (kind a : Int) (S : Nat → Prop) (J Jx : Nat → World → Prop) (k : Nat) (W : World) (hy : YieldAt Fence.wide 0 Tryz.prog l #[itV kind a 0] W (Came S J Jx k 1 W)) :
    CallsIn Fence.wide 0 Tryz.prog 53 #[yv l, .int .u8 kind, .int .i64 a] W (Came S J Jx k 1 W) := by
  obtain ⟨fn, tmps, assign, body, hy, hR⟩ := hy
  unfold itV at hy
  refine callsIn_of_wp Tryz.func53 rfl trivial ?_ rfl
  simp only [Tryz.ntmps53, List.size_toArray, List.length_cons, List.length_nil, Nat.reduceAdd, Nat.reduceSub, Array.replicate_succ, Array.replicate_zero, List.push_toArray, List.append_toArray, List.nil_append, List.cons_append]
  gi_wp2
  refine ⟨rfl, (round_wide hR).mono ?_⟩
  rintro e w' (⟨rfl, hJ, hk⟩ | ⟨rfl, hx⟩)
  · gi_wp2
    go_ret
    exact .inl ⟨rfl, hJ, hk⟩
  · gi_wp2
    go_ret
    exact .inr ⟨rfl, hx⟩
theorem Came.trans {S : Nat → Prop} {J Jx : Nat → World → Prop} {k m n : Nat} {A B : World} {e : Ending} {C : World} (hk : Kq S A B) (h : Came S J Jx (k + m) n B e C) : Came S J Jx k (m + n) A e C := by
  rcases h with ⟨rfl, hJ, h2⟩ | h
  · exact .inl ⟨rfl, by rw [← Nat.add_assoc]; exact hJ, hk.trans h2⟩
  · exact .inr h
set_option maxRecDepth 100000 in
set_option maxHeartbeats 8000000 in
theorem parts_in (l : Nat) (kind a : Int) (n : Nat) (hn : n ≤ 1048576) (S : Nat → Prop) (J Jx : Nat → World → Prop) (k : Nat) (W : World) (hy : ∀ j W1, j < n → J (k + j) W1 → YieldAt Fence.wide 0 Tryz.prog l #[itV kind a (j : Int)] W1 (Came S J Jx (k + j) 1 W1)) (h0 : J k W) :
    CallsIn Fence.wide 0 Tryz.prog 104 #[yv l, .int .u8 kind, .int .i64 a, .int .i64 (n : Int)] W (Came S J Jx k n W) := by
  have hy' := Lib.hid hy
  have hn' := Lib.hid hn
  clear hy hn
  refine callsIn_of_wp Tryz.func104 rfl trivial ?_ rfl
  simp only [Tryz.ntmps104, List.size_toArray, List.length_cons, List.length_nil, Nat.reduceAdd, Nat.reduceSub, Array.replicate_succ, Array.replicate_zero, List.push_toArray, List.append_toArray, List.nil_append, List.cons_append]
  gi_wp2
  gi_loopw [9, 11] (fun _ iv wr => ∃ j : Nat, j ≤ n ∧ iv = .int .i64 (j : Int) ∧ J (k + j) wr ∧ Kq S W wr) (fun _ iv _ => n - (intOf iv).toNat)
  case atStart => exact ⟨0, Nat.zero_le _, rfl, h0, Kq.refl _ _⟩
  case round =>
    obtain ⟨j, hj, rfl, hJ, hK⟩ := hrel
    by_cases hlt : j < n
    · obtain ⟨fn, tmps, assign, body, hy, hR⟩ := hy'.out j wr hlt hJ
      unfold itV at hy
      have a6 := Lib.hid (wr_succ j n hlt hn'.out)
      have hR' := Lib.hid hR
      clear hR
      gi_wp2
      refine ⟨rfl, (round_wide hR'.out).mono ?_⟩
      rintro e w' (⟨rfl, hJ2, hk2⟩ | ⟨rfl, hx⟩)
      · gi_wp2
        go_roundw
        case rel => exact ⟨j + 1, hlt, congrArg (Value.int .i64) a6.out, hJ2, hK.trans hk2⟩
        case measure => exact step_less j n hlt a6.out
      · gi_wp2
        go_ret
        exact .inr ⟨rfl, hx⟩
    · obtain rfl : j = n := by omega
      clear hlt hj
      gi_wp2
      go_ret
      exact .inl ⟨rfl, hJ, hK⟩
end Go.Proofs.YtlmhldcebllckaaGreat
