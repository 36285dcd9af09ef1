/-
  WHAT IS PROVED HERE: what package match's calls hand back: isWidth, narrowed, May, Agrees, Within, Meet, Masked, for all patterns of two numbers of 128 bits and all widths, in whatever world; a call makes memory of its own and nothing else. No condition but that the halves are of 64 bits.
-/
import Derived.WalkKit
import Derived.Lib.Hide
import Derived.Test.YtjfkkikbcmglnaaRows
import Derived.Test.YtjfkkikbcmglnaaMa
import Derived.WalkSpells
import Derived.WalkLawsBesides
namespace Go.Proofs.Ytjfkkikbcmglnaa
open Go.RowKit
/-- A pattern: a struct in a struct lies flat. -/
abbrev pv (v m : Nat) : Value := .agg #[.int .u64 (hi v), .int .u64 (lo v), .int .u64 (hi m), .int .u64 (lo m)]
theorem own_end4 {w W : World} {y : Ext} {b : Nat} (hB : Below w.heap.size w W) (hb : w.heap.size ≤ b) (u v r s : Value) : ∃ x, ((((plus W y).setCell ⟨b, 0, none⟩ u).setCell ⟨b, 1, none⟩ v).setCell ⟨b, 2, none⟩ r).setCell ⟨b, 3, none⟩ s = plus w x :=
  plus_of_below (((((hB.trans ((below_plus W y).mono hB.size)).setCell hb _).setCell hb _).setCell hb _).setCell hb _)
theorem pv_beq (a b c d : Nat) : (decide (hi a = hi c) && (decide (lo a = lo c) && (decide (hi b = hi d) && decide (lo b = lo d)))) = (decide (a = c) && decide (b = d)) := by
  rw [← nv_beq a c, ← nv_beq b d, Bool.and_assoc]
/-- Two patterns are held against each other. -/
theorem eql_pv (a b c d : Nat) (w : World) : (binOp .eql 26 (pv a b) (pv c d)).run Try.prog w = .ok (.bool (decide (a = c) && decide (b = d))) w := by
  rw [← pv_beq]
  go_simp
  repeat' split
  all_goals simp_all
theorem neq_pv (a b c d : Nat) (w : World) : (binOp .neq 26 (pv a b) (pv c d)).run Try.prog w = .ok (.bool (!(decide (a = c) && decide (b = d)))) w := by
  rw [← pv_beq]
  go_simp
  repeat' split
  all_goals simp_all
set_option maxHeartbeats 400000 in
theorem m_isWidth (x : Int) : Pure Try.prog 25 #[.int .i64 x] (.bool (wideB x)) := by
  intro w
  have H : Hid (wideB x = (decide (1 ≤ x) && decide (x ≤ 128))) := rfl
  go_enter Try.func25, Try.ntmps25
  go_wp2
  all_goals
    go_ret
    refine ⟨?_, _, (plus_self w).symm⟩
    rw [H.out]
    simp_all
    try omega
set_option maxHeartbeats 1000000 in
theorem m_narrowed (v m x : Nat) (hv : v < B128) (hm : m < B128) (hx : x < B128) : Pure Try.prog 27 #[pv v m, nv x] (pv (v &&& x) (m &&& x)) := by
  intro w
  have SA := Lib.hid (num_and v x hv hx)
  have SB := Lib.hid (num_and m x hm hx)
  clear hv hm hx
  go_enter Try.func27, Try.ntmps27
  go_wp2
  obtain ⟨W, hW, hB, hs, ca, cb, cr, fa, fb, fr⟩ := box3 w _ _ _ 26 24 26
  rw [← hW]
  have ca0 := ca 0 (some (.int .u64 (hi v))) rfl
  have ca1 := ca 1 (some (.int .u64 (lo v))) rfl
  have ca2 := ca 2 (some (.int .u64 (hi m))) rfl
  have ca3 := ca 3 (some (.int .u64 (lo m))) rfl
  have cb0 := cb 0 (some (.int .u64 (hi x))) rfl
  have cb1 := cb 1 (some (.int .u64 (lo x))) rfl
  have cr0 := cr 0 (some (.int .u64 0)) rfl
  have cr1 := cr 1 (some (.int .u64 0)) rfl
  have cr2 := cr 2 (some (.int .u64 0)) rfl
  have cr3 := cr 3 (some (.int .u64 0)) rfl
  clear hW fa fb ca cb cr
  refine wp_region_own_tail0 9 (by kernel_rfl) (by kernel_rfl) ?_
  simp only [List.take_succ_cons, List.take_zero, List.drop_succ_cons, List.drop_zero]
  repeat (go_big_quiet_step (first | (with_reducible exact SA.out.at _ _) | (with_reducible exact SB.out.at _ _)))
  refine wpQuiet_nil ?_
  rintro _ ⟨y, rfl⟩
  go_wp2
  exact bodyPost_ret (v := pv (v &&& x) (m &&& x)) (by simp [results, Try.results27, go_sem, cr0, cr1, cr2, cr3]) rfl ⟨rfl, own_end4 hB (by omega) _ _ _ _⟩
set_option maxHeartbeats 1000000 in
theorem m_may (v m : Nat) (x : Int) (hv : v < B128) (hm : m < B128) : Pure Try.prog 6 #[pv v m, .int .i64 x] (.bool (mayB v m x)) := by
  intro w
  have S0 := Lib.hid (m_isWidth x)
  have S1 : Hid (Pure Try.prog 26 #[nv m, .int .i64 x] (.bool (fitB m x))) := num_fits m x hm
  have S2 : Hid (Pure Try.prog 27 #[pv v m, nv m] (pv (v &&& m) m)) := (m_narrowed v m m hv hm hm).eqv (by rw [Nat.and_self])
  have E : ∀ w, (binOp .eql 26 (pv (v &&& m) m) (pv v m)).run Try.prog w = .ok (.bool (decide (v &&& m = v))) w := fun w => by rw [eql_pv]; simp
  have F : Hid (mayB v m x = (wideB x && (fitB m x && decide (v &&& m = v)))) := rfl
  clear hv hm
  generalize wideB x = b0 at S0 F
  generalize fitB m x = b1 at S1 F
  generalize decide (v &&& m = v) = b2 at E F
  rw [F.out]
  clear F
  go_enter Try.func6, Try.ntmps6
  go_wp2
  obtain ⟨W, hW, hB, hs, ca, fa⟩ := box1 w _ 26
  rw [← hW]
  have ca0 := ca 0 (some (.int .u64 (hi v))) rfl
  have ca1 := ca 1 (some (.int .u64 (lo v))) rfl
  have ca2 := ca 2 (some (.int .u64 (hi m))) rfl
  have ca3 := ca 3 (some (.int .u64 (lo m))) rfl
  have hB' := Lib.hid hB
  clear hW fa ca hB hs
  cases b0 <;> cases b1
  all_goals
    refine wp_region_own0 (by kernel_rfl) (by kernel_rfl) ?_
    repeat (go_big_quiet_step (first | (with_reducible exact S0.out.at _ _) | (with_reducible exact S1.out.at _ _) | (with_reducible exact S2.out.at _ _)))
    refine wpQuiet_nil ?_
    rintro _ ⟨y, rfl⟩
    go_wp2
    go_ret
    exact ⟨rfl, plus_of_below (hB'.out.trans ((below_plus W y).mono hB'.out.size))⟩
set_option maxHeartbeats 1000000 in
theorem m_agrees (v m n : Nat) (hm : m < B128) (hn : n < B128) : Pure Try.prog 8 #[pv v m, nv n] (.bool (agrB v m n)) := by
  intro w
  have S0 := Lib.hid (num_and n m hn hm)
  have E : ∀ w, (binOp .eql 24 (nv (n &&& m)) (nv v)).run Try.prog w = .ok (.bool (agrB v m n)) w := eql_nv (n &&& m) v
  clear hm hn
  generalize agrB v m n = b0 at E
  go_enter Try.func8, Try.ntmps8
  go_wp2
  obtain ⟨W, hW, hB, hs, ca, cb, fa, fb⟩ := box2 w _ _ 26 24
  rw [← hW]
  have ca0 := ca 0 (some (.int .u64 (hi v))) rfl
  have ca1 := ca 1 (some (.int .u64 (lo v))) rfl
  have ca2 := ca 2 (some (.int .u64 (hi m))) rfl
  have ca3 := ca 3 (some (.int .u64 (lo m))) rfl
  have cb0 := cb 0 (some (.int .u64 (hi n))) rfl
  have cb1 := cb 1 (some (.int .u64 (lo n))) rfl
  have hB' := Lib.hid hB
  clear hW fa ca cb fb hB hs
  refine wp_region_own0 (by kernel_rfl) (by kernel_rfl) ?_
  repeat (go_big_quiet_step (with_reducible exact S0.out.at _ _))
  refine wpQuiet_nil ?_
  rintro _ ⟨y, rfl⟩
  go_wp2
  go_ret
  exact ⟨rfl, plus_of_below (hB'.out.trans ((below_plus W y).mono hB'.out.size))⟩
set_option maxHeartbeats 1000000 in
theorem m_within (a m b n : Nat) (x : Int) (ha : a < B128) (hm : m < B128) (hb : b < B128) (hn : n < B128) : Pure Try.prog 10 #[pv a m, pv b n, .int .i64 x] (.bool (withinB a m b n x)) := by
  intro w
  have S0 := Lib.hid (m_may a m x ha hm)
  have S1 := Lib.hid (m_may b n x hb hn)
  have S2 := Lib.hid (m_narrowed a m n ha hm hn)
  have E := eql_pv (a &&& n) (m &&& n) b n
  have F : Hid (withinB a m b n x = (mayB a m x && (mayB b n x && (decide (a &&& n = b) && decide (m &&& n = n))))) := rfl
  clear ha hm hb hn
  obtain ⟨b2, h2⟩ : ∃ c, (decide (a &&& n = b) && decide (m &&& n = n)) = c := ⟨_, rfl⟩
  rw [h2] at F
  replace E : ∀ w, (binOp .eql 26 (pv (a &&& n) (m &&& n)) (pv b n)).run Try.prog w = .ok (.bool b2) w := fun w => by rw [← h2]; exact E w
  clear h2
  obtain ⟨b0, h0⟩ : ∃ c, mayB a m x = c := ⟨_, rfl⟩
  obtain ⟨b1, h1⟩ : ∃ c, mayB b n x = c := ⟨_, rfl⟩
  rw [h0] at S0
  rw [h1] at S1
  rw [F.out, h0, h1]
  clear F h0 h1
  go_enter Try.func10, Try.ntmps10
  go_wp2
  obtain ⟨W, hW, hB, hs, ca, cb, fa, fb⟩ := box2 w _ _ 26 26
  rw [← hW]
  have ca0 := ca 0 (some (.int .u64 (hi a))) rfl
  have ca1 := ca 1 (some (.int .u64 (lo a))) rfl
  have ca2 := ca 2 (some (.int .u64 (hi m))) rfl
  have ca3 := ca 3 (some (.int .u64 (lo m))) rfl
  have cb0 := cb 0 (some (.int .u64 (hi b))) rfl
  have cb1 := cb 1 (some (.int .u64 (lo b))) rfl
  have cb2 := cb 2 (some (.int .u64 (hi n))) rfl
  have cb3 := cb 3 (some (.int .u64 (lo n))) rfl
  have hB' := Lib.hid hB
  clear hW fa ca cb fb hB hs
  cases b0 <;> cases b1
  all_goals
    refine wp_region_own0 (by kernel_rfl) (by kernel_rfl) ?_
    repeat (go_big_quiet_step (first | (with_reducible exact S0.out.at _ _) | (with_reducible exact S1.out.at _ _) | (with_reducible exact S2.out.at _ _)))
    refine wpQuiet_nil ?_
    rintro _ ⟨y, rfl⟩
    go_wp2
    go_ret
    exact ⟨rfl, plus_of_below (hB'.out.trans ((below_plus W y).mono hB'.out.size))⟩
set_option maxHeartbeats 1000000 in
theorem m_meet (a m b n : Nat) (x : Int) (ha : a < B128) (hm : m < B128) (hb : b < B128) (hn : n < B128) : Pure Try.prog 12 #[pv a m, pv b n, .int .i64 x] (.bool (meetB a m b n x)) := by
  intro w
  have S0 := Lib.hid (m_may a m x ha hm)
  have S1 := Lib.hid (m_may b n x hb hn)
  have S2 := Lib.hid (m_narrowed a m n ha hm hn)
  have S3 := Lib.hid (m_narrowed b n m hb hn hm)
  have E := eql_pv (a &&& n) (m &&& n) (b &&& m) (n &&& m)
  have F : Hid (meetB a m b n x = (mayB a m x && (mayB b n x && (decide (a &&& n = b &&& m) && decide (m &&& n = n &&& m))))) := rfl
  clear ha hm hb hn
  obtain ⟨b2, h2⟩ : ∃ c, (decide (a &&& n = b &&& m) && decide (m &&& n = n &&& m)) = c := ⟨_, rfl⟩
  rw [h2] at F
  replace E : ∀ w, (binOp .eql 26 (pv (a &&& n) (m &&& n)) (pv (b &&& m) (n &&& m))).run Try.prog w = .ok (.bool b2) w := fun w => by rw [← h2]; exact E w
  clear h2
  obtain ⟨b0, h0⟩ : ∃ c, mayB a m x = c := ⟨_, rfl⟩
  obtain ⟨b1, h1⟩ : ∃ c, mayB b n x = c := ⟨_, rfl⟩
  rw [h0] at S0
  rw [h1] at S1
  rw [F.out, h0, h1]
  clear F h0 h1
  go_enter Try.func12, Try.ntmps12
  go_wp2
  obtain ⟨W, hW, hB, hs, ca, cb, fa, fb⟩ := box2 w _ _ 26 26
  rw [← hW]
  have ca0 := ca 0 (some (.int .u64 (hi a))) rfl
  have ca1 := ca 1 (some (.int .u64 (lo a))) rfl
  have ca2 := ca 2 (some (.int .u64 (hi m))) rfl
  have ca3 := ca 3 (some (.int .u64 (lo m))) rfl
  have cb0 := cb 0 (some (.int .u64 (hi b))) rfl
  have cb1 := cb 1 (some (.int .u64 (lo b))) rfl
  have cb2 := cb 2 (some (.int .u64 (hi n))) rfl
  have cb3 := cb 3 (some (.int .u64 (lo n))) rfl
  have hB' := Lib.hid hB
  clear hW fa ca cb fb hB hs
  cases b0 <;> cases b1
  all_goals
    refine wp_region_own0 (by kernel_rfl) (by kernel_rfl) ?_
    repeat (go_big_quiet_step (first | (with_reducible exact S0.out.at _ _) | (with_reducible exact S1.out.at _ _) | (with_reducible exact S2.out.at _ _) | (with_reducible exact S3.out.at _ _)))
    refine wpQuiet_nil ?_
    rintro _ ⟨y, rfl⟩
    go_wp2
    go_ret
    exact ⟨rfl, plus_of_below (hB'.out.trans ((below_plus W y).mono hB'.out.size))⟩
end Go.Proofs.Ytjfkkikbcmglnaa
