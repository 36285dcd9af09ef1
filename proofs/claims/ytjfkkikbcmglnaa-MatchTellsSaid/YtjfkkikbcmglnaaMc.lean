/-
  WHAT IS PROVED HERE: what match.Masked, match.masks and its literal hand back, for all numbers of 128 bits and all widths, in whatever world. No condition but that the halves are of 64 bits.
-/
import Derived.WalkKit
import Derived.Lib.Hide
import Derived.Test.YtjfkkikbcmglnaaRows
import Derived.Test.YtjfkkikbcmglnaaMb
import Derived.WalkSpells
import Derived.WalkLawsBesides
import Derived.BigRegion
import Derived.Deep.CutRange
namespace Go.Proofs.Ytjfkkikbcmglnaa
open Go.RowKit
abbrev maskT (n m : Nat) (x : Int) : Value := .tuple #[pv (maskV n m x) (maskM n m x), .int .i64 (maskE n m x)]
theorem maskT_no {n m : Nat} {x : Int} {e : Int} (h : maskE n m x = e) (he : e ≠ 0) : Value.tuple #[.agg #[.int .u64 0, .int .u64 0, .int .u64 0, .int .u64 0], .int .i64 e] = maskT n m x := by
  unfold maskT maskV maskM
  rw [h, if_neg he, if_neg he]; rfl
theorem maskT_yes {n m : Nat} {x : Int} (h : maskE n m x = 0) : Value.tuple #[pv (n &&& m) m, .int .i64 0] = maskT n m x := by
  unfold maskT maskV maskM
  rw [h, if_pos rfl, if_pos rfl]
set_option maxHeartbeats 2000000 in
theorem m_masked (n m : Nat) (x : Int) (hn : n < B128) (hm : m < B128) : Pure Try.prog 18 #[nv n, nv m, .int .i64 x] (maskT n m x) := by
  intro w
  have S0 := m_isWidth x
  have S1 : Pure Try.prog 26 #[nv n, .int .i64 x] (.bool (fitB n x)) := num_fits n x hn
  have S2 : Pure Try.prog 26 #[nv m, .int .i64 x] (.bool (fitB m x)) := num_fits m x hm
  have S3 := num_and n m hn hm
  clear hn hm
  have hC := Lib.hid (maskE_cases n m x)
  have hno : Hid (∀ e : Int, maskE n m x = e → e ≠ 0 → Value.tuple #[.agg #[.int .u64 0, .int .u64 0, .int .u64 0, .int .u64 0], .int .i64 e] = maskT n m x) := fun e h g => maskT_no h g
  have hyes := Lib.hid (@maskT_yes n m x)
  obtain ⟨E, hE⟩ : ∃ E, maskE n m x = E := ⟨_, rfl⟩
  obtain ⟨R, hR⟩ : ∃ R, maskT n m x = R := ⟨_, rfl⟩
  rw [hE] at hC hyes hno
  rw [hR] at hno hyes ⊢
  clear hR
  generalize wideB x = b0 at S0 hC
  generalize fitB n x = b1 at S1 hC
  generalize fitB m x = b2 at S2 hC
  have T0 := Lib.hid S0
  have T1 := Lib.hid S1
  have T2 := Lib.hid S2
  have T3 := Lib.hid S3
  clear S0 S1 S2 S3 hE
  go_enter Try.func18, Try.ntmps18
  go_wp2_with fail
  obtain ⟨W, hW, hB, hs, ca, cb, cr, fa, fb, fr⟩ := box3 w _ _ _ 24 24 26
  rw [← hW]
  have ca0 := ca 0 (some (.int .u64 (hi n))) rfl
  have ca1 := ca 1 (some (.int .u64 (lo n))) rfl
  have cb0 := cb 0 (some (.int .u64 (hi m))) rfl
  have cb1 := cb 1 (some (.int .u64 (lo m))) rfl
  have cr0 := cr 0 (some (.int .u64 0)) rfl
  have cr1 := cr 1 (some (.int .u64 0)) rfl
  have cr2 := cr 2 (some (.int .u64 0)) rfl
  have cr3 := cr 3 (some (.int .u64 0)) rfl
  clear hW fa fb ca cb cr
  have hB' := Lib.hid hB
  clear hB
  have q1 := Lib.hid (fun y => T1.out.at W y)
  have q2 := Lib.hid (fun y => T2.out.at W y)
  refine (T0.out W).mono ?_
  rintro e w' ⟨rfl, y, rfl⟩
  rcases hC.out with ⟨rfl, rfl⟩ | ⟨rfl, rfl, rfl⟩ | ⟨rfl, rfl, rfl, rfl⟩ | ⟨rfl, rfl, rfl, rfl⟩
  · go_wp2
    exact bodyPost_ret (v := .tuple #[.agg #[.int .u64 0, .int .u64 0, .int .u64 0, .int .u64 0], .int .i64 2]) (by simp [results, Try.results18, go_sem, cr0, cr1, cr2, cr3]) rfl ⟨congrArg Ending.returned (hno.out _ rfl (by decide)), own_end4 hB'.out (by omega) _ _ _ _⟩
  · go_wp2_with (first | (with_reducible refine (q1.out _).mono ?_; rintro r w' ⟨rfl, x, rfl⟩) | (with_reducible refine (q2.out _).mono ?_; rintro r w' ⟨rfl, x, rfl⟩))
    exact bodyPost_ret (v := .tuple #[.agg #[.int .u64 0, .int .u64 0, .int .u64 0, .int .u64 0], .int .i64 5]) (by simp [results, Try.results18, go_sem, cr0, cr1, cr2, cr3]) rfl ⟨congrArg Ending.returned (hno.out _ rfl (by decide)), own_end4 hB'.out (by omega) _ _ _ _⟩
  · go_wp2_with (first | (with_reducible refine (q1.out _).mono ?_; rintro r w' ⟨rfl, x, rfl⟩) | (with_reducible refine (q2.out _).mono ?_; rintro r w' ⟨rfl, x, rfl⟩))
    exact bodyPost_ret (v := .tuple #[.agg #[.int .u64 0, .int .u64 0, .int .u64 0, .int .u64 0], .int .i64 5]) (by simp [results, Try.results18, go_sem, cr0, cr1, cr2, cr3]) rfl ⟨congrArg Ending.returned (hno.out _ rfl (by decide)), own_end4 hB'.out (by omega) _ _ _ _⟩
  · go_upto_region 5 with (first | (with_reducible refine (q1.out _).mono ?_; rintro r w' ⟨rfl, x, rfl⟩) | (with_reducible refine (q2.out _).mono ?_; rintro r w' ⟨rfl, x, rfl⟩))
    refine wp_region_own_tail 5 (by kernel_rfl) (by decide +kernel) ?_
    simp only [List.take_succ_cons, List.take_zero, List.drop_succ_cons, List.drop_zero]
    repeat (go_big_quiet_step (with_reducible exact T3.out.at _ _))
    refine wpQuiet_nil ?_
    rintro _ ⟨y, rfl⟩
    go_wp2
    exact bodyPost_ret (v := .tuple #[pv (n &&& m) m, .int .i64 0]) (by simp [results, Try.results18, go_sem, cr0, cr1, cr2, cr3]) rfl ⟨congrArg Ending.returned (hyes.out trivial), own_end4 hB'.out (by omega) _ _ _ _⟩
set_option maxHeartbeats 1000000 in
/-- masks: a literal that keeps the mask of the whole width, and the width, in memory of its own. -/
theorem m_masks (x : Int) (w : World) : Calls Try.prog 31 #[.int .i64 x] w fun e w' => ∃ p q, e = .returned (.func (.func 41) #[] #[.pointer (some ⟨p, 0, none⟩), .pointer (some ⟨q, 0, none⟩)]) ∧ Below w.heap.size w w' ∧ p < w'.heap.size ∧ q < w'.heap.size ∧
    w'.cell? ⟨p, 0, none⟩ = some (.int .u64 (hi (2 ^ hw x - 1))) ∧ w'.cell? ⟨p, 1, none⟩ = some (.int .u64 (lo (2 ^ hw x - 1))) ∧ w'.cell? ⟨q, 0, none⟩ = some (.int .i64 x) := by
  have S0 := Lib.hid (num_mask x)
  go_enter Try.func31, Try.ntmps31
  go_wp2_with fail
  obtain ⟨W, hW, hB, hs, ca, fa⟩ := box1 w _ 3
  rw [← hW]
  have ca0 := ca 0 (some (.int .i64 x)) rfl
  clear hW ca fa
  refine (S0.out W).mono ?_
  rintro e w' ⟨rfl, y, rfl⟩
  go_wp2
  go_ret
  have hp := size_plus W y
  have hB2 := hB.trans ((below_plus W y).mono hB.size)
  refine ⟨_, _, rfl, hB2.alloc (by omega) _, by simp, by simp; omega, cell_new _ _ _ _ 0 rfl, cell_new _ _ _ _ 1 rfl, (cell_old _ _ _ 0 (by omega)).trans (ca0 y)⟩
def topN (k x : Int) : Nat := (2 ^ hw x - 1) ^^^ (2 ^ hw (x - k) - 1)
theorem topN_lt (k x : Int) : topN k x < B128 := by
  unfold topN
  rw [b128]
  exact Nat.xor_lt_two_pow (by rw [← b128]; exact mask_lt x) (by rw [← b128]; exact mask_lt (x - k))
set_option maxHeartbeats 1000000 in
theorem m_mask1 (k x : Int) (U : World) (p q : Nat) (h0 : 0 ≤ k) (h1 : k ≤ x) (h2 : x ≤ 128) (hp : p < U.heap.size) (hq : q < U.heap.size) (d0 : U.cell? ⟨p, 0, none⟩ = some (.int .u64 (hi (2 ^ hw x - 1)))) (d1 : U.cell? ⟨p, 1, none⟩ = some (.int .u64 (lo (2 ^ hw x - 1)))) (d2 : U.cell? ⟨q, 0, none⟩ = some (.int .i64 x)) :
    Calls Try.prog 41 #[.int .i64 k, .pointer (some ⟨p, 0, none⟩), .pointer (some ⟨q, 0, none⟩)] U fun e w' => e = .returned (nv (topN k x)) ∧ ∃ y, w' = plus U y := by
  have S0 := Lib.hid (num_mask (x - k))
  have S1 : Hid (Pure Try.prog 42 #[nv (2 ^ hw x - 1), nv (2 ^ hw (x - k) - 1)] (nv (topN k x))) := num_xor _ _ (mask_lt x) (mask_lt (x - k))
  go_enter Try.func41, Try.ntmps41
  go_wp2
  obtain ⟨W, hW, hB, hs, cr, fr⟩ := box1 U _ 24
  rw [← hW]
  have e0 : ∀ y, (plus W y).cell? ⟨p, 0, none⟩ = some (.int .u64 (hi (2 ^ hw x - 1))) := fun y => (cell_plus W y p 0 (by omega)).trans (by rw [hW]; exact (cell_old U _ p 0 hp).trans d0)
  have e1 : ∀ y, (plus W y).cell? ⟨p, 1, none⟩ = some (.int .u64 (lo (2 ^ hw x - 1))) := fun y => (cell_plus W y p 1 (by omega)).trans (by rw [hW]; exact (cell_old U _ p 1 hp).trans d1)
  have e2 : ∀ y, (plus W y).cell? ⟨q, 0, none⟩ = some (.int .i64 x) := fun y => (cell_plus W y q 0 (by omega)).trans (by rw [hW]; exact (cell_old U _ q 0 hq).trans d2)
  have cr0 := cr 0 (some (.int .u64 0)) rfl
  have cr1 := cr 1 (some (.int .u64 0)) rfl
  have hB' := Lib.hid hB
  clear hW cr d0 d1 d2 hp hq hB hs
  refine wp_region_own_tail0 6 (by kernel_rfl) (by kernel_rfl) ?_
  simp only [List.take_succ_cons, List.take_zero, List.drop_succ_cons, List.drop_zero]
  repeat (go_big_quiet_step (first | (with_reducible exact S0.out.at _ _) | (with_reducible exact S1.out.at _ _)))
  refine wpQuiet_nil ?_
  rintro _ ⟨y, rfl⟩
  go_wp2
  exact bodyPost_ret (v := nv (topN k x)) (by simp [results, Try.results41, go_sem, cr0, cr1]) rfl ⟨rfl, own_end hB'.out (Nat.le_refl _) _ _⟩
end Go.Proofs.Ytjfkkikbcmglnaa
