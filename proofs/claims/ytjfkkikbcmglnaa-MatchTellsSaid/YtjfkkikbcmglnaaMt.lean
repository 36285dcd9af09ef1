/-
  WHAT IS PROVED HERE: what the document's Masked, Top, Prefix and Exact of layer 11 hand back, for all numbers of 128 bits and all widths, in whatever world. No condition but that the halves are of 64 bits.
-/
import Derived.Test.YtjfkkikbcmglnaaMd
import Derived.Test.YtjfkkikbcmglnaaMr
namespace Go.Proofs.Ytjfkkikbcmglnaa
open Go.RowKit
set_option maxRecDepth 100000 in
set_option maxHeartbeats 2000000 in
theorem ref_masked (n m : Nat) (x : Int) (hn : n < B128) (hm : m < B128) : Pure Try.prog 19 #[nv n, nv m, .int .i64 x] (maskT n m x) := by
  intro w
  have S1 : Pure Try.prog 33 #[nv n, .int .i64 x] (.bool (fitB n x)) := ref_fits n x hn
  have S2 : Pure Try.prog 33 #[nv m, .int .i64 x] (.bool (fitB m x)) := ref_fits m x hm
  have S3 := ref_and n m hn hm
  clear hn hm
  have hC := maskE_cases n m x
  have hno : Hid (∀ e : Int, maskE n m x = e → e ≠ 0 → Value.tuple #[.agg #[.int .u64 0, .int .u64 0, .int .u64 0, .int .u64 0], .int .i64 e] = maskT n m x) := fun e h g => maskT_no h g
  have hyes := Lib.hid (@maskT_yes n m x)
  obtain ⟨E, hE⟩ : ∃ E, maskE n m x = E := ⟨_, rfl⟩
  obtain ⟨R, hR⟩ : ∃ R, maskT n m x = R := ⟨_, rfl⟩
  rw [hE] at hC hyes hno
  rw [hR] at hno hyes ⊢
  clear hR
  have hX : (wideB x = false → x < 1 ∨ 128 < x) ∧ (wideB x = true → ¬ x < 1 ∧ ¬ 128 < x) := by
    unfold wideB
    constructor
    · intro h
      by_cases g : x < 1
      · exact .inl g
      · rw [decide_eq_true (show 1 ≤ x by omega), Bool.true_and, decide_eq_false_iff_not] at h
        exact .inr (by omega)
    · intro h
      simp only [Bool.and_eq_true, decide_eq_true_eq] at h
      omega
  generalize fitB n x = b1 at S1 hC
  generalize fitB m x = b2 at S2 hC
  have T1 := Lib.hid S1
  have T2 := Lib.hid S2
  have T3 := Lib.hid S3
  have hC' := Lib.hid hC
  have hX' := Lib.hid hX
  clear S1 S2 S3 hE hC hX
  go_enter Try.func19, Try.ntmps19
  go_upto_region 1 with (fail)
  obtain ⟨W, hW, hB, hs, ca, cb, cr, fa, fb, fr⟩ := box3 w _ _ _ 24 24 26
  rw [← hW, ← plus_self W]
  have ca0 := ca 0 (some (.int .u64 (hi n))) rfl
  have ca1 := ca 1 (some (.int .u64 (lo n))) rfl
  have cb0 := cb 0 (some (.int .u64 (hi m))) rfl
  have cb1 := cb 1 (some (.int .u64 (lo m))) rfl
  have cr0 := cr 0 (some (.int .u64 0)) rfl
  have cr1 := cr 1 (some (.int .u64 0)) rfl
  have cr2 := cr 2 (some (.int .u64 0)) rfl
  have cr3 := cr 3 (some (.int .u64 0)) rfl
  clear hW fa fb ca cb cr
  have hB' := Lib.hid hB
  clear hB
  have q1 := Lib.hid (fun y => T1.out.at W y)
  have q2 := Lib.hid (fun y => T2.out.at W y)
  rcases hC'.out with ⟨hw, rfl⟩ | ⟨hw, rfl, rfl⟩ | ⟨hw, rfl, rfl, rfl⟩ | ⟨hw, rfl, rfl, rfl⟩
  · have hF := Lib.hid (hno.out _ rfl (by decide))
    rcases hX'.out.1 hw with h | h
    · clear hw hX' hC' hno hyes
      go_wp2
      exact bodyPost_ret (v := .tuple #[.agg #[.int .u64 0, .int .u64 0, .int .u64 0, .int .u64 0], .int .i64 2]) (by simp [results, Try.results19, go_sem, cr0, cr1, cr2, cr3]) rfl ⟨congrArg Ending.returned hF.out, own_end4 hB'.out (by omega) _ _ _ _⟩
    · have h' : ¬ x < 1 := by omega
      clear hw hX' hC' hno hyes
      go_wp2
      exact bodyPost_ret (v := .tuple #[.agg #[.int .u64 0, .int .u64 0, .int .u64 0, .int .u64 0], .int .i64 2]) (by simp [results, Try.results19, go_sem, cr0, cr1, cr2, cr3]) rfl ⟨congrArg Ending.returned hF.out, own_end4 hB'.out (by omega) _ _ _ _⟩
  · have hF := Lib.hid (hno.out _ rfl (by decide))
    obtain ⟨h1, h2⟩ := hX'.out.2 hw
    clear hw hX' hC' hno hyes
    go_wp2_with (first | (with_reducible refine (q1.out _).mono ?_; rintro r w' ⟨rfl, x, rfl⟩) | (with_reducible refine (q2.out _).mono ?_; rintro r w' ⟨rfl, x, rfl⟩))
    exact bodyPost_ret (v := .tuple #[.agg #[.int .u64 0, .int .u64 0, .int .u64 0, .int .u64 0], .int .i64 5]) (by simp [results, Try.results19, go_sem, cr0, cr1, cr2, cr3]) rfl ⟨congrArg Ending.returned hF.out, own_end4 hB'.out (by omega) _ _ _ _⟩
  · have hF := Lib.hid (hno.out _ rfl (by decide))
    obtain ⟨h1, h2⟩ := hX'.out.2 hw
    clear hw hX' hC' hno hyes
    go_wp2_with (first | (with_reducible refine (q1.out _).mono ?_; rintro r w' ⟨rfl, x, rfl⟩) | (with_reducible refine (q2.out _).mono ?_; rintro r w' ⟨rfl, x, rfl⟩))
    exact bodyPost_ret (v := .tuple #[.agg #[.int .u64 0, .int .u64 0, .int .u64 0, .int .u64 0], .int .i64 5]) (by simp [results, Try.results19, go_sem, cr0, cr1, cr2, cr3]) rfl ⟨congrArg Ending.returned hF.out, own_end4 hB'.out (by omega) _ _ _ _⟩
  · have hF := Lib.hid (hyes.out rfl)
    obtain ⟨h1, h2⟩ := hX'.out.2 hw
    clear hw hX' hC' hno hyes
    go_upto_region 5 with (first | (with_reducible refine (q1.out _).mono ?_; rintro r w' ⟨rfl, x, rfl⟩) | (with_reducible refine (q2.out _).mono ?_; rintro r w' ⟨rfl, x, rfl⟩))
    refine wp_region_own_tail 5 (by kernel_rfl) (by decide +kernel) ?_
    simp only [List.take_succ_cons, List.take_zero, List.drop_succ_cons, List.drop_zero]
    repeat (go_big_quiet_step (with_reducible exact T3.out.at _ _))
    refine wpQuiet_nil ?_
    rintro _ ⟨y, rfl⟩
    go_wp2
    exact bodyPost_ret (v := .tuple #[pv (n &&& m) m, .int .i64 0]) (by simp [results, Try.results19, go_sem, cr0, cr1, cr2, cr3]) rfl ⟨congrArg Ending.returned hF.out, own_end4 hB'.out (by omega) _ _ _ _⟩
set_option maxRecDepth 100000 in
set_option maxHeartbeats 1000000 in
theorem ref_top (k x : Int) (h0 : 0 ≤ k) (h1 : k ≤ x) (h2 : x ≤ 128) : Pure Try.prog 32 #[.int .i64 k, .int .i64 x] (nv (topN k x)) := by
  intro w
  have S0 := Lib.hid (ref_mask x)
  have S1 := Lib.hid (ref_mask (x - k))
  have S2 : Hid (Pure Try.prog 43 #[nv (2 ^ hw x - 1), nv (2 ^ hw (x - k) - 1)] (nv (topN k x))) := ref_xor _ _ (mask_lt x) (mask_lt (x - k))
  go_enter Try.func32, Try.ntmps32
  go_upto_region 1 with (fail)
  obtain ⟨W, hW, hB, hs, cr, fr⟩ := box1 w _ 24
  rw [← hW, ← plus_self W]
  have cr0 := cr 0 (some (.int .u64 0)) rfl
  have cr1 := cr 1 (some (.int .u64 0)) rfl
  have q0 := Lib.hid (fun y => S0.out.at W y)
  have q1 := Lib.hid (fun y => S1.out.at W y)
  have q2 := Lib.hid (fun y => S2.out.at W y)
  clear hW cr S0 S1 S2
  go_wp2_with (first | (with_reducible refine (q0.out _).mono ?_; rintro r w' ⟨rfl, y, rfl⟩) | (with_reducible refine (q1.out _).mono ?_; rintro r w' ⟨rfl, y, rfl⟩) | (with_reducible refine (q2.out _).mono ?_; rintro r w' ⟨rfl, y, rfl⟩))
  exact bodyPost_ret (v := nv (topN k x)) (by simp [results, Try.results32, go_sem, cr0, cr1]) rfl ⟨rfl, own_end hB (Nat.le_refl _) _ _⟩
theorem exact_pre (n : Nat) (x : Int) : maskT n (2 ^ hw x - 1) x = preT n x x := by
  have h0 : hw (x - x) = 0 := by rw [Int.sub_self]; rfl
  have e : topN x x = 2 ^ hw x - 1 := by unfold topN; rw [h0]; simp
  by_cases hw : wideB x = true
  · have h1 : 1 ≤ x := by unfold wideB at hw; simp only [Bool.and_eq_true, decide_eq_true_eq] at hw; exact hw.1
    rw [← preT_yes hw (by omega) (Int.le_refl x), e]
  · have e1 : maskE n (2 ^ Go.Proofs.Ytjfkkikbcmglnaa.hw x - 1) x = 2 := by unfold maskE; rw [if_neg hw]
    have e2 : preE n x x = 2 := by unfold preE; rw [if_neg hw]
    rw [← maskT_no e1 (by decide), ← preT_no e2 (by decide)]
set_option maxRecDepth 100000 in
set_option maxHeartbeats 1000000 in
theorem ref_exact (n : Nat) (x : Int) (hn : n < B128) : Pure Try.prog 15 #[nv n, .int .i64 x] (preT n x x) := by
  intro w
  have S0 := Lib.hid (ref_mask x)
  have S1 := (ref_masked n (2 ^ hw x - 1) x hn (mask_lt x)).eqv (exact_pre n x)
  clear hn
  unfold preT at S1 ⊢
  generalize preV n x x = vv at S1 ⊢
  generalize preM n x x = mm at S1 ⊢
  generalize preE n x x = ee at S1 ⊢
  have S1' := Lib.hid S1
  clear S1
  go_enter Try.func15, Try.ntmps15
  go_upto_region 1 with (fail)
  obtain ⟨W, hW, hB, hs, ca, cr, fa, fr⟩ := box2 w _ _ 24 26
  rw [← hW, ← plus_self W]
  have ca0 := ca 0 (some (.int .u64 (hi n))) rfl
  have ca1 := ca 1 (some (.int .u64 (lo n))) rfl
  have cr0 := cr 0 (some (.int .u64 0)) rfl
  have cr1 := cr 1 (some (.int .u64 0)) rfl
  have cr2 := cr 2 (some (.int .u64 0)) rfl
  have cr3 := cr 3 (some (.int .u64 0)) rfl
  clear hW fa ca cr
  refine wp_region_own_tail 7 (by kernel_rfl) (by decide +kernel) ?_
  simp only [List.take_succ_cons, List.take_zero, List.drop_succ_cons, List.drop_zero]
  repeat (go_big_quiet_step (first | (with_reducible exact S0.out.at _ _) | (with_reducible exact S1'.out.at _ _)))
  refine wpQuiet_nil ?_
  rintro _ ⟨y, rfl⟩
  go_wp2
  exact bodyPost_ret (v := .tuple #[pv vv mm, .int .i64 ee]) (by simp [results, Try.results15, go_sem, cr0, cr1, cr2, cr3]) rfl ⟨rfl, own_end4 hB (by omega) _ _ _ _⟩
set_option maxRecDepth 100000 in
set_option maxHeartbeats 2000000 in
theorem ref_prefix (n : Nat) (k x : Int) (hn : n < B128) : Pure Try.prog 17 #[nv n, .int .i64 k, .int .i64 x] (preT n k x) := by
  intro w
  have F2 : ∀ e : Int, preE n k x = e → e ≠ 0 → Value.tuple #[.agg #[.int .u64 0, .int .u64 0, .int .u64 0, .int .u64 0], .int .i64 e] = preT n k x := fun e h g => preT_no h g
  have key : (∃ e : Int, (e = 2 ∧ (x < 1 ∨ ¬ x < 1 ∧ 128 < x) ∨ e = 5 ∧ ¬ x < 1 ∧ ¬ 128 < x ∧ (k < 0 ∨ ¬ k < 0 ∧ x < k)) ∧ Value.tuple #[.agg #[.int .u64 0, .int .u64 0, .int .u64 0, .int .u64 0], .int .i64 e] = preT n k x) ∨ (¬ x < 1 ∧ ¬ 128 < x ∧ ¬ k < 0 ∧ ¬ x < k ∧ wideB x = true) := by
    by_cases h1 : x < 1
    · exact .inl ⟨2, .inl ⟨rfl, .inl h1⟩, F2 2 (by unfold preE wideB; rw [decide_eq_false (show ¬ 1 ≤ x by omega)]; rfl) (by decide)⟩
    by_cases h2 : 128 < x
    · exact .inl ⟨2, .inl ⟨rfl, .inr ⟨h1, h2⟩⟩, F2 2 (by unfold preE wideB; rw [decide_eq_false (show ¬ x ≤ 128 by omega), Bool.and_false]; rfl) (by decide)⟩
    have hw : wideB x = true := by unfold wideB; rw [decide_eq_true (show 1 ≤ x by omega), decide_eq_true (show x ≤ 128 by omega)]; rfl
    by_cases h3 : k < 0
    · exact .inl ⟨5, .inr ⟨rfl, h1, h2, .inl h3⟩, F2 5 (by unfold preE; rw [if_pos hw, if_pos (.inl h3)]) (by decide)⟩
    by_cases h4 : x < k
    · exact .inl ⟨5, .inr ⟨rfl, h1, h2, .inr ⟨h3, h4⟩⟩, F2 5 (by unfold preE; rw [if_pos hw, if_pos (.inr h4)]) (by decide)⟩
    exact .inr ⟨h1, h2, h3, h4, hw⟩
  clear F2
  rcases key with ⟨e, hc, hF⟩ | ⟨h1, h2, h3, h4, hw⟩
  · have hF' := Lib.hid hF
    clear hF hn
    generalize preT n k x = R at hF' ⊢
    rcases hc with ⟨rfl, h1 | ⟨h1, h2⟩⟩ | ⟨rfl, h1, h2, h3 | ⟨h3, h4⟩⟩
    all_goals
      go_enter Try.func17, Try.ntmps17
      go_upto_region 1 with (fail)
      obtain ⟨W, hW, hB, hs, ca, cr, fa, fr⟩ := box2 w _ _ 24 26
      rw [← hW, ← plus_self W]
      have cr0 := cr 0 (some (.int .u64 0)) rfl
      have cr1 := cr 1 (some (.int .u64 0)) rfl
      have cr2 := cr 2 (some (.int .u64 0)) rfl
      have cr3 := cr 3 (some (.int .u64 0)) rfl
      clear hW fa ca cr
      go_wp2
      exact bodyPost_ret (v := .tuple #[.agg #[.int .u64 0, .int .u64 0, .int .u64 0, .int .u64 0], .int .i64 _]) (by simp [results, Try.results17, go_sem, cr0, cr1, cr2, cr3]) rfl ⟨congrArg Ending.returned hF'.out, own_end4 hB (by omega) _ _ _ _⟩
  have hF := Lib.hid (@preT_yes n k x hw (by omega) (by omega))
  have hM := Lib.hid (ref_masked n (topN k x) x hn (topN_lt k x))
  have hT := Lib.hid (ref_top k x (by omega) (by omega) (by omega))
  unfold maskT at hM hF
  clear hn hw
  generalize preT n k x = R at hF ⊢
  generalize topN k x = M at hM hF hT
  generalize maskV n M x = vv at hM hF
  generalize maskM n M x = mm at hM hF
  generalize maskE n M x = ee at hM hF
  go_enter Try.func17, Try.ntmps17
  go_upto_region 1 with (fail)
  obtain ⟨W, hW, hB, hs, ca, cr, fa, fr⟩ := box2 w _ _ 24 26
  rw [← hW, ← plus_self W]
  have ca0 := ca 0 (some (.int .u64 (hi n))) rfl
  have ca1 := ca 1 (some (.int .u64 (lo n))) rfl
  have cr0 := cr 0 (some (.int .u64 0)) rfl
  have cr1 := cr 1 (some (.int .u64 0)) rfl
  have cr2 := cr 2 (some (.int .u64 0)) rfl
  have cr3 := cr 3 (some (.int .u64 0)) rfl
  clear hW fa ca cr
  go_upto_region 5 with (fail)
  refine wp_region_own_tail 8 (by kernel_rfl) (by decide +kernel) ?_
  simp only [List.take_succ_cons, List.take_zero, List.drop_succ_cons, List.drop_zero]
  repeat (go_big_quiet_step (first | (with_reducible exact hT.out.at _ _) | (with_reducible exact hM.out.at _ _)))
  refine wpQuiet_nil ?_
  rintro _ ⟨y, rfl⟩
  go_wp2
  exact bodyPost_ret (v := .tuple #[pv vv mm, .int .i64 ee]) (by simp [results, Try.results17, go_sem, cr0, cr1, cr2, cr3]) rfl ⟨congrArg Ending.returned hF.out, own_end4 hB (by omega) _ _ _ _⟩
end Go.Proofs.Ytjfkkikbcmglnaa
