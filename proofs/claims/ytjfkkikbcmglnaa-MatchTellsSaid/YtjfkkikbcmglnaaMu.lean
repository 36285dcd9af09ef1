/-
  WHAT IS PROVED HERE: what both packages' Length and Ahead of layer 11 hand back, for all patterns of two numbers of 128 bits and all widths, in whatever world. No condition but that the halves are of 64 bits.
-/
import Derived.Test.YtjfkkikbcmglnaaMq
import Derived.Test.YtjfkkikbcmglnaaMs
namespace Go.Proofs.Ytjfkkikbcmglnaa
open Go.RowKit
theorem lens_no {v m : Nat} {x : Int} (h : mayB v m x = false) : lenL v m x = 0 ∧ lenB v m x = false := by
  unfold lenL lenB
  rw [h]; exact ⟨rfl, rfl⟩
theorem lens_some {v m u l : Nat} (h : mayB v m (u : Int) = true) (e : lenF m u = some l) : lenL v m (u : Int) = l ∧ lenB v m (u : Int) = true := by
  unfold lenL lenB
  rw [h, Int.toNat_natCast, e]; exact ⟨rfl, rfl⟩
theorem lens_none {v m u : Nat} (h : mayB v m (u : Int) = true) (e : lenF m u = none) : lenL v m (u : Int) = 0 ∧ lenB v m (u : Int) = false := by
  unfold lenL lenB
  rw [h, Int.toNat_natCast, e]; exact ⟨rfl, rfl⟩
abbrev lenT (v m : Nat) (x : Int) : Value := .tuple #[.int .i64 (lenL v m x), .bool (lenB v m x)]
theorem lenT_no {v m : Nat} {x : Int} (h : mayB v m x = false) : Value.tuple #[.int .i64 0, .bool false] = lenT v m x := by
  unfold lenT; rw [(lens_no h).1, (lens_no h).2]
theorem lenT_some {v m u l : Nat} (h : mayB v m (u : Int) = true) (e : lenF m u = some l) : Value.tuple #[.int .i64 (l : Int), .bool true] = lenT v m (u : Int) := by
  unfold lenT; rw [(lens_some h e).1, (lens_some h e).2]
theorem lenT_none {v m u : Nat} (h : mayB v m (u : Int) = true) (e : lenF m u = none) : Value.tuple #[.int .i64 0, .bool false] = lenT v m (u : Int) := by
  unfold lenT; rw [(lens_none h e).1, (lens_none h e).2]
set_option maxRecDepth 100000 in
set_option maxHeartbeats 2000000 in
theorem m_length (v m : Nat) (x : Int) (hv : v < B128) (hm : m < B128) : Pure Try.prog 20 #[pv v m, .int .i64 x] (lenT v m x) := by
  intro w
  have T0 := m_may v m x hv hm
  have hK := Lib.hid (m_masks x)
  have h0 : mayB v m x = false → Value.tuple #[.int .i64 0, .bool false] = lenT v m x := fun h => lenT_no h
  have h1 : ∀ u : Nat, x = u → mayB v m x = true → (∀ l : Nat, l ≤ u → topN (l : Int) (u : Int) = m → (∀ j : Nat, j < l → topN (j : Int) (u : Int) ≠ m) → Value.tuple #[.int .i64 (l : Int), .bool true] = lenT v m x) ∧ ((∀ j : Nat, j < u + 1 → topN (j : Int) (u : Int) ≠ m) → Value.tuple #[.int .i64 0, .bool false] = lenT v m x) := fun u hu h => by
    subst hu
    exact ⟨fun l hl e hf => lenT_some h (lenF_some hl e hf), fun hf => lenT_none h (lenF_none fun l hl => hf l (by omega))⟩
  have hw : mayB v m x = true → 1 ≤ x ∧ x ≤ 128 := fun h => (may_and h).2.2
  have hE := Lib.hid eql_nv
  clear hv hm
  obtain ⟨R, hR⟩ : ∃ R, lenT v m x = R := ⟨_, rfl⟩
  rw [hR] at h0 h1 ⊢
  generalize mayB v m x = Y at T0 h0 h1 hw
  have h0' := Lib.hid h0
  have h1' := Lib.hid h1
  have hw' := Lib.hid hw
  have T0' := Lib.hid T0
  clear hR h0 h1 hw T0
  go_enter Try.func20, Try.ntmps20
  go_upto_region 1 with (fail)
  obtain ⟨W, hW, hB, hs, ca, fa⟩ := box1 w _ 26
  rw [← hW, ← plus_self W]
  have ca0 := ca 0 (some (.int .u64 (hi v))) rfl
  have ca1 := ca 1 (some (.int .u64 (lo v))) rfl
  have ca2 := ca 2 (some (.int .u64 (hi m))) rfl
  have ca3 := ca 3 (some (.int .u64 (lo m))) rfl
  have hB' := Lib.hid hB
  clear hW ca fa hB hs
  have t0 := Lib.hid (fun y => T0'.out.at W y)
  clear T0'
  cases Y
  case false =>
    have hF := Lib.hid (h0'.out rfl)
    go_wp2_with (first | (with_reducible refine (t0.out _).mono ?_; rintro r w' ⟨rfl, x, rfl⟩))
    go_ret2
    exact ⟨congrArg Ending.returned hF.out, plus_of_below (hB'.out.trans ((below_plus W _).mono hB'.out.size))⟩
  case true =>
  obtain ⟨hx1, hx2⟩ := hw'.out rfl
  obtain ⟨u, hu⟩ : ∃ u : Nat, x = u := ⟨x.toNat, by omega⟩
  obtain ⟨h2, h3⟩ := h1'.out u hu rfl
  have h2' := Lib.hid h2
  have h3' := Lib.hid h3
  subst hu
  have hu128 : u ≤ 128 := by omega
  clear h0' h1' hw' hx1 hx2 h2 h3
  go_wp2_with (first | (with_reducible refine (t0.out _).mono ?_; rintro r w' ⟨rfl, y0, rfl⟩) | (go_at_call 31; refine (hK.out _).mono ?_; rintro e w' ⟨p, q, rfl, hb, hp, hq, d0, d1, d2⟩; have hb' := Lib.hid hb; have hp' := Lib.hid hp; have hq' := Lib.hid hq; have d0' := Lib.hid d0; have d1' := Lib.hid d1; have d2' := Lib.hid d2; clear hb hp hq d0 d1 d2))
  clear t0 hK
  obtain ⟨zX, hX⟩ : ∃ z, w' = plus W z := by
    obtain ⟨y1, h⟩ := plus_of_below hb'.out
    exact ⟨_, h.trans (plus_plus _ _ _)⟩
  have m0 : ∀ y, (plus w' y).cell? ⟨w.heap.size, 2, none⟩ = some (.int .u64 (hi m)) := fun y => by rw [hX, plus_plus]; exact ca2 _
  have m1 : ∀ y, (plus w' y).cell? ⟨w.heap.size, 3, none⟩ = some (.int .u64 (lo m)) := fun y => by rw [hX, plus_plus]; exact ca3 _
  have hL := Lib.hid (fun (k : Nat) (hk : k ≤ u) (y : Ext) => (m_mask1 (k : Int) (u : Int) (plus w' y) p q (by omega) (by omega) (by omega) (Nat.lt_of_lt_of_le hp'.out (size_plus w' y)) (Nat.lt_of_lt_of_le hq'.out (size_plus w' y)) ((cell_plus w' y p 0 hp'.out).trans d0'.out) ((cell_plus w' y p 1 hp'.out).trans d1'.out) ((cell_plus w' y q 0 hq'.out).trans d2'.out)).mono fun e w2 (h : e = .returned (nv (topN (k : Int) (u : Int))) ∧ ∃ z, w2 = plus (plus w' y) z) => (⟨h.1, by obtain ⟨z, hz⟩ := h.2; exact ⟨_, hz.trans (plus_plus _ _ _)⟩⟩ : e = .returned (nv (topN (k : Int) (u : Int))) ∧ ∃ z, w2 = plus w' z))
  have hX' := Lib.hid hX
  clear hX ca0 ca1 ca2 ca3 hb' hp' hq' d0' d1' d2'
  rw [← plus_self w']
  go_loopw [16] (fun iv wr => ∃ i : Nat, i ≤ u + 1 ∧ iv = .int .i64 (i : Int) ∧ Hid (∀ j : Nat, j < i → topN (j : Int) (u : Int) ≠ m) ∧ ∃ z, wr = plus w' z) (fun iv _ => u + 1 - (intOf iv).toNat)
  case atStart => exact ⟨0, Nat.zero_le _, rfl, fun j hj => absurd hj (Nat.not_lt_zero j), _, rfl⟩
  case round =>
    obtain ⟨i, hi, rfl, hs, z, rfl⟩ := hrel
    by_cases hlt : i < u + 1
    · have q0 := hL.out i (by omega)
      have hret := Lib.hid (h2'.out i (by omega))
      by_cases e : topN (i : Int) (u : Int) = m
      · have hF := Lib.hid (hret.out e hs.out)
        have hE2 : ∀ w, (binOp .eql 24 (nv m) (nv m)).run Try.prog w = .ok (.bool true) w := fun w => by rw [hE.out]; simp
        rw [e] at q0
        have q0' := Lib.hid q0
        clear q0 hret h2' h3' hL hs e hE hi
        go_upto_region 7 with (fail)
        refine wp_region_own (by kernel_rfl) (by kernel_rfl) ?_
        repeat (go_big_quiet_step (with_reducible exact q0'.out _))
        refine wpQuiet_nil ?_
        rintro _ ⟨y, rfl⟩
        go_wp2
        go_ret2
        exact ⟨congrArg Ending.returned hF.out, plus_of_below (by rw [hX'.out, plus_plus]; exact hB'.out.trans ((below_plus W _).mono hB'.out.size))⟩
      · have hnext : Hid (∀ j : Nat, j < i + 1 → topN (j : Int) (u : Int) ≠ m) := fun j hj => by
          by_cases c : j < i
          · exact hs.out j c
          · obtain rfl : j = i := by omega
            exact e
        have hE2 : ∀ w, (binOp .eql 24 (nv (topN (i : Int) (u : Int))) (nv m)).run Try.prog w = .ok (.bool false) w := fun w => by rw [hE.out]; simp [e]
        generalize topN (i : Int) (u : Int) = M at q0 hE2
        have q0' := Lib.hid q0
        clear q0 hret hs e
        go_upto_region 7 with (fail)
        refine wp_region_own (by kernel_rfl) (by kernel_rfl) ?_
        repeat (go_big_quiet_step (with_reducible exact q0'.out _))
        refine wpQuiet_nil ?_
        rintro _ ⟨y, rfl⟩
        go_wp2
        go_roundw
        case rel => exact ⟨i + 1, hlt, rfl, hnext, _, rfl⟩
        case measure => exact step_less12 i (u + 1) hlt rfl
    · obtain rfl : i = u + 1 := by omega
      have hF := Lib.hid (h3'.out hs.out)
      clear h2' h3' hL hs hlt hi hE
      go_wp2
      go_ret2
      exact ⟨congrArg Ending.returned hF.out, plus_of_below (by rw [hX'.out, plus_plus]; exact hB'.out.trans ((below_plus W _).mono hB'.out.size))⟩
end Go.Proofs.Ytjfkkikbcmglnaa
