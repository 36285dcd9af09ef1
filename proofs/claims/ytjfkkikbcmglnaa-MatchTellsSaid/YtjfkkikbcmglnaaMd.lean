/-
  WHAT IS PROVED HERE: what match.Prefix and match.Exact hand back, and that the page's examples of layer 11 come out as it says, in whatever world. No condition but that the halves are of 64 bits.
-/
import Derived.WalkKit
import Derived.Lib.Hide
import Derived.Test.YtjfkkikbcmglnaaRows
import Derived.Test.YtjfkkikbcmglnaaMc
import Derived.WalkSpells
import Derived.WalkLawsBesides
import Derived.Deep.RegionHeld3
import Derived.Deep.CutRange
namespace Go.Proofs.Ytjfkkikbcmglnaa
open Go.RowKit
/-- What was wrong with a prefix, as a number. -/
def preE (n : Nat) (k x : Int) : Int := if wideB x = true then (if k < 0 ∨ x < k then 5 else maskE n (topN k x) x) else 2
def preV (n : Nat) (k x : Int) : Nat := if preE n k x = 0 then n &&& topN k x else 0
def preM (n : Nat) (k x : Int) : Nat := if preE n k x = 0 then topN k x else 0
abbrev preT (n : Nat) (k x : Int) : Value := .tuple #[pv (preV n k x) (preM n k x), .int .i64 (preE n k x)]
theorem preT_no {n : Nat} {k x : Int} {e : Int} (h : preE n k x = e) (he : e ≠ 0) : Value.tuple #[.agg #[.int .u64 0, .int .u64 0, .int .u64 0, .int .u64 0], .int .i64 e] = preT n k x := by
  unfold preT preV preM
  rw [h, if_neg he, if_neg he]; rfl
theorem preE_yes {n : Nat} {k x : Int} (h0 : wideB x = true) (h1 : 0 ≤ k) (h2 : k ≤ x) : preE n k x = maskE n (topN k x) x := by
  unfold preE
  rw [if_pos h0, if_neg (by omega)]
theorem preT_yes {n : Nat} {k x : Int} (h0 : wideB x = true) (h1 : 0 ≤ k) (h2 : k ≤ x) : maskT n (topN k x) x = preT n k x := by
  unfold maskT preT preV preM maskV maskM
  rw [preE_yes h0 h1 h2]
/-- A world with blocks laid behind those that were there. -/
structure Ow (W V : World) : Prop where
  ex : ∃ z, V = plus W z
theorem Ow.start (W : World) (y : Ext) : Ow W (Go.Proofs.Ytjfkkikbcmglnaa.plus W y) := ⟨_, rfl⟩
theorem Ow.drew {W V : World} (h : Ow W V) : Ow W V.drew := by obtain ⟨z, rfl⟩ := h.ex; exact ⟨⟨z.blocks, z.draws + 1⟩, rfl⟩
theorem Ow.plus {W V : World} (h : Ow W V) (y : Ext) : Ow W (Go.Proofs.Ytjfkkikbcmglnaa.plus V y) := by obtain ⟨z, rfl⟩ := h.ex; exact ⟨_, plus_plus _ _ _⟩
theorem Ow.below {W V V' : World} (h : Ow W V) (g : Below V.heap.size V V') : Ow W V' := by obtain ⟨y, rfl⟩ := plus_of_below g; exact h.plus y
/-- The number's cells stand, and all that was there before. -/
structure Oz (w : World) (n : Nat) (U : World) : Prop where
  c0 : U.cell? ⟨w.heap.size, 0, none⟩ = some (.int .u64 (hi n))
  c1 : U.cell? ⟨w.heap.size, 1, none⟩ = some (.int .u64 (lo n))
  le : w.heap.size + 1 ≤ U.heap.size
  below : Below w.heap.size w U
theorem Oz.grow {w U V : World} {n : Nat} (h : Oz w n U) (g : Below U.heap.size U V) : Oz w n V :=
  ⟨(g.cell (p := ⟨_, 0, none⟩) (by simp; have := h.le; omega)).trans h.c0, (g.cell (p := ⟨_, 1, none⟩) (by simp; have := h.le; omega)).trans h.c1, by have := g.size; have := h.le; omega, h.below.trans (g.mono h.below.size)⟩
theorem Oz.plus {w U : World} {n : Nat} (h : Oz w n U) (y : Ext) : Oz w n (Go.Proofs.Ytjfkkikbcmglnaa.plus U y) := h.grow (below_plus U y)
theorem Oz.drew {w U : World} {n : Nat} (h : Oz w n U) : Oz w n U.drew := h.plus ⟨#[], U.drawn + 1⟩ |> fun g => by rwa [show Go.Proofs.Ytjfkkikbcmglnaa.plus U ⟨#[], U.drawn + 1⟩ = U.drew from (drawn_plus U _).symm] at g
theorem Oz.set {w U : World} {n : Nat} (h : Oz w n U) (j : Nat) (v : Value) : Oz w n (U.setCell ⟨w.heap.size + 1, j, none⟩ v) :=
  ⟨(World.cell?_setCell_other _ _ _ _ (by simp)).trans h.c0, (World.cell?_setCell_other _ _ _ _ (by simp)).trans h.c1, by have := h.le; simp [World.setCell]; omega, h.below.setCell (Nat.le_succ _) _⟩
/-- The result's cells, as they were made. -/
structure Oy (w U : World) : Prop where
  r0 : U.cell? ⟨w.heap.size + 1, 0, none⟩ = some (.int .u64 0)
  r1 : U.cell? ⟨w.heap.size + 1, 1, none⟩ = some (.int .u64 0)
  r2 : U.cell? ⟨w.heap.size + 1, 2, none⟩ = some (.int .u64 0)
  r3 : U.cell? ⟨w.heap.size + 1, 3, none⟩ = some (.int .u64 0)
  fz : ∀ o, U.frozen? ⟨w.heap.size + 1, o, none⟩ = false
set_option maxHeartbeats 2000000 in
theorem m_prefix (n : Nat) (k x : Int) (hn : n < B128) : Pure Try.prog 16 #[nv n, .int .i64 k, .int .i64 x] (preT n k x) := by
  intro w
  have T0 := Lib.hid (m_isWidth x)
  obtain ⟨b0, hb0⟩ : ∃ b, wideB x = b := ⟨_, rfl⟩
  have F2 : Hid (∀ e : Int, preE n k x = e → e ≠ 0 → Value.tuple #[.agg #[.int .u64 0, .int .u64 0, .int .u64 0, .int .u64 0], .int .i64 e] = preT n k x) := fun e h g => preT_no h g
  cases b0
  · have hE : preE n k x = 2 := by unfold preE; rw [hb0]; rfl
    have hF := Lib.hid (F2.out _ hE (by decide))
    rw [hb0] at T0
    clear F2 hE hb0 hn
    generalize preT n k x = R at hF ⊢
    go_enter Try.func16, Try.ntmps16
    go_wp2_with fail
    obtain ⟨W, hW, hB, hs, ca, cr, fa, fr⟩ := box2 w _ _ 24 26
    rw [← hW]
    have cr0 := cr 0 (some (.int .u64 0)) rfl
    have cr1 := cr 1 (some (.int .u64 0)) rfl
    have cr2 := cr 2 (some (.int .u64 0)) rfl
    have cr3 := cr 3 (some (.int .u64 0)) rfl
    clear hW fa ca cr
    refine (T0.out W).mono ?_
    rintro e w' ⟨rfl, y, rfl⟩
    go_wp2
    exact bodyPost_ret (v := .tuple #[.agg #[.int .u64 0, .int .u64 0, .int .u64 0, .int .u64 0], .int .i64 2]) (by simp [results, Try.results16, go_sem, cr0, cr1, cr2, cr3]) rfl ⟨congrArg Ending.returned hF.out, own_end4 hB (by omega) _ _ _ _⟩
  by_cases hk : k < 0 ∨ x < k
  · have hE : preE n k x = 5 := by unfold preE; rw [hb0, if_pos rfl, if_pos hk]
    have hF := Lib.hid (F2.out _ hE (by decide))
    rw [hb0] at T0
    clear F2 hE hb0 hn
    generalize preT n k x = R at hF ⊢
    go_enter Try.func16, Try.ntmps16
    go_wp2_with fail
    obtain ⟨W, hW, hB, hs, ca, cr, fa, fr⟩ := box2 w _ _ 24 26
    rw [← hW]
    have cr0 := cr 0 (some (.int .u64 0)) rfl
    have cr1 := cr 1 (some (.int .u64 0)) rfl
    have cr2 := cr 2 (some (.int .u64 0)) rfl
    have cr3 := cr 3 (some (.int .u64 0)) rfl
    clear hW fa ca cr
    refine (T0.out W).mono ?_
    rintro e w' ⟨rfl, y, rfl⟩
    by_cases h1 : k < 0
    · go_wp2
      exact bodyPost_ret (v := .tuple #[.agg #[.int .u64 0, .int .u64 0, .int .u64 0, .int .u64 0], .int .i64 5]) (by simp [results, Try.results16, go_sem, cr0, cr1, cr2, cr3]) rfl ⟨congrArg Ending.returned hF.out, own_end4 hB (by omega) _ _ _ _⟩
    · have h2 : x < k := by omega
      go_wp2
      exact bodyPost_ret (v := .tuple #[.agg #[.int .u64 0, .int .u64 0, .int .u64 0, .int .u64 0], .int .i64 5]) (by simp [results, Try.results16, go_sem, cr0, cr1, cr2, cr3]) rfl ⟨congrArg Ending.returned hF.out, own_end4 hB (by omega) _ _ _ _⟩
  have h1 : 0 ≤ k := by omega
  have h2 : k ≤ x := by omega
  have h3 : x ≤ 128 := by unfold wideB at hb0; simp only [Bool.and_eq_true, decide_eq_true_eq] at hb0; exact hb0.2
  have hF := Lib.hid (@preT_yes n k x hb0 h1 h2)
  have hM := Lib.hid (m_masked n (topN k x) x hn (topN_lt k x))
  have hK := Lib.hid (m_masks x)
  have hL := Lib.hid (fun U p q => m_mask1 k x U p q h1 h2 h3)
  have h1' : ¬ k < 0 := by omega
  have h2' : ¬ x < k := by omega
  rw [hb0] at T0
  unfold maskT at hM hF
  clear F2 hb0 hn hk h1 h2 h3
  generalize preT n k x = R at hF ⊢
  generalize topN k x = M at hM hF hL
  generalize maskV n M x = vv at hM hF
  generalize maskM n M x = mm at hM hF
  generalize maskE n M x = ee at hM hF
  go_enter Try.func16, Try.ntmps16
  go_wp2_with fail
  obtain ⟨W, hW, hB, hs, ca, cr, fa, fr⟩ := box2 w _ _ 24 26
  rw [← hW]
  have ca0 := ca 0 (some (.int .u64 (hi n))) rfl
  have ca1 := ca 1 (some (.int .u64 (lo n))) rfl
  have cr0 := cr 0 (some (.int .u64 0)) rfl
  have cr1 := cr 1 (some (.int .u64 0)) rfl
  have cr2 := cr 2 (some (.int .u64 0)) rfl
  have cr3 := cr 3 (some (.int .u64 0)) rfl
  clear hW fa ca cr
  refine (T0.out W).mono ?_
  rintro e w' ⟨rfl, y, rfl⟩
  go_upto_region 5 with (fail)
  have hY : Hid (∀ U, Ow W U → Oy w U) := fun U h => by
    obtain ⟨z, rfl⟩ := h.ex
    exact ⟨cr0 z, cr1 z, cr2 z, cr3 z, fr z⟩
  have hS : Hid (∀ U, Oz w n U → U.cell? ⟨w.heap.size, 0, none⟩ = some (.int .u64 (hi n)) ∧ U.cell? ⟨w.heap.size, 1, none⟩ = some (.int .u64 (lo n)) ∧ Oz w n U) := fun U h => ⟨h.c0, h.c1, h⟩
  have hO := Ow.start W y
  have hZ : Oz w n (plus W y) := (⟨by have := ca0 ⟨#[], W.drawn⟩; rwa [plus_self] at this, by have := ca1 ⟨#[], W.drawn⟩; rwa [plus_self] at this, by omega, hB⟩ : Oz w n W).plus y
  clear ca0 ca1 cr0 cr1 cr2 cr3 fr hB hs
  go_region_held3 (fun U => U.cell? ⟨w.heap.size, 0, none⟩ = some (.int .u64 (hi n)) ∧ U.cell? ⟨w.heap.size, 1, none⟩ = some (.int .u64 (lo n)) ∧ Oz w n U)
    (exact hS.out _ (by repeat (first | assumption | apply Oz.drew | apply Oz.plus | apply Oz.set)))
    (first
      | (go_at_call 31; refine (hK.out _).mono ?_; rintro e w' ⟨p, q, rfl, hb, hp, hq, d0, d1, d2⟩; have hO2 := Ow.below (by repeat (first | assumption | apply Ow.drew | apply Ow.plus)) hb; have hZ2 := Oz.grow (by repeat (first | assumption | apply Oz.drew | apply Oz.plus)) hb)
      | (go_at_call 41; refine (hL.out _ _ _ (by assumption) (by assumption) (by assumption) (by assumption) (by assumption)).mono ?_; rintro e w' ⟨rfl, z, rfl⟩)
      | (go_at_call 18; refine (hM.out _).mono ?_; rintro e wq ⟨rfl, z, hz⟩; have hO4 : Ow W wq := (by rw [hz]; repeat (first | assumption | apply Ow.drew | apply Ow.plus)); have hZ4 : Oz w n wq := (by rw [hz]; repeat (first | assumption | apply Oz.drew | apply Oz.plus)); clear hz; obtain ⟨r0, r1, r2, r3, fz⟩ := hY.out wq hO4))
  go_wp2
  refine bodyPost_ret (v := .tuple #[pv vv mm, .int .i64 ee]) (by simp [results, Try.results16, go_sem, r0, r1, r2, r3]) rfl ⟨congrArg Ending.returned hF.out, ?_⟩
  exact plus_of_below ((((hZ4.below.setCell (Nat.le_succ _) _).setCell (Nat.le_succ _) _).setCell (Nat.le_succ _) _).setCell (Nat.le_succ _) _)
set_option maxHeartbeats 400000 in
theorem m_exact (n : Nat) (x : Int) (hn : n < B128) : Pure Try.prog 14 #[nv n, .int .i64 x] (preT n x x) := by
  intro w
  have S := m_prefix n x x hn
  clear hn
  unfold preT at S ⊢
  generalize preV n x x = vv at S ⊢
  generalize preM n x x = mm at S ⊢
  generalize preE n x x = ee at S ⊢
  go_enter Try.func14, Try.ntmps14
  go_wp2_with fail
  obtain ⟨W, hW, hB, hs, ca, cr, fa, fr⟩ := box2 w _ _ 24 26
  rw [← hW]
  have ca0 := ca 0 (some (.int .u64 (hi n))) rfl
  have ca1 := ca 1 (some (.int .u64 (lo n))) rfl
  have cr0 := cr 0 (some (.int .u64 0)) rfl
  have cr1 := cr 1 (some (.int .u64 0)) rfl
  have cr2 := cr 2 (some (.int .u64 0)) rfl
  have cr3 := cr 3 (some (.int .u64 0)) rfl
  clear hW fa ca cr
  refine (S W).mono ?_
  rintro e w' ⟨rfl, y, rfl⟩
  go_wp2
  exact bodyPost_ret (v := .tuple #[pv vv mm, .int .i64 ee]) (by simp [results, Try.results14, go_sem, cr0, cr1, cr2, cr3]) rfl ⟨rfl, own_end4 hB (by omega) _ _ _ _⟩
end Go.Proofs.Ytjfkkikbcmglnaa
