/-
  WHAT IS PROVED HERE: the page's examples ('known'): true, in whatever world.
-/
import Derived.Test.YtpnaibfefpeikaaRows
import Derived.Test.YtpnaibfefpeikaaHs
import Derived.WalkKit
import Derived.Lib.Hide
import Derived.WalkSpells
import Derived.WalkLawsBesides
import Derived.BigRegion
namespace Go.Proofs.Ytpnaibfefpeikaa
open Go.RowKit
set_option maxRecDepth 100000 in
set_option maxHeartbeats 80000000 in
theorem law_known (V : World) : Calls Try.prog 6 #[] V fun e w' => e = .returned (.bool true) ∧ ∃ x, w' = plus V x := by
  go_enter Try.func6, Try.ntmps6
  go_wp2
  obtain ⟨W, hW, hB, hs, ca, fa⟩ := box1 V _ 38
  rw [← hW]
  have ca0 := ca 0 _ rfl ⟨#[], W.drawn⟩
  have ca1 := ca 1 _ rfl ⟨#[], W.drawn⟩
  have ca2 := ca 2 _ rfl ⟨#[], W.drawn⟩
  have ca3 := ca 3 _ rfl ⟨#[], W.drawn⟩
  have ca4 := ca 4 _ rfl ⟨#[], W.drawn⟩
  have ca5 := ca 5 _ rfl ⟨#[], W.drawn⟩
  have ca6 := ca 6 _ rfl ⟨#[], W.drawn⟩
  have ca7 := ca 7 _ rfl ⟨#[], W.drawn⟩
  have ca8 := ca 8 _ rfl ⟨#[], W.drawn⟩
  rw [plus_self] at ca0 ca1 ca2 ca3 ca4 ca5 ca6 ca7 ca8
  have hlt : V.heap.size < W.heap.size := by omega
  have hB' := Lib.hid hB
  clear hW ca fa hB hs
  have k0_0 : W.drew.cell? ⟨V.heap.size, 0, none⟩ = some (.int .u8 5) := ca0
  have k0_1 : ∀ a, (W.alloc a).drew.cell? ⟨V.heap.size, 0, none⟩ = some (.int .u8 5) := fun a => cell_alloc (w := W) ca0 a
  have k0_2 : ∀ a b, ((W.alloc a).alloc b).drew.cell? ⟨V.heap.size, 0, none⟩ = some (.int .u8 5) := fun a b => cell_alloc (cell_alloc (w := W) ca0 a) b
  have k0_3 : ∀ a b c, (((W.alloc a).alloc b).alloc c).drew.cell? ⟨V.heap.size, 0, none⟩ = some (.int .u8 5) := fun a b c => cell_alloc (cell_alloc (cell_alloc (w := W) ca0 a) b) c
  have k1_0 : W.drew.cell? ⟨V.heap.size, 1, none⟩ = some (.int .i64 0) := ca1
  have k1_1 : ∀ a, (W.alloc a).drew.cell? ⟨V.heap.size, 1, none⟩ = some (.int .i64 0) := fun a => cell_alloc (w := W) ca1 a
  have k1_2 : ∀ a b, ((W.alloc a).alloc b).drew.cell? ⟨V.heap.size, 1, none⟩ = some (.int .i64 0) := fun a b => cell_alloc (cell_alloc (w := W) ca1 a) b
  have k1_3 : ∀ a b c, (((W.alloc a).alloc b).alloc c).drew.cell? ⟨V.heap.size, 1, none⟩ = some (.int .i64 0) := fun a b c => cell_alloc (cell_alloc (cell_alloc (w := W) ca1 a) b) c
  have k2_0 : W.drew.cell? ⟨V.heap.size, 2, none⟩ = some (.int .u64 0) := ca2
  have k2_1 : ∀ a, (W.alloc a).drew.cell? ⟨V.heap.size, 2, none⟩ = some (.int .u64 0) := fun a => cell_alloc (w := W) ca2 a
  have k2_2 : ∀ a b, ((W.alloc a).alloc b).drew.cell? ⟨V.heap.size, 2, none⟩ = some (.int .u64 0) := fun a b => cell_alloc (cell_alloc (w := W) ca2 a) b
  have k2_3 : ∀ a b c, (((W.alloc a).alloc b).alloc c).drew.cell? ⟨V.heap.size, 2, none⟩ = some (.int .u64 0) := fun a b c => cell_alloc (cell_alloc (cell_alloc (w := W) ca2 a) b) c
  have k3_0 : W.drew.cell? ⟨V.heap.size, 3, none⟩ = some (.int .u64 0) := ca3
  have k3_1 : ∀ a, (W.alloc a).drew.cell? ⟨V.heap.size, 3, none⟩ = some (.int .u64 0) := fun a => cell_alloc (w := W) ca3 a
  have k3_2 : ∀ a b, ((W.alloc a).alloc b).drew.cell? ⟨V.heap.size, 3, none⟩ = some (.int .u64 0) := fun a b => cell_alloc (cell_alloc (w := W) ca3 a) b
  have k3_3 : ∀ a b c, (((W.alloc a).alloc b).alloc c).drew.cell? ⟨V.heap.size, 3, none⟩ = some (.int .u64 0) := fun a b c => cell_alloc (cell_alloc (cell_alloc (w := W) ca3 a) b) c
  have k4_0 : W.drew.cell? ⟨V.heap.size, 4, none⟩ = some (.string ⟨#[]⟩) := ca4
  have k4_1 : ∀ a, (W.alloc a).drew.cell? ⟨V.heap.size, 4, none⟩ = some (.string ⟨#[]⟩) := fun a => cell_alloc (w := W) ca4 a
  have k4_2 : ∀ a b, ((W.alloc a).alloc b).drew.cell? ⟨V.heap.size, 4, none⟩ = some (.string ⟨#[]⟩) := fun a b => cell_alloc (cell_alloc (w := W) ca4 a) b
  have k4_3 : ∀ a b c, (((W.alloc a).alloc b).alloc c).drew.cell? ⟨V.heap.size, 4, none⟩ = some (.string ⟨#[]⟩) := fun a b c => cell_alloc (cell_alloc (cell_alloc (w := W) ca4 a) b) c
  have k5_0 : W.drew.cell? ⟨V.heap.size, 5, none⟩ = some (.string ⟨#[]⟩) := ca5
  have k5_1 : ∀ a, (W.alloc a).drew.cell? ⟨V.heap.size, 5, none⟩ = some (.string ⟨#[]⟩) := fun a => cell_alloc (w := W) ca5 a
  have k5_2 : ∀ a b, ((W.alloc a).alloc b).drew.cell? ⟨V.heap.size, 5, none⟩ = some (.string ⟨#[]⟩) := fun a b => cell_alloc (cell_alloc (w := W) ca5 a) b
  have k5_3 : ∀ a b c, (((W.alloc a).alloc b).alloc c).drew.cell? ⟨V.heap.size, 5, none⟩ = some (.string ⟨#[]⟩) := fun a b c => cell_alloc (cell_alloc (cell_alloc (w := W) ca5 a) b) c
  have k6_0 : W.drew.cell? ⟨V.heap.size, 6, none⟩ = some (.int .i64 0) := ca6
  have k6_1 : ∀ a, (W.alloc a).drew.cell? ⟨V.heap.size, 6, none⟩ = some (.int .i64 0) := fun a => cell_alloc (w := W) ca6 a
  have k6_2 : ∀ a b, ((W.alloc a).alloc b).drew.cell? ⟨V.heap.size, 6, none⟩ = some (.int .i64 0) := fun a b => cell_alloc (cell_alloc (w := W) ca6 a) b
  have k6_3 : ∀ a b c, (((W.alloc a).alloc b).alloc c).drew.cell? ⟨V.heap.size, 6, none⟩ = some (.int .i64 0) := fun a b c => cell_alloc (cell_alloc (cell_alloc (w := W) ca6 a) b) c
  have k7_0 : W.drew.cell? ⟨V.heap.size, 7, none⟩ = some (.int .i64 0) := ca7
  have k7_1 : ∀ a, (W.alloc a).drew.cell? ⟨V.heap.size, 7, none⟩ = some (.int .i64 0) := fun a => cell_alloc (w := W) ca7 a
  have k7_2 : ∀ a b, ((W.alloc a).alloc b).drew.cell? ⟨V.heap.size, 7, none⟩ = some (.int .i64 0) := fun a b => cell_alloc (cell_alloc (w := W) ca7 a) b
  have k7_3 : ∀ a b c, (((W.alloc a).alloc b).alloc c).drew.cell? ⟨V.heap.size, 7, none⟩ = some (.int .i64 0) := fun a b c => cell_alloc (cell_alloc (cell_alloc (w := W) ca7 a) b) c
  have k8_0 : W.drew.cell? ⟨V.heap.size, 8, none⟩ = some (.slice none 0 0) := ca8
  have k8_1 : ∀ a, (W.alloc a).drew.cell? ⟨V.heap.size, 8, none⟩ = some (.slice none 0 0) := fun a => cell_alloc (w := W) ca8 a
  have k8_2 : ∀ a b, ((W.alloc a).alloc b).drew.cell? ⟨V.heap.size, 8, none⟩ = some (.slice none 0 0) := fun a b => cell_alloc (cell_alloc (w := W) ca8 a) b
  have k8_3 : ∀ a b c, (((W.alloc a).alloc b).alloc c).drew.cell? ⟨V.heap.size, 8, none⟩ = some (.slice none 0 0) := fun a b c => cell_alloc (cell_alloc (cell_alloc (w := W) ca8 a) b) c
  go_cut [2, 3] from 5 to 12 (fun s2 s3 wx => ∃ b c : Nat, s2 = .pointer (some ⟨b, 0, none⟩) ∧ s3 = .pointer (some ⟨c, 0, none⟩) ∧ Kn V b c wx)
  case first =>
    go_region
    all_goals
      go_wp2_with fail
      go_meet
      refine ⟨_, _, rfl, rfl, ?_⟩
      apply Kn.mk
      · repeat (first | exact plus_of_below hB'.out | (with_reducible apply ext_alloc) | (with_reducible apply ext_drew))
      all_goals
        repeat (first | ((with_reducible apply heap_at); simp; done) | (with_reducible apply heap_below) | (with_reducible apply heap_drew))
  case rest =>
    clear hlt hB' k0_0 k0_1 k0_2 k0_3 k1_0 k1_1 k1_2 k1_3 k2_0 k2_1 k2_2 k2_3 k3_0 k3_1 k3_2 k3_3 k4_0 k4_1 k4_2 k4_3 k5_0 k5_1 k5_2 k5_3 k6_0 k6_1 k6_2 k6_3 k7_0 k7_1 k7_2 k7_3 k8_0 k8_1 k8_2 k8_3 ca0 ca1 ca2 ca3 ca4 ca5 ca6 ca7 ca8
    obtain ⟨b, c, rfl, rfl, p, q, ⟨z, hz⟩, h1, h2, h3, h4⟩ := hcut
    have q1 := Lib.hid (ast_mayExpr (exS 12 p) wc (exS_in 12 (by decide) wc p h3) (exS_wt _ _)).pure
    have q2 := Lib.hid (ast_depth (exS 12 p) wc (exS_in 12 (by decide) wc p h3) (exS_wt _ _)).pure
    have q3 := Lib.hid (ast_mayExpr (exS 14 q) wc (exS_in 14 (by decide) wc q h4) (exS_wt _ _)).pure
    rw [exS_cells, sum_may] at q1
    rw [exS_cells, sum_dp] at q2
    rw [exS_cells, shift_may] at q3
    have x0 := cell_of_heap (j := 0) h1 rfl
    have y0 := fun y => cell_keep x0 y
    have v0 := cell_of_heap (j := 0) h2 rfl
    have w0 := fun y => cell_keep v0 y
    have x1 := cell_of_heap (j := 1) h1 rfl
    have y1 := fun y => cell_keep x1 y
    have v1 := cell_of_heap (j := 1) h2 rfl
    have w1 := fun y => cell_keep v1 y
    have x2 := cell_of_heap (j := 2) h1 rfl
    have y2 := fun y => cell_keep x2 y
    have v2 := cell_of_heap (j := 2) h2 rfl
    have w2 := fun y => cell_keep v2 y
    have x3 := cell_of_heap (j := 3) h1 rfl
    have y3 := fun y => cell_keep x3 y
    have v3 := cell_of_heap (j := 3) h2 rfl
    have w3 := fun y => cell_keep v3 y
    have x4 := cell_of_heap (j := 4) h1 rfl
    have y4 := fun y => cell_keep x4 y
    have v4 := cell_of_heap (j := 4) h2 rfl
    have w4 := fun y => cell_keep v4 y
    have x5 := cell_of_heap (j := 5) h1 rfl
    have y5 := fun y => cell_keep x5 y
    have v5 := cell_of_heap (j := 5) h2 rfl
    have w5 := fun y => cell_keep v5 y
    have x6 := cell_of_heap (j := 6) h1 rfl
    have y6 := fun y => cell_keep x6 y
    have v6 := cell_of_heap (j := 6) h2 rfl
    have w6 := fun y => cell_keep v6 y
    have x7 := cell_of_heap (j := 7) h1 rfl
    have y7 := fun y => cell_keep x7 y
    have v7 := cell_of_heap (j := 7) h2 rfl
    have w7 := fun y => cell_keep v7 y
    have x8 := cell_of_heap (j := 8) h1 rfl
    have y8 := fun y => cell_keep x8 y
    have v8 := cell_of_heap (j := 8) h2 rfl
    have w8 := fun y => cell_keep v8 y
    have hz' := Lib.hid hz
    clear h1 h2 h3 h4 hz
    go_wp2_with fail
    refine (calls_self' q1.out).mono ?_
    rintro r w' ⟨rfl, x1, rfl⟩
    go_wp2_with (first | (go_at_call 9; with_reducible refine (q2.out _).mono ?_; rintro r w' ⟨rfl, x, rfl⟩) | (go_at_call 10; with_reducible refine (q3.out _).mono ?_; rintro r w' ⟨rfl, x, rfl⟩))
    go_ret
    exact ⟨rfl, by rw [hz'.out, plus_plus]; exact ⟨_, rfl⟩⟩
end Go.Proofs.Ytpnaibfefpeikaa
