/-
  WHAT IS PROVED HERE: what the document's digit and sum of layer 1 hand back.
-/
import Derived.Test.YtiodfenkbhlpdaaGreatDoorRows
import Derived.Test.YtiodfenkbhlpdaaGreatDoorUa
import Derived.Test.YtiodfenkbhlpdaaGreatDoorRl
import Derived.WalkKit
import Derived.WalkSpells
import Derived.WalkLawsBesides
import Derived.Deep.RegionWith
namespace Go.Proofs.YtiodfenkbhlpdaaGreatDoor
open Go.RowKit
theorem rdig_ret (c b : Nat) (x : Int) (h : rdig c b = x) : Ending.returned (Value.int .u64 x) = Ending.returned (Value.int .u64 (rdig c b)) := by rw [h]
theorem rdig_cases (c b : Nat) (hb : b = 10 ∨ b = 16) : (48 ≤ c → c ≤ 57 → rdig c b = (c : Int) - 48) ∧ (97 ≤ c → c ≤ 102 → rdig c b = if b = 16 then (c : Int) - 97 + 10 else 99) ∧ (65 ≤ c → c ≤ 70 → rdig c b = if b = 16 then (c : Int) - 65 + 10 else 99) ∧ (¬ (48 ≤ c ∧ c ≤ 57) → ¬ (97 ≤ c ∧ c ≤ 102) → ¬ (65 ≤ c ∧ c ≤ 70) → rdig c b = 99) := by
  have D := digV_eq (c : Int) (b : Int)
  unfold rdig
  refine ⟨fun h1 h2 => ?_, fun h1 h2 => ?_, fun h1 h2 => ?_, fun h1 h2 h3 => ?_⟩
  · rw [D.1 (by omega) (by omega), if_pos (by omega)]
  · rw [D.2.1 (by omega) (by omega)]; split <;> split <;> omega
  · rw [D.2.2.1 (by omega) (by omega)]; split <;> split <;> omega
  · rw [D.2.2.2 (by omega) (by omega) (by omega), if_neg (by omega)]
set_option maxHeartbeats 2000000 in
theorem ref_digit1 (c b : Nat) (hc : c < 256) (hb : b = 10 ∨ b = 16) (w : World) :
    Calls Tryz.prog 49 #[.int .u8 (c : Int), .int .u64 (b : Int)] w fun e w' => e = .returned (.int .u64 (rdig c b)) ∧ w = w' := by
  have D := Lib.hid (rdig_cases c b hb)
  obtain ⟨x, hx⟩ : ∃ x, rdig c b = x := ⟨_, rfl⟩
  have hx' := Lib.hid hx
  rw [hx]
  clear hx
  rcases hb with rfl | rfl
  all_goals
    go_enter Tryz.func49, Tryz.ntmps49
    go_wp2
    all_goals
      go_ret
      refine ⟨?_, rfl⟩
      show Ending.returned (.int .u64 _) = Ending.returned (.int .u64 _)
      refine congrArg (fun x => Ending.returned (.int .u64 x)) ?_
      rw [← hx'.out]
      have d := D.out
      first
        | (rw [d.1 (by omega) (by omega)])
        | (rw [d.2.1 (by omega) (by omega)]; rfl)
        | (rw [d.2.2.1 (by omega) (by omega)]; rfl)
        | (rw [d.2.2.2 (by omega) (by omega) (by omega)])
theorem sum_val (a n : Nat) : (decide (cmpN ((a + n) % 2 ^ 128) a < 0)) = decide ((a + n) % 2 ^ 128 < a) := by
  unfold cmpN
  rw [Bool.eq_iff_iff]
  simp only [decide_eq_true_eq]
  split
  · omega
  · split <;> omega
set_option maxHeartbeats 2000000 in
theorem ref_sum (a n : Nat) (ha : a < B128) (hn : n < B128) : Pure Tryz.prog 51 #[nv a, nv n] (.tuple #[nv ((a + n) % 2 ^ 128), .bool (decide ((a + n) % 2 ^ 128 < a))]) := by
  intro w
  have hA : Hid (Pure Tryz.prog 62 #[nv a, nv n, .int .i64 128] (nv ((a + n) % 2 ^ 128))) := (ref_add a n 128 ha hn).eqv (by rw [show hw 128 = 128 from by decide, Nat.mod_mod])
  have hs := Nat.mod_lt (a + n) (show 2 ^ 128 > 0 by decide)
  have hC := Lib.hid (ref_cmp ((a + n) % 2 ^ 128) a hs ha)
  have hV := Lib.hid (sum_val a n)
  generalize (a + n) % 2 ^ 128 = t at hA hC hV
  clear ha hn hs
  go_enter Tryz.func51, Tryz.ntmps51
  go_wp2_with fail
  obtain ⟨W, hW, hB, hz, ca, cb, cr, fa, fb, fr⟩ := box3 w #[.int .u64 (hi a), .int .u64 (lo a)] #[.int .u64 (hi n), .int .u64 (lo n)] #[.int .u64 0, .int .u64 0] 35 35 35
  rw [← hW]
  have ca0 := fun y => ca 0 (some (.int .u64 (hi a))) rfl y
  have ca1 := fun y => ca 1 (some (.int .u64 (lo a))) rfl y
  have cr0 := fun y => cr 0 (some (.int .u64 0)) rfl y
  have cr1 := fun y => cr 1 (some (.int .u64 0)) rfl y
  clear ca cb cr fa fb hW
  refine (hA.out _).mono ?_
  rintro r w' ⟨rfl, y, rfl⟩
  go_wp2
  obtain ⟨V, hV', hBV, hzV, co, fo⟩ := box1 (plus W y) #[.int .u64 (hi t), .int .u64 (lo t)] 35
  rw [← hV']
  have hb : w.heap.size < W.heap.size ∧ W.heap.size ≤ (plus W y).heap.size := ⟨by omega, size_plus W y⟩
  have hBw : Below w.heap.size w V := (hB.trans ((below_plus W y).mono hB.size)).trans (hBV.mono (by omega))
  have va0 := fun x => plus_cell (W := V) (by omega) ((hBV.cell (p := ⟨w.heap.size, 0, none⟩) (by show w.heap.size < _; omega)).trans (ca0 y)) x
  have va1 := fun x => plus_cell (W := V) (by omega) ((hBV.cell (p := ⟨w.heap.size, 1, none⟩) (by show w.heap.size < _; omega)).trans (ca1 y)) x
  have vr0 := fun x => plus_cell (W := V) (by omega) ((hBV.cell (p := ⟨w.heap.size + 1 + 1, 0, none⟩) (by show w.heap.size + 1 + 1 < _; omega)).trans (cr0 y)) x
  have vr1 := fun x => plus_cell (W := V) (by omega) ((hBV.cell (p := ⟨w.heap.size + 1 + 1, 1, none⟩) (by show w.heap.size + 1 + 1 < _; omega)).trans (cr1 y)) x
  have vf := fun x o => plus_frozen (W := V) (b := w.heap.size + 1 + 1) (by omega) (fun o => (hBV.frozen (p := ⟨w.heap.size + 1 + 1, o, none⟩) (by show w.heap.size + 1 + 1 < _; omega)).trans (fr y o)) x o
  have vo0 := fun x => co 0 (some (.int .u64 (hi t))) rfl x
  have vo1 := fun x => co 1 (some (.int .u64 (lo t))) rfl x
  generalize (plus W y).heap.size = b at vo0 vo1 ⊢
  have hBw := Lib.hid hBw
  clear hV' hBV hzV co fo ca0 ca1 cr0 cr1 fr hb hB hz
  rw [← plus_self V]
  generalize (⟨#[], V.drawn⟩ : Ext) = x0
  have hd : ∀ x : Ext, (plus V x).drew = plus V ⟨x.blocks, x.draws + 1⟩ := fun x => rfl
  go_region_with (first | (go_at_call 63; refine (hC.out.at V _).mono ?_; rintro e w' ⟨rfl, z, rfl⟩))
  all_goals (try go_wp2)
  all_goals
    refine bodyPost_ret (v := .tuple #[nv t, .bool (decide (cmpN t a < 0))]) (by simp [results, Tryz.results51, go_sem, vr0, vr1]) rfl ⟨by rw [hV.out], ?_⟩
    exact own_end hBw.out (by omega) _ _
end Go.Proofs.YtiodfenkbhlpdaaGreatDoor
