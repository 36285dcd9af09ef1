/-
  WHAT IS PROVED HERE: what the document's digit and sum of layer 1 hand back.
-/
import Derived.Test.YtiodfenkbhlpdaaDoorRows
import Derived.Test.YtiodfenkbhlpdaaDoorUa
import Derived.Test.YtiodfenkbhlpdaaDoorRl
import Derived.WalkKit
import Derived.WalkSpells
import Derived.WalkLawsBesides
import Derived.Deep.RegionWith
namespace Go.Proofs.YtiodfenkbhlpdaaDoor
open Go.RowKit
theorem rdig_ret (c b : Nat) (x : Int) (h : rdig c b = x) : Ending.returned (Value.int .u64 x) = Ending.returned (Value.int .u64 (rdig c b)) := by rw [h]
theorem rdig_cases (c b : Nat) (hb : b = 10 ∨ b = 16) : (48 ≤ c → c ≤ 57 → rdig c b = (c : Int) - 48) ∧ (97 ≤ c → c ≤ 102 → rdig c b = if b = 16 then (c : Int) - 97 + 10 else 99) ∧ (65 ≤ c → c ≤ 70 → rdig c b = if b = 16 then (c : Int) - 65 + 10 else 99) ∧ (¬ (48 ≤ c ∧ c ≤ 57) → ¬ (97 ≤ c ∧ c ≤ 102) → ¬ (65 ≤ c ∧ c ≤ 70) → rdig c b = 99) := by
  have D := digV_eq (c : Int) (b : Int)
  unfold rdig
  refine ⟨fun h1 h2 => ?_, fun h1 h2 => ?_, fun h1 h2 => ?_, fun h1 h2 h3 => ?_⟩
  · rw [D.1 (by omega) (by omega), if_pos (by omega)]
  · rw [D.2.1 (by omega) (by omega)]; split <;> split <;> omega
  · rw [D.2.2.1 (by omega) (by omega)]; split <;> split <;> omega
  · rw [D.2.2.2 (by omega) (by omega) (by omega), if_neg (by omega)]
theorem sum_val (a n : Nat) : (decide (cmpN ((a + n) % 2 ^ 128) a < 0)) = decide ((a + n) % 2 ^ 128 < a) := by
  unfold cmpN
  rw [Bool.eq_iff_iff]
  simp only [decide_eq_true_eq]
  split
  · omega
  · split <;> omega
end Go.Proofs.YtiodfenkbhlpdaaDoor
