/-
  WHAT IS PROVED HERE: what the document's Depth of layer 4 hands back, of any expression tree that lies in memory and is not too great.
-/
import Derived.Test.YtpnaibfefpeikaaRows
import Derived.Test.YtpnaibfefpeikaaSe
import Derived.WalkKit
import Derived.Lib.Hide
import Derived.WalkSpells
import Derived.WalkLawsBesides
namespace Go.Proofs.Ytpnaibfefpeikaa
open Go.RowKit
mutual
/-- How deep it is. -/
def Ex.dp : Ex → Nat
  | .mk _ _ _ _ _ _ _ _ args => Ex.dps 1 args
def Ex.dps (m : Nat) : List Ex → Nat
  | [] => m
  | e :: l => Ex.dps (if m < 1 + e.dp then 1 + e.dp else m) l
end
theorem Ex.dp_eq (e : Ex) : e.dp = Ex.dps 1 e.args := by cases e; rw [Ex.dp]; rfl
theorem Ex.dps_take (l : List Ex) (m k : Nat) (x : Ex) (h : l[k]? = some x) : Ex.dps m (l.take (k + 1)) = (if Ex.dps m (l.take k) < 1 + x.dp then 1 + x.dp else Ex.dps m (l.take k)) := by
  induction l generalizing m k with
  | nil => simp at h
  | cons e l ih =>
    cases k with
    | zero =>
      simp only [List.getElem?_cons_zero, Option.some.injEq] at h
      subst h
      simp [Ex.dps]
    | succ k =>
      simp only [List.getElem?_cons_succ] at h
      simp only [List.take_succ_cons, Ex.dps]
      exact ih _ k h
theorem Ex.dps_le (l : List Ex) (m : Nat) (hm : 1 ≤ m) (ih : ∀ x ∈ l, x.dp ≤ x.wt) : Ex.dps m l ≤ m + (l.map Ex.wt).sum := by
  induction l generalizing m with
  | nil => simp [Ex.dps]
  | cons e l ih2 =>
    have h1 := ih e (List.mem_cons_self)
    have h2 := ih2 (if m < 1 + e.dp then 1 + e.dp else m) (by split <;> omega) (fun x hx => ih x (List.mem_cons_of_mem _ hx))
    simp only [Ex.dps, List.map_cons, List.sum_cons]
    split at h2 <;> split <;> omega
theorem Ex.dp_le : ∀ e : Ex, e.dp ≤ e.wt := fun e => Ex.ind (Q := fun e => e.dp ≤ e.wt) (fun e ih => by
  have := Ex.dps_le e.args 1 (Nat.le_refl _) ih
  rw [Ex.dp_eq, Ex.wt_eq]
  omega) e
theorem dp_up {D D0 D1 : Nat} (a : wrap64 (1 + (D : Int)) = ((1 + D : Nat) : Int)) (h : (1 + D = D1 ∧ (D0 : Int) < wrap64 (1 + (D : Int))) ∨ (D0 = D1 ∧ wrap64 (1 + (D : Int)) ≤ (D0 : Int))) (hl : (D0 : Int) < wrap64 (1 + (D : Int))) : wrap64 (1 + (D : Int)) = (D1 : Int) := by
  rcases h with ⟨h, _⟩ | ⟨_, h⟩
  · rw [a, h]
  · omega
theorem dp_keep {D D0 D1 : Nat} (h : (1 + D = D1 ∧ (D0 : Int) < wrap64 (1 + (D : Int))) ∨ (D0 = D1 ∧ wrap64 (1 + (D : Int)) ≤ (D0 : Int))) (hl : wrap64 (1 + (D : Int)) ≤ (D0 : Int)) : (D0 : Int) = (D1 : Int) := by
  rcases h with ⟨_, h⟩ | ⟨h, _⟩
  · omega
  · rw [h]
end Go.Proofs.Ytpnaibfefpeikaa
