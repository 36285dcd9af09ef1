/-
  WHAT IS PROVED HERE: what the literal in Items of the landed ast hands back, of any statements that lie in memory and are not too great. · what Items of the landed ast hands back, of any program that lies in memory and is not too great. Written by gen/hc.py.
-/
import Derived.Test.YtlmhldcebllckaaGreatRows
import Derived.Test.YtlmhldcebllckaaGreatHL
import Derived.WalkKit
import Derived.Lib.Hide
import Derived.WalkSpells
import Derived.WalkLawsBesides
import Derived.Laws.EntriesVeiled
import Derived.Shelf.Abstract
import Derived.Test.YtlmhldcebllckaaGreatSf
import Derived.Test.YtlmhldcebllckaaGreatGE
namespace Go.Proofs.YtlmhldcebllckaaGreat
open Go.RowKit
mutual
/-- How many items statements have. -/
def St.it : St → Nat
  | .mk _ _ _ _ _ _ thn _ _ els => 1 + (St.its thn + St.its els)
def St.its : List St → Nat
  | [] => 0
  | s :: l => s.it + St.its l
end
theorem St.it_eq (s : St) : s.it = 1 + (St.its s.thn + St.its s.els) := by cases s; rw [St.it]; rfl
/-- What a statement holds beside itself. -/
def St.more (s : St) : Nat := St.its s.thn + St.its s.els
theorem St.its_sum : ∀ l : List St, St.its l = l.length + (l.map St.more).sum
  | [] => by simp [St.its]
  | s :: l => by
    rw [St.its, St.its_sum l, St.it_eq]
    simp only [List.length_cons, List.map_cons, List.sum_cons, St.more]
    omega
theorem St.its_le (l : List St) (h : ∀ s ∈ l, s.it ≤ s.sz) : St.its l ≤ (l.map St.sz).sum := by
  induction l with
  | nil => simp [St.its]
  | cons s l ih =>
    have := h s (List.mem_cons_self)
    have := ih (fun s hs => h s (List.mem_cons_of_mem _ hs))
    simp only [St.its, List.map_cons, List.sum_cons]
    omega
theorem St.it_le : ∀ s : St, s.it ≤ s.sz := fun s => St.ind (Q := fun s => s.it ≤ s.sz) (fun s h1 h2 => by
  have := St.its_le s.thn h1
  have := St.its_le s.els h2
  rw [St.it_eq, St.sz_eq]
  omega) s
theorem St.its_sz (l : List St) : St.its l ≤ (l.map St.sz).sum := St.its_le l fun s _ => St.it_le s
theorem it_step (T0 T1 I1 I2 n M S R : Nat) (h3 : T1 = T0 + (I1 + I2)) (h4 : T1 ≤ n + M) (hsum : R = n + M) (hle : R ≤ S) (hb : S ≤ 1048576) : wrap64 ((T0 : Int) + wrap64 ((I1 : Int) + (I2 : Int))) = (T1 : Int) := by
  rw [wr_in ((I1 : Int) + (I2 : Int)) (by omega), wr_in _ (by omega)]
  omega
theorem St.thn_sz (s : St) {m n : Nat} (h : s.sz ≤ m) (k : m ≤ n) : (s.thn.map St.sz).sum ≤ n := by rw [St.sz_eq] at h; omega
theorem St.els_sz (s : St) {m n : Nat} (h : s.sz ≤ m) (k : m ≤ n) : (s.els.map St.sz).sum ≤ n := by rw [St.sz_eq] at h; omega
end Go.Proofs.YtlmhldcebllckaaGreat
namespace Go.Proofs.YtlmhldcebllckaaGreat
open Go.RowKit
def hrN (h : Hr) : Nat := h.fields.l.length
def saN (s : Sa) : Nat := s.takes.l.length + s.cases.l.length
def acN (a : Ac) : Nat := a.params.l.length + St.its a.body.l
def taN (t : Ta) : Nat := t.keys.l.length + t.actions.l.length
/-- How many items, but for those within headers, states, actions, tables. -/
def prN (p : Pr) : Nat := p.headers.l.length + p.metas.l.length + 2 * p.states.l.length + p.actions.l.length + 2 * p.tables.l.length + St.its p.control.l + p.emit.l.length
/-- How many items. -/
def prI (p : Pr) : Nat := prN p + (p.headers.l.map hrN).sum + (p.states.l.map saN).sum + (p.actions.l.map acN).sum + (p.tables.l.map taN).sum
theorem sum_mono {α : Type} (f g : α → Nat) (h : ∀ x, f x + 1 ≤ g x) : ∀ l : List α, l.length + (l.map f).sum ≤ (l.map g).sum
  | [] => by simp
  | x :: l => by
    have := sum_mono f g h l
    have := h x
    simp only [List.length_cons, List.map_cons, List.sum_cons]
    omega
theorem len_sz {α : Type} (f : α → Nat) (hf : ∀ x, 1 ≤ f x) (L : Sl α) : L.l.length ≤ L.size f := length_le_sum f hf L.l
theorem prI_le (p : Pr) (h : p.sz ≤ 1048576) : prI p ≤ 2097152 := by
  unfold Pr.sz at h
  have h1 := sum_mono hrN Hr.sz (fun x => by have := len_sz Fd.sz Fd.sz_pos x.fields; unfold hrN Hr.sz; omega) p.headers.l
  have h2 := sum_mono saN Sa.sz (fun x => by have := len_sz strSize strSize_pos x.takes; have := len_sz Ca.sz sz_pos_ca x.cases; unfold saN Sa.sz; omega) p.states.l
  have h3 := sum_mono acN Ac.sz (fun x => by have := len_sz Fd.sz Fd.sz_pos x.params; have : St.its x.body.l ≤ x.body.size St.sz := St.its_sz x.body.l; unfold acN Ac.sz; omega) p.actions.l
  have h4 := sum_mono taN Ta.sz (fun x => by have := len_sz Ke.sz sz_pos_ke x.keys; have := len_sz strSize strSize_pos x.actions; unfold taN Ta.sz; omega) p.tables.l
  have h5 := len_sz Fd.sz Fd.sz_pos p.metas
  have h6 := len_sz strSize strSize_pos p.emit
  have h7 : St.its p.control.l ≤ p.control.size St.sz := St.its_sz p.control.l
  have e1 : p.headers.size Hr.sz = (p.headers.l.map Hr.sz).sum := rfl
  have e2 : p.states.size Sa.sz = (p.states.l.map Sa.sz).sum := rfl
  have e3 : p.actions.size Ac.sz = (p.actions.l.map Ac.sz).sum := rfl
  have e4 : p.tables.size Ta.sz = (p.tables.l.map Ta.sz).sum := rfl
  unfold prI prN
  omega
theorem n0_eq (h m s a t c e B : Nat) (hB : h + m + 2 * s + a + 2 * t + c + e = B) (hb : B ≤ 2097152) : wrap64 (wrap64 (wrap64 (wrap64 (wrap64 (wrap64 ((h : Int) + (m : Int)) + wrap64 (2 * (s : Int))) + (a : Int)) + wrap64 (2 * (t : Int))) + (c : Int)) + (e : Int)) = (B : Int) := by
  rw [wr_in ((h : Int) + (m : Int)) (by omega), wr_in (2 * (s : Int)) (by omega), wr_in ((h : Int) + (m : Int) + 2 * (s : Int)) (by omega), wr_in ((h : Int) + (m : Int) + 2 * (s : Int) + (a : Int)) (by omega), wr_in (2 * (t : Int)) (by omega), wr_in ((h : Int) + (m : Int) + 2 * (s : Int) + (a : Int) + 2 * (t : Int)) (by omega), wr_in ((h : Int) + (m : Int) + 2 * (s : Int) + (a : Int) + 2 * (t : Int) + (c : Int)) (by omega), wr_in _ (by omega)]
  omega
theorem add1 (T0 T1 x : Nat) {n M : Nat} (h : T1 = T0 + x) (h4 : T1 ≤ n + M) (hb : n + M ≤ 2097152) : wrap64 ((T0 : Int) + (x : Int)) = (T1 : Int) := by
  rw [wr_in _ (by omega)]; omega
theorem add2 (T0 T1 x y : Nat) {n M : Nat} (h : T1 = T0 + (x + y)) (h4 : T1 ≤ n + M) (hb : n + M ≤ 2097152) : wrap64 ((T0 : Int) + wrap64 ((x : Int) + (y : Int))) = (T1 : Int) := by
  rw [wr_in ((x : Int) + (y : Int)) (by omega), wr_in _ (by omega)]; omega
theorem bound_of {x y : Nat} (h : x + y ≤ 2097152) : x ≤ 2097152 := by omega
end Go.Proofs.YtlmhldcebllckaaGreat
