/-
  WHAT IS PROVED HERE: what the document's calls of layer 1 hand back: masks, cuts, a number turned, in whatever world.
-/
import Derived.Test.YtiodfenkbhlpdaaDoorRb
import Derived.Test.YtiodfenkbhlpdaaDoorNb
namespace Go.Proofs.YtiodfenkbhlpdaaDoor
open Go.RowKit
/-- A loop over one row: the result's block, the row's. -/
structure R1 (w : World) (rb b : Nat) (f : Nat → Bool) (V : World) : Prop where
  below : Below w.heap.size w V
  le : w.heap.size ≤ rb
  lt : rb < b
  blt : b < V.heap.size
  r0 : V.cell? ⟨rb, 0, none⟩ = some (.int .u64 0)
  r1 : V.cell? ⟨rb, 1, none⟩ = some (.int .u64 0)
  fr : ∀ o, V.frozen? ⟨rb, o, none⟩ = false
  row : RowAt V b f
theorem R1.set {w V : World} {rb b : Nat} {f : Nat → Bool} (h : R1 w rb b f V) (k : Nat) (hk : k < 128) (x : Bool) : R1 w rb b (fun i => if i = k then x else f i) (V.setCell ⟨b, k, none⟩ (.bool x)) := by
  have h1 := h.le
  have h2 := h.lt
  exact ⟨h.below.setCell (by show _ ≤ b; omega) _, h.le, h.lt, by simpa [World.setCell] using h.blt, (World.cell?_setCell_other _ _ _ _ (by simp <;> omega)).trans h.r0, (World.cell?_setCell_other _ _ _ _ (by simp <;> omega)).trans h.r1, fun o => by rw [World.frozen?_setCell]; exact h.fr o, h.row.set k hk x⟩
theorem R1.p0 {w V : World} {rb b : Nat} {f : Nat → Bool} (h : R1 w rb b f V) (y : Ext) : (plus V y).cell? ⟨rb, 0, none⟩ = some (.int .u64 0) := (cell_plus V y _ _ (Nat.lt_trans h.lt h.blt)).trans h.r0
theorem R1.p1 {w V : World} {rb b : Nat} {f : Nat → Bool} (h : R1 w rb b f V) (y : Ext) : (plus V y).cell? ⟨rb, 1, none⟩ = some (.int .u64 0) := (cell_plus V y _ _ (Nat.lt_trans h.lt h.blt)).trans h.r1
theorem R1.pf {w V : World} {rb b : Nat} {f : Nat → Bool} (h : R1 w rb b f V) (y : Ext) (o : Nat) : (plus V y).frozen? ⟨rb, o, none⟩ = false := (frozen_plus V y _ _ (Nat.lt_trans h.lt h.blt)).trans (h.fr o)
theorem R1.fin {w V : World} {rb b : Nat} {f : Nat → Bool} (h : R1 w rb b f V) (y : Ext) (u v : Value) : ∃ x, ((plus V y).setCell ⟨rb, 0, none⟩ u).setCell ⟨rb, 1, none⟩ v = plus w x := own_end h.below h.le u v
theorem R1.congr {w V : World} {rb b : Nat} {f g : Nat → Bool} (h : R1 w rb b f V) (e : ∀ i, i < 128 → f i = g i) : R1 w rb b g V := ⟨h.below, h.le, h.lt, h.blt, h.r0, h.r1, h.fr, h.row.congr e⟩
/-- A row is made behind a call: the result's block stands. -/
theorem R1.make {w W : World} {rb : Nat} {x : Ext} (hB : Below w.heap.size w W) (hle : w.heap.size ≤ rb) (hlt : rb < W.heap.size) (r0 : ∀ y, (plus W y).cell? ⟨rb, 0, none⟩ = some (.int .u64 0)) (r1 : ∀ y, (plus W y).cell? ⟨rb, 1, none⟩ = some (.int .u64 0)) (fr : ∀ y o, (plus W y).frozen? ⟨rb, o, none⟩ = false) (f : Nat → Bool) (T : TypeId) :
    R1 w rb (plus W x).heap.size f ((plus W x).alloc (.cells (rowL f).toArray T)) := by
  have hs := size_plus W x
  have h0 := hB.size
  exact ⟨(hB.trans ((below_plus W x).mono h0)).alloc (by omega) _, hle, by omega, by simp, (cell_old _ _ _ 0 (by omega)).trans (r0 x), (cell_old _ _ _ 1 (by omega)).trans (r1 x), fun o => (frozen_old _ _ _ o (by omega)).trans (fr x o), RowAt.new _ f T⟩
/-- Behind k rounds: so many bits are turned into others. -/
def upto (g f : Nat → Bool) (k i : Nat) : Bool := if i < k then g i else f i
theorem upto_zero (g f : Nat → Bool) (i : Nat) : upto g f 0 i = f i := if_neg (by omega)
theorem upto_at (g f : Nat → Bool) (k : Nat) : upto g f k k = f k := if_neg (by omega)
theorem upto_succ (g f : Nat → Bool) (k i : Nat) : (if i = k then g k else upto g f k i) = upto g f (k + 1) i := by
  unfold upto
  by_cases h : i = k
  · subst h; rw [if_pos rfl, if_pos (by omega)]
  · rw [if_neg h]
    by_cases h1 : i < k
    · rw [if_pos h1, if_pos (by omega)]
    · rw [if_neg h1, if_neg (by omega)]
theorem upto_all (g f : Nat → Bool) (i : Nat) (h : i < 128) : upto g f 128 i = g i := if_pos h
/-- The bits below a width. -/
def maskF (k : Int) (i : Nat) : Bool := decide ((i : Int) < k)
theorem mask_num (k : Int) : numF (maskF k) = 2 ^ hw k - 1 := by
  refine numF_eq _ _ (mask_lt k) fun i hi => ?_
  rw [Nat.testBit_two_pow_sub_one]
  unfold maskF hw heldZ
  rw [decide_eq_decide]; omega
/-- The bits below a width, of a number. -/
def cutF (n : Nat) (k : Int) (i : Nat) : Bool := bitF n i && decide ((i : Int) < k)
theorem cut_num (n : Nat) (k : Int) : numF (cutF n k) = n % 2 ^ hw k := by
  refine numF_eq _ _ (mod_hw_lt n k) fun i hi => ?_
  rw [Nat.testBit_mod_two_pow]
  unfold cutF bitF
  rw [Bool.and_comm]
  congr 1
  unfold hw heldZ
  rw [decide_eq_decide]; omega
theorem R1.write {w V : World} {rb b : Nat} {f : Nat → Bool} (h : R1 w rb b f V) (g : Nat → Bool) : R1 w rb b g (V.setCells b 0 (rowL g)) := by
  have h1 := h.le
  have h2 := h.lt
  refine ⟨below_setCells _ _ _ _ _ h.below (by omega), h.le, h.lt, Nat.lt_of_lt_of_le h.blt (below_setCells _ _ _ _ _ (Below.refl 0 V) (Nat.zero_le _)).size, ?_, ?_, fun o => by rw [World.frozen?_setCells]; exact h.fr o, h.row.written g⟩
  · rw [World.cell?_setCells_out _ _ _ _ _ (fun e _ => absurd e (by simp; omega))]; exact h.r0
  · rw [World.cell?_setCells_out _ _ _ _ _ (fun e _ => absurd e (by simp; omega))]; exact h.r1
end Go.Proofs.YtiodfenkbhlpdaaDoor
