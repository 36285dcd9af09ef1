/-
  WHAT IS PROVED HERE: a part of the proof of the claim's theorem: RR; Rj; Rk; Rl; Uf.
-/
import Derived.Test.YtkffjjlmoojffaaGreatDoorB1
import Derived.Test.YtkffjjlmoojffaaGreatDoorB3
import Derived.Test.YtkffjjlmoojffaaGreatDoorRows
import Derived.WalkKit
import Derived.Deep.MidRow
import Derived.WalkSpells
import Derived.WalkLawsBesides
import Derived.OrdersHeld
import Derived.Test.YtkffjjlmoojffaaGreatDoorB4
import Derived.Deep.RegionWith
set_option linter.all false
namespace Go.Proofs.YtkffjjlmoojffaaGreatDoor
open Go.RowKit
def rowL (f : Nat → Bool) : List Value := (List.range 128).map fun i => .bool (f i)
abbrev rowV (f : Nat → Bool) : Value := .agg (rowL f).toArray
theorem rowL_length (f : Nat → Bool) : (rowL f).length = 128 := by simp [rowL]
theorem rowL_get (f : Nat → Bool) (i : Nat) (h : i < 128) : (rowL f)[i]? = some (.bool (f i)) := by simp [rowL, h]
structure BitsAt (V : World) (b : Nat) (f : Nat → Bool) : Prop where
  c : ∀ i, i < 128 → V.cell? ⟨b, i, none⟩ = some (.bool (f i))
  fz : ∀ o, V.frozen? ⟨b, o, none⟩ = false
theorem BitsAt.range {V : World} {b : Nat} {f : Nat → Bool} (h : BitsAt V b f) : V.rangeAt b 0 (rowL f) := by
  intro j v hv
  have hj : j < 128 := by have := (List.getElem?_eq_some_iff.1 hv).1; rwa [rowL_length] at this
  rw [rowL_get f j hj] at hv
  rw [← Option.some.inj hv, Nat.zero_add]
  exact h.c j hj
theorem BitsAt.there {V : World} {b : Nat} {f : Nat → Bool} (h : BitsAt V b f) : V.there b 0 128 := fun j hj => by
  rw [Nat.zero_add]
  exact ⟨by rw [h.c j hj]; rfl, h.fz j⟩
theorem BitsAt.congr {V : World} {b : Nat} {f g : Nat → Bool} (h : BitsAt V b f) (e : ∀ i, i < 128 → f i = g i) : BitsAt V b g := ⟨fun i hi => by rw [← e i hi]; exact h.c i hi, h.fz⟩
theorem BitsAt.written {V : World} {b : Nat} {g : Nat → Bool} (h : BitsAt V b g) (f : Nat → Bool) : BitsAt (V.setCells b 0 (rowL f)) b f := by
  refine ⟨fun i hi => ?_, fun o => ?_⟩
  · have := World.rangeAt_setCells_same V b 0 (rowL f) (by rw [rowL_length]; exact h.there) i (.bool (f i)) (rowL_get f i hi)
    rwa [Nat.zero_add] at this
  · rw [World.frozen?_setCells]; exact h.fz o
theorem BitsAt.below {V V' : World} {b B : Nat} {f : Nat → Bool} (h : BitsAt V b f) (hV : Below B V V') (hb : b < B) : BitsAt V' b f :=
  ⟨fun i hi => (hV.cell (p := ⟨b, i, none⟩) hb).trans (h.c i hi), fun o => (hV.frozen (p := ⟨b, o, none⟩) hb).trans (h.fz o)⟩
theorem BitsAt.plus {V : World} {b : Nat} {f : Nat → Bool} (h : BitsAt V b f) (hb : b < V.heap.size) (x : Ext) : BitsAt (plus V x) b f := h.below (below_plus V x) hb
theorem BitsAt.other {V : World} {b : Nat} {f : Nat → Bool} (h : BitsAt V b f) (a : Addr) (ha : a.block ≠ b) (v : Value) : BitsAt (V.setCell a v) b f :=
  ⟨fun i hi => (World.cell?_setCell_other _ _ _ _ (fun e => ha (by rw [e]))).trans (h.c i hi), fun o => by rw [World.frozen?_setCell]; exact h.fz o⟩
theorem BitsAt.set {V : World} {b : Nat} {f : Nat → Bool} (h : BitsAt V b f) (k : Nat) (hk : k < 128) (x : Bool) : BitsAt (V.setCell ⟨b, k, none⟩ (.bool x)) b (fun i => if i = k then x else f i) := by
  refine ⟨fun i hi => ?_, fun o => by rw [World.frozen?_setCell]; exact h.fz o⟩
  by_cases e : i = k
  · subst e
    rw [if_pos rfl]
    exact World.cell?_setCell_same _ _ _ (h.c i hi)
  · rw [if_neg e, World.cell?_setCell_other _ _ _ _ (by intro h; injection h with _ h2; omega)]
    exact h.c i hi
theorem BitsAt.new (w : World) (f : Nat → Bool) (T : TypeId) : BitsAt (w.alloc (.cells (rowL f).toArray T)) w.heap.size f :=
  ⟨fun i hi => (cell_new w _ T _ i rfl).trans (by simpa using rowL_get f i hi), fun o => frozen_new w _ T _ o rfl⟩
theorem BitsAt.old {V : World} {b : Nat} {f : Nat → Bool} (h : BitsAt V b f) (hb : b < V.heap.size) (o : Obj) : BitsAt (V.alloc o) b f := h.below ((Below.refl _ _).alloc (Nat.le_refl _) o) hb
end Go.Proofs.YtkffjjlmoojffaaGreatDoor
namespace Go.Proofs.YtkffjjlmoojffaaGreatDoor
open Go.RowKit
def bitF (n i : Nat) : Bool := n.testBit i
theorem half (a k : Nat) : ((a / 2 ^ k : Nat) : Int) / 2 = ((a / 2 ^ (k + 1) : Nat) : Int) := by rw [Nat.pow_succ, ← Nat.div_div_eq_div_mul]; rfl
def bitsF (n k i : Nat) : Bool := (decide (i < k) || (decide (64 ≤ i) && decide (i < 64 + k))) && bitF n i
theorem bitsF_zero (n i : Nat) : bitsF n 0 i = false := by
  unfold bitsF
  by_cases h1 : 64 ≤ i
  · simp; omega
  · simp [h1]
theorem bitsF_succ (n k i : Nat) (hk : k < 64) : (if i = 64 + k then bitF n (64 + k) else if i = k then bitF n k else bitsF n k i) = bitsF n (k + 1) i := by
  unfold bitsF
  by_cases h1 : i = 64 + k
  · subst h1; rw [if_pos rfl]; simp
  · rw [if_neg h1]
    by_cases h2 : i = k
    · subst h2; rw [if_pos rfl]; simp
    · rw [if_neg h2]
      congr 1
      rw [Bool.eq_iff_iff]
      simp only [Bool.or_eq_true, Bool.and_eq_true, decide_eq_true_eq]
      omega
structure BitsInv (w : World) (n k : Nat) (V : World) : Prop where
  below : Below w.heap.size w V
  size : w.heap.size + 1 + 1 + 1 ≤ V.heap.size
  n0 : V.cell? ⟨w.heap.size, 0, none⟩ = some (.int .u64 ((n / 2 ^ 64 / 2 ^ k : Nat) : Int))
  n1 : V.cell? ⟨w.heap.size, 1, none⟩ = some (.int .u64 ((n % 2 ^ 64 / 2 ^ k : Nat) : Int))
  fn : ∀ o, V.frozen? ⟨w.heap.size, o, none⟩ = false
  res : BitsAt V (w.heap.size + 1) fun _ => false
  row : BitsAt V (w.heap.size + 1 + 1) (bitsF n k)
theorem BitsInv.start (w : World) (n : Nat) (T : TypeId) : BitsInv w n 0 (((w.alloc (.cells #[.int .u64 (hi n), .int .u64 (lo n)] T)).alloc (.cells (rowL fun _ => false).toArray 180)).alloc (.cells (rowL fun _ => false).toArray 180)) := by
  have h1 : (w.alloc (.cells #[.int .u64 (hi n), .int .u64 (lo n)] T)).heap.size = w.heap.size + 1 := by simp
  have h2 : ((w.alloc (.cells #[.int .u64 (hi n), .int .u64 (lo n)] T)).alloc (.cells (rowL fun _ => false).toArray 180)).heap.size = w.heap.size + 1 + 1 := by simp
  refine ⟨(((Below.refl _ _).alloc (Nat.le_refl _) _).alloc (by omega) _).alloc (by omega) _, by simp, ?_, ?_, ?_, ?_, ?_⟩
  · rw [Nat.pow_zero, Nat.div_one]; exact (cell_old _ _ _ 0 (by omega)).trans ((cell_old _ _ _ 0 (by omega)).trans (cell_new w _ T _ 0 rfl))
  · rw [Nat.pow_zero, Nat.div_one]; exact (cell_old _ _ _ 1 (by omega)).trans ((cell_old _ _ _ 1 (by omega)).trans (cell_new w _ T _ 1 rfl))
  · exact fun o => (frozen_old _ _ _ o (by omega)).trans ((frozen_old _ _ _ o (by omega)).trans (frozen_new w _ T _ o rfl))
  · have := (BitsAt.new (w.alloc (.cells #[.int .u64 (hi n), .int .u64 (lo n)] T)) (fun _ => false) 180).old (by simp) (.cells (rowL fun _ => false).toArray 180)
    rwa [h1] at this
  · have := BitsAt.new ((w.alloc (.cells #[.int .u64 (hi n), .int .u64 (lo n)] T)).alloc (.cells (rowL fun _ => false).toArray 180)) (fun _ => false) 180
    rw [h2] at this
    exact this.congr fun i _ => (bitsF_zero n i).symm
theorem BitsInv.step {w V : World} {n k : Nat} (h : BitsInv w n k V) (hk : k < 64) (N M : Int) (hN : N = ((n / 2 ^ 64 / 2 ^ (k + 1) : Nat) : Int)) (hM : M = ((n % 2 ^ 64 / 2 ^ (k + 1) : Nat) : Int)) :
    BitsInv w n (k + 1) ((((V.setCell ⟨w.heap.size + 1 + 1, k, none⟩ (.bool (bitF n k))).setCell ⟨w.heap.size + 1 + 1, 64 + k, none⟩ (.bool (bitF n (64 + k)))).setCell ⟨w.heap.size, 1, none⟩ (.int .u64 M)).setCell ⟨w.heap.size, 0, none⟩ (.int .u64 N)) := by
  subst hN hM
  refine ⟨(((h.below.setCell (Nat.le_add_right _ 2) _).setCell (Nat.le_add_right _ 2) _).setCell (Nat.le_refl _) _).setCell (Nat.le_refl _) _, by have := h.size; simp [World.setCell]; omega, ?_, ?_, ?_, ?_, ?_⟩
  · refine World.cell?_setCell_same _ _ _ (u := .int .u64 ((n / 2 ^ 64 / 2 ^ k : Nat) : Int)) ?_
    rw [World.cell?_setCell_other _ _ _ _ (by simp), World.cell?_setCell_other _ _ _ _ (by simp), World.cell?_setCell_other _ _ _ _ (by simp)]; exact h.n0
  · rw [World.cell?_setCell_other _ _ _ _ (by simp)]
    refine World.cell?_setCell_same _ _ _ (u := .int .u64 ((n % 2 ^ 64 / 2 ^ k : Nat) : Int)) ?_
    rw [World.cell?_setCell_other _ _ _ _ (by simp), World.cell?_setCell_other _ _ _ _ (by simp)]; exact h.n1
  · intro o; simp only [World.frozen?_setCell]; exact h.fn o
  · exact (((h.res.other _ (by simp) _).other _ (by simp) _).other _ (by simp) _).other _ (by simp) _
  · refine (((((h.row.set k (by omega) _).set (64 + k) (by omega) _).other _ (by simp <;> omega) _).other _ (by simp <;> omega) _)).congr fun i _ => ?_
    exact bitsF_succ n k i hk
end Go.Proofs.YtkffjjlmoojffaaGreatDoor
namespace Go.Proofs.YtkffjjlmoojffaaGreatDoor
open Go.RowKit
structure N2 (w : World) (f : Nat → Bool) (h l : Int) (V : World) : Prop where
  below : Below w.heap.size w V
  size : w.heap.size + 1 + 1 + 1 ≤ V.heap.size
  n0 : V.cell? ⟨w.heap.size + 1 + 1, 0, none⟩ = some (.int .u64 h)
  n1 : V.cell? ⟨w.heap.size + 1 + 1, 1, none⟩ = some (.int .u64 l)
  r0 : V.cell? ⟨w.heap.size + 1, 0, none⟩ = some (.int .u64 0)
  r1 : V.cell? ⟨w.heap.size + 1, 1, none⟩ = some (.int .u64 0)
  fn : ∀ o, V.frozen? ⟨w.heap.size + 1 + 1, o, none⟩ = false
  fr : ∀ o, V.frozen? ⟨w.heap.size + 1, o, none⟩ = false
  row : BitsAt V w.heap.size f
theorem N2.start (w : World) (f : Nat → Bool) (T : TypeId) : N2 w f 0 0 (((w.alloc (.cells (rowL f).toArray 180)).alloc (.cells #[.int .u64 0, .int .u64 0] T)).alloc (.cells #[.int .u64 0, .int .u64 0] T)) := by
  have h1 : (w.alloc (.cells (rowL f).toArray 180)).heap.size = w.heap.size + 1 := by simp
  have h2 : ((w.alloc (.cells (rowL f).toArray 180)).alloc (.cells #[.int .u64 0, .int .u64 0] T)).heap.size = w.heap.size + 1 + 1 := by simp
  exact ⟨(((Below.refl _ _).alloc (Nat.le_refl _) _).alloc (by omega) _).alloc (by omega) _, by simp, cell_new _ _ T _ 0 h2.symm, cell_new _ _ T _ 1 h2.symm,
    (cell_old _ _ _ 0 (by omega)).trans (cell_new _ _ T _ 0 h1.symm), (cell_old _ _ _ 1 (by omega)).trans (cell_new _ _ T _ 1 h1.symm), fun o => frozen_new _ _ T _ o h2.symm, fun o => (frozen_old _ _ _ o (by omega)).trans (frozen_new _ _ T _ o h1.symm),
    ((BitsAt.new w f 180).old (by simp) _).old (by omega) _⟩
end Go.Proofs.YtkffjjlmoojffaaGreatDoor
namespace Go.Proofs.YtkffjjlmoojffaaGreatDoor
open Go.RowKit
structure R1 (w : World) (rb b : Nat) (f : Nat → Bool) (V : World) : Prop where
  below : Below w.heap.size w V
  le : w.heap.size ≤ rb
  lt : rb < b
  blt : b < V.heap.size
  r0 : V.cell? ⟨rb, 0, none⟩ = some (.int .u64 0)
  r1 : V.cell? ⟨rb, 1, none⟩ = some (.int .u64 0)
  fr : ∀ o, V.frozen? ⟨rb, o, none⟩ = false
  row : BitsAt V b f
theorem R1.set {w V : World} {rb b : Nat} {f : Nat → Bool} (h : R1 w rb b f V) (k : Nat) (hk : k < 128) (x : Bool) : R1 w rb b (fun i => if i = k then x else f i) (V.setCell ⟨b, k, none⟩ (.bool x)) := by
  have h1 := h.le
  have h2 := h.lt
  exact ⟨h.below.setCell (by show _ ≤ b; omega) _, h.le, h.lt, by simpa [World.setCell] using h.blt, (World.cell?_setCell_other _ _ _ _ (by simp <;> omega)).trans h.r0, (World.cell?_setCell_other _ _ _ _ (by simp <;> omega)).trans h.r1, fun o => by rw [World.frozen?_setCell]; exact h.fr o, h.row.set k hk x⟩
theorem R1.p0 {w V : World} {rb b : Nat} {f : Nat → Bool} (h : R1 w rb b f V) (y : Ext) : (plus V y).cell? ⟨rb, 0, none⟩ = some (.int .u64 0) := (cell_plus V y _ _ (Nat.lt_trans h.lt h.blt)).trans h.r0
theorem R1.p1 {w V : World} {rb b : Nat} {f : Nat → Bool} (h : R1 w rb b f V) (y : Ext) : (plus V y).cell? ⟨rb, 1, none⟩ = some (.int .u64 0) := (cell_plus V y _ _ (Nat.lt_trans h.lt h.blt)).trans h.r1
theorem R1.pf {w V : World} {rb b : Nat} {f : Nat → Bool} (h : R1 w rb b f V) (y : Ext) (o : Nat) : (plus V y).frozen? ⟨rb, o, none⟩ = false := (frozen_plus V y _ _ (Nat.lt_trans h.lt h.blt)).trans (h.fr o)
theorem R1.congr {w V : World} {rb b : Nat} {f g : Nat → Bool} (h : R1 w rb b f V) (e : ∀ i, i < 128 → f i = g i) : R1 w rb b g V := ⟨h.below, h.le, h.lt, h.blt, h.r0, h.r1, h.fr, h.row.congr e⟩
end Go.Proofs.YtkffjjlmoojffaaGreatDoor
namespace Go.Proofs.YtkffjjlmoojffaaGreatDoor
open Go.RowKit
end Go.Proofs.YtkffjjlmoojffaaGreatDoor
namespace Go.Proofs.YtkffjjlmoojffaaGreatDoor
open Go.RowKit
structure R2 (w : World) (rb bx b : Nat) (f g : Nat → Bool) (V : World) : Prop where
  one : R1 w rb b g V
  lx : rb < bx
  xb : bx < b
  x : BitsAt V bx f
theorem R2.set {w V : World} {rb bx b : Nat} {f g : Nat → Bool} (h : R2 w rb bx b f g V) (k : Nat) (hk : k < 128) (x : Bool) : R2 w rb bx b f (fun i => if i = k then x else g i) (V.setCell ⟨b, k, none⟩ (.bool x)) := by
  have := h.xb
  exact ⟨h.one.set k hk x, h.lx, h.xb, h.x.other _ (by simp; omega) _⟩
theorem R2.congr {w V : World} {rb bx b : Nat} {f g g' : Nat → Bool} (h : R2 w rb bx b f g V) (e : ∀ i, i < 128 → g i = g' i) : R2 w rb bx b f g' V := ⟨h.one.congr e, h.lx, h.xb, h.x⟩
end Go.Proofs.YtkffjjlmoojffaaGreatDoor
namespace Go.Proofs.YtkffjjlmoojffaaGreatDoor
open Go.RowKit
end Go.Proofs.YtkffjjlmoojffaaGreatDoor
namespace Go.Proofs.YtkffjjlmoojffaaGreatDoor
open Go.RowKit
structure Laid (B : Nat) (V : World) (t : Value) (on wr : Bool) (f : Nat → Bool) : Prop where
  row : on = true → ∃ p, t = .pointer (some ⟨p, 0, none⟩) ∧ B ≤ p ∧ p < V.heap.size ∧ ∃ g, BitsAt V p g ∧ (wr = true → g = f)
  need : wr = true → on = true
structure TwoRows (w W : World) (va vb : Value) (f g : Nat → Bool) (b0 b1 b2 b3 b4 b5 b6 b7 : Bool) (t5 t6 t8 t9 t10 t11 : Value) (V : World) : Prop where
  below : Below W.heap.size W V
  e0 : b0 = true → t8 = va
  e1 : b1 = true → t9 = rowV f
  e2 : b2 = true → t10 = vb
  e3 : b3 = true → t11 = rowV g
  x : Laid W.heap.size V t5 b4 b6 f
  y : Laid W.heap.size V t6 b5 b7 g
  apart : b4 = true → b5 = true → ∀ p q, t5 = .pointer (some ⟨p, 0, none⟩) → t6 = .pointer (some ⟨q, 0, none⟩) → p ≠ q
theorem TwoRows.start {w W : World} {va vb : Value} {f g : Nat → Bool} {t5 t6 t8 t9 t10 t11 : Value} (x : Ext) : TwoRows w W va vb f g false false false false false false false false t5 t6 t8 t9 t10 t11 (plus W x) :=
  ⟨below_plus W x, by simp, by simp, by simp, by simp, ⟨by simp, by simp⟩, ⟨by simp, by simp⟩, by simp⟩
section
variable {w W V : World} {va vb : Value} {f g : Nat → Bool} {b0 b1 b2 b3 b4 b5 b6 b7 : Bool} {t5 t6 t8 t9 t10 t11 : Value}
theorem Laid.new (V : World) (B : Nat) (hB : B ≤ V.heap.size) (T : TypeId) (f : Nat → Bool) : Laid B (V.alloc (.cells (rowL fun _ => false).toArray T)) (.pointer (some ⟨V.heap.size, 0, none⟩)) true false f :=
  ⟨fun _ => ⟨V.heap.size, rfl, hB, by simp, _, BitsAt.new V _ T, by simp⟩, by simp⟩
end
end Go.Proofs.YtkffjjlmoojffaaGreatDoor
namespace Go.Proofs.YtkffjjlmoojffaaGreatDoor
open Go.RowKit
structure R3 (w : World) (rb p q : Nat) (f g : Nat → Bool) (V : World) : Prop where
  one : R1 w rb p f V
  apart : p ≠ q
  y : BitsAt V q g
theorem R3.set {w V : World} {rb p q : Nat} {f g : Nat → Bool} (h : R3 w rb p q f g V) (k : Nat) (hk : k < 128) (x : Bool) : R3 w rb p q (fun i => if i = k then x else f i) g (V.setCell ⟨p, k, none⟩ (.bool x)) :=
  ⟨h.one.set k hk x, h.apart, h.y.other _ h.apart _⟩
theorem R3.yl {w V : World} {rb p q : Nat} {f g : Nat → Bool} (h : R3 w rb p q f g V) : q < V.heap.size := World.block_lt_of_cell? V ⟨q, 0, none⟩ (h.y.c 0 (by omega))
theorem R3.grow {w V : World} {rb p q : Nat} {f g : Nat → Bool} (h : R3 w rb p q f g V) (x : Ext) : R3 w rb p q f g (plus V x) :=
  ⟨⟨h.one.below.trans ((below_plus V x).mono h.one.below.size), h.one.le, h.one.lt, Nat.lt_of_lt_of_le h.one.blt (size_plus V x), h.one.p0 x, h.one.p1 x, h.one.pf x, h.one.row.plus h.one.blt x⟩, h.apart, h.y.plus h.yl x⟩
theorem R3.congr {w V : World} {rb p q : Nat} {f f' g : Nat → Bool} (h : R3 w rb p q f g V) (e : ∀ i, i < 128 → f i = f' i) : R3 w rb p q f' g V := ⟨h.one.congr e, h.apart, h.y⟩
end Go.Proofs.YtkffjjlmoojffaaGreatDoor
namespace Go.Proofs.YtkffjjlmoojffaaGreatDoor
open Go.RowKit
end Go.Proofs.YtkffjjlmoojffaaGreatDoor
namespace Go.Proofs.YtkffjjlmoojffaaGreatDoor
open Go.RowKit
end Go.Proofs.YtkffjjlmoojffaaGreatDoor
namespace Go.Proofs.YtkffjjlmoojffaaGreatDoor
open Go.RowKit
end Go.Proofs.YtkffjjlmoojffaaGreatDoor
namespace Go.Proofs.YtkffjjlmoojffaaGreatDoor
open Go.RowKit
end Go.Proofs.YtkffjjlmoojffaaGreatDoor
namespace Go.Proofs.YtkffjjlmoojffaaGreatDoor
open Go.RowKit
end Go.Proofs.YtkffjjlmoojffaaGreatDoor
