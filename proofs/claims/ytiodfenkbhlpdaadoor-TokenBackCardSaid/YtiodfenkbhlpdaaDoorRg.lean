/-
  WHAT IS PROVED HERE: a region that draws its order goes by a condition on what has come up; nothing of any function.
-/
import Derived.Test.YtiodfenkbhlpdaaDoorRf
import Derived.OrdersHeld
namespace Go.Proofs.YtiodfenkbhlpdaaDoor
open Go.RowKit
/-- One condition for every order: on what has come up, the frame and the world. -/
theorem wpAny_inv {P : Program} {md : Region.Mode} {ops : Array Oper} {Q : Exit → Act → World → Prop} (I : Array Bool → Act → World → Prop)
    (hd : ∀ l a w, I l a w → Region.ready md ops l = [] → Q .normal a w)
    (hs : ∀ l a w i, I l a w → i ∈ Region.ready md ops l → wpOp P ops Q i (I (l.setIfInBounds i true)) a w) :
    ∀ (fuel : Nat) (l : Array Bool) (a : Act) (w : World), l.toList.count false ≤ fuel → I l a w → wpAny P md ops Q fuel l a w := by
  have key : ∀ (l : Array Bool) (j : Nat), j ∈ Region.ready md ops l → ∃ h : j < l.toList.length, l.toList[j] = false := fun l j hj => by
    have h1 := (mem_ready.1 hj).1
    by_cases h : j < l.size
    · exact ⟨by simpa using h, by simpa [Array.getD, h] using h1⟩
    · simp [Array.getD, h] at h1
  intro fuel
  induction fuel with
  | zero =>
    intro l a w hc hI
    have h0 : Region.ready md ops l = [] := by
      refine List.eq_nil_iff_forall_not_mem.2 fun j hj => ?_
      obtain ⟨h, e⟩ := key l j hj
      have h2 : false ∈ l.toList := e ▸ List.getElem_mem h
      have := List.count_pos_iff.2 h2
      omega
    exact ⟨h0, hd l a w hI h0⟩
  | succ n ih =>
    intro l a w hc hI
    refine ⟨hd l a w hI, fun i hi => ?_⟩
    obtain ⟨h, e⟩ := key l i hi
    have h2 : (l.setIfInBounds i true).toList.count false ≤ n := by
      have h3 := List.count_pos_iff.2 (e ▸ List.getElem_mem h : false ∈ l.toList)
      rw [Array.toList_setIfInBounds, List.count_set h, e, if_pos (beq_self_eq_true false), if_neg (by decide)]
      omega
    exact wpOp_mono (fun a' w' h' => ih _ a' w' h2 h') (hs l a w i hI hi)
/-- Where a row lies, or will. -/
structure Laid (B : Nat) (V : World) (t : Value) (on wr : Bool) (f : Nat → Bool) : Prop where
  row : on = true → ∃ p, t = .pointer (some ⟨p, 0, none⟩) ∧ B ≤ p ∧ p < V.heap.size ∧ ∃ g, RowAt V p g ∧ (wr = true → g = f)
  need : wr = true → on = true
/-- What a region 'x, y := .., ..' of two rows knows on its way. -/
structure Two (w W : World) (va vb : Value) (f g : Nat → Bool) (b0 b1 b2 b3 b4 b5 b6 b7 : Bool) (t5 t6 t8 t9 t10 t11 : Value) (V : World) : Prop where
  below : Below W.heap.size W V
  e0 : b0 = true → t8 = va
  e1 : b1 = true → t9 = rowV f
  e2 : b2 = true → t10 = vb
  e3 : b3 = true → t11 = rowV g
  x : Laid W.heap.size V t5 b4 b6 f
  y : Laid W.heap.size V t6 b5 b7 g
  apart : b4 = true → b5 = true → ∀ p q, t5 = .pointer (some ⟨p, 0, none⟩) → t6 = .pointer (some ⟨q, 0, none⟩) → p ≠ q
theorem Laid.go {B : Nat} {V V' : World} {t : Value} {on wr : Bool} {f : Nat → Bool} (h : Laid B V t on wr f) (hV : ∀ B, B = V.heap.size → Below B V V') : Laid B V' t on wr f := by
  refine ⟨fun e => ?_, h.need⟩
  obtain ⟨p, e1, e2, e3, g, e4, e5⟩ := h.row e
  exact ⟨p, e1, e2, Nat.lt_of_lt_of_le e3 (hV _ rfl).size, g, e4.below (hV _ rfl) e3, e5⟩
/-- What must have come up ahead of each. -/
def chk (b0 b1 b2 b3 b4 b5 : Bool) (i : Nat) : Bool := match i with
  | 0 => true
  | 1 => b0
  | 2 => true
  | 3 => b2
  | 4 => !b4
  | 5 => !b5
  | 6 => b1 && b4
  | 7 => b3 && b5
  | _ => false
theorem chk_cases (b0 b1 b2 b3 b4 b5 : Bool) (i : Nat) (h : chk b0 b1 b2 b3 b4 b5 i = true) :
    i = 0 ∨ (i = 1 ∧ b0 = true) ∨ i = 2 ∨ (i = 3 ∧ b2 = true) ∨ (i = 4 ∧ b4 = false) ∨ (i = 5 ∧ b5 = false) ∨ (i = 6 ∧ b1 = true ∧ b4 = true) ∨ (i = 7 ∧ b3 = true ∧ b5 = true) := by
  unfold chk at h
  split at h <;> simp_all
theorem Two.start {w W : World} {va vb : Value} {f g : Nat → Bool} {t5 t6 t8 t9 t10 t11 : Value} (x : Ext) : Two w W va vb f g false false false false false false false false t5 t6 t8 t9 t10 t11 (plus W x) :=
  ⟨below_plus W x, by simp, by simp, by simp, by simp, ⟨by simp, by simp⟩, ⟨by simp, by simp⟩, by simp⟩
section
variable {w W V : World} {va vb : Value} {f g : Nat → Bool} {b0 b1 b2 b3 b4 b5 b6 b7 : Bool} {t5 t6 t8 t9 t10 t11 : Value}
theorem Two.call1 (h : Two w W va vb f g b0 b1 b2 b3 b4 b5 b6 b7 t5 t6 t8 t9 t10 t11 V) (x : Ext) : Two w W va vb f g b0 true b2 b3 b4 b5 b6 b7 t5 t6 t8 (rowV f) t10 t11 (plus V x) :=
  ⟨h.below.trans ((below_plus V x).mono h.below.size), h.e0, fun _ => rfl, h.e2, h.e3, h.x.go fun _ e => e ▸ below_plus V x, h.y.go fun _ e => e ▸ below_plus V x, h.apart⟩
theorem Two.call3 (h : Two w W va vb f g b0 b1 b2 b3 b4 b5 b6 b7 t5 t6 t8 t9 t10 t11 V) (x : Ext) : Two w W va vb f g b0 b1 b2 true b4 b5 b6 b7 t5 t6 t8 t9 t10 (rowV g) (plus V x) :=
  ⟨h.below.trans ((below_plus V x).mono h.below.size), h.e0, h.e1, h.e2, fun _ => rfl, h.x.go fun _ e => e ▸ below_plus V x, h.y.go fun _ e => e ▸ below_plus V x, h.apart⟩
theorem Two.load0 (h : Two w W va vb f g b0 b1 b2 b3 b4 b5 b6 b7 t5 t6 t8 t9 t10 t11 V) : Two w W va vb f g true b1 b2 b3 b4 b5 b6 b7 t5 t6 va t9 t10 t11 V :=
  ⟨h.below, fun _ => rfl, h.e1, h.e2, h.e3, h.x, h.y, h.apart⟩
theorem Two.load2 (h : Two w W va vb f g b0 b1 b2 b3 b4 b5 b6 b7 t5 t6 t8 t9 t10 t11 V) : Two w W va vb f g b0 b1 true b3 b4 b5 b6 b7 t5 t6 t8 t9 vb t11 V :=
  ⟨h.below, h.e0, h.e1, fun _ => rfl, h.e3, h.x, h.y, h.apart⟩
theorem Laid.new (V : World) (B : Nat) (hB : B ≤ V.heap.size) (T : TypeId) (f : Nat → Bool) : Laid B (V.alloc (.cells (rowL fun _ => false).toArray T)) (.pointer (some ⟨V.heap.size, 0, none⟩)) true false f :=
  ⟨fun _ => ⟨V.heap.size, rfl, hB, by simp, _, RowAt.new V _ T, by simp⟩, by simp⟩
theorem Two.alloc4 (h : Two w W va vb f g b0 b1 b2 b3 false b5 b6 b7 t5 t6 t8 t9 t10 t11 V) (T : TypeId) : Two w W va vb f g b0 b1 b2 b3 true b5 false b7 (.pointer (some ⟨V.heap.size, 0, none⟩)) t6 t8 t9 t10 t11 (V.alloc (.cells (rowL fun _ => false).toArray T)) := by
  have hV : ∀ B, B = V.heap.size → Below B V (V.alloc (.cells (rowL fun _ => false).toArray T)) := fun B e => (Below.refl B V).alloc (by omega) _
  refine ⟨h.below.trans ((hV _ rfl).mono h.below.size), h.e0, h.e1, h.e2, h.e3, Laid.new V _ h.below.size T f, h.y.go hV, fun _ e p q e1 e2 => ?_⟩
  obtain ⟨q', e3, _, e4, _⟩ := h.y.row e
  simp only [e3, Value.pointer.injEq, Option.some.injEq, Addr.mk.injEq] at e1 e2
  omega
theorem Two.alloc5 (h : Two w W va vb f g b0 b1 b2 b3 b4 false b6 b7 t5 t6 t8 t9 t10 t11 V) (T : TypeId) : Two w W va vb f g b0 b1 b2 b3 b4 true b6 false t5 (.pointer (some ⟨V.heap.size, 0, none⟩)) t8 t9 t10 t11 (V.alloc (.cells (rowL fun _ => false).toArray T)) := by
  have hV : ∀ B, B = V.heap.size → Below B V (V.alloc (.cells (rowL fun _ => false).toArray T)) := fun B e => (Below.refl B V).alloc (by omega) _
  refine ⟨h.below.trans ((hV _ rfl).mono h.below.size), h.e0, h.e1, h.e2, h.e3, h.x.go hV, Laid.new V _ h.below.size T g, fun e _ p q e1 e2 => ?_⟩
  obtain ⟨q', e3, _, e4, _⟩ := h.x.row e
  simp only [e3, Value.pointer.injEq, Option.some.injEq, Addr.mk.injEq] at e1 e2
  omega
theorem Two.off6 (h : Two w W va vb f g b0 b1 b2 b3 false b5 b6 b7 t5 t6 t8 t9 t10 t11 V) : b6 = false := by
  cases b6
  · rfl
  · exact absurd (h.x.need rfl) (by simp)
theorem Two.off7 (h : Two w W va vb f g b0 b1 b2 b3 b4 false b6 b7 t5 t6 t8 t9 t10 t11 V) : b7 = false := by
  cases b7
  · rfl
  · exact absurd (h.y.need rfl) (by simp)
theorem RowAt.away {V : World} {b p : Nat} {f : Nat → Bool} (h : RowAt V b f) (hp : p ≠ b) (l : List Value) : RowAt (V.setCells p 0 l) b f :=
  ⟨fun i hi => (World.cell?_setCells_out _ _ _ _ _ (fun e _ => absurd e (by simpa using fun e => hp e.symm))).trans (h.c i hi), fun o => by rw [World.frozen?_setCells]; exact h.fz o⟩
theorem Two.store6 {p : Nat} (h : Two w W va vb f g b0 b1 b2 b3 true b5 b6 b7 (.pointer (some ⟨p, 0, none⟩)) t6 t8 t9 t10 t11 V) : Two w W va vb f g b0 b1 b2 b3 true b5 true b7 (.pointer (some ⟨p, 0, none⟩)) t6 t8 t9 t10 t11 (V.setCells p 0 (rowL f)) := by
  obtain ⟨p', e1, e2, e3, k, e4, e5⟩ := h.x.row rfl
  simp only [Value.pointer.injEq, Option.some.injEq, Addr.mk.injEq, and_true] at e1
  subst e1
  have hsz := (below_setCells (B := 0) (rowL f) 0 V V p (Below.refl 0 V) (Nat.zero_le _)).size
  refine ⟨below_setCells _ _ _ _ _ h.below e2, h.e0, h.e1, h.e2, h.e3, ⟨fun _ => ⟨p, rfl, e2, by omega, f, e4.written f, fun _ => rfl⟩, fun _ => rfl⟩, ⟨fun e => ?_, h.y.need⟩, h.apart⟩
  obtain ⟨q, c1, c2, c3, k', c4, c5⟩ := h.y.row e
  exact ⟨q, c1, c2, by omega, k', c4.away (h.apart rfl e _ _ rfl c1) _, c5⟩
theorem Two.store7 {q : Nat} (h : Two w W va vb f g b0 b1 b2 b3 b4 true b6 b7 t5 (.pointer (some ⟨q, 0, none⟩)) t8 t9 t10 t11 V) : Two w W va vb f g b0 b1 b2 b3 b4 true b6 true t5 (.pointer (some ⟨q, 0, none⟩)) t8 t9 t10 t11 (V.setCells q 0 (rowL g)) := by
  obtain ⟨p', e1, e2, e3, k, e4, e5⟩ := h.y.row rfl
  simp only [Value.pointer.injEq, Option.some.injEq, Addr.mk.injEq, and_true] at e1
  subst e1
  have hsz := (below_setCells (B := 0) (rowL g) 0 V V q (Below.refl 0 V) (Nat.zero_le _)).size
  refine ⟨below_setCells _ _ _ _ _ h.below e2, h.e0, h.e1, h.e2, h.e3, ⟨fun e => ?_, h.x.need⟩, ⟨fun _ => ⟨q, rfl, e2, by omega, g, e4.written g, fun _ => rfl⟩, fun _ => rfl⟩, h.apart⟩
  obtain ⟨p, c1, c2, c3, k', c4, c5⟩ := h.x.row e
  exact ⟨p, c1, c2, by omega, k', c4.away (fun hh => h.apart e rfl _ _ c1 rfl hh.symm) _, c5⟩
end
end Go.Proofs.YtiodfenkbhlpdaaDoor
