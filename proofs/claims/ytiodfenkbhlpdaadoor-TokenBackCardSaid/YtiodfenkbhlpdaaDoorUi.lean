/-
  WHAT IS PROVED HERE: what the document's one of layer 3 hands back, of any byte of any text of at most 2^47 bytes.
-/
import Derived.Test.YtiodfenkbhlpdaaDoorRows
import Derived.Test.YtiodfenkbhlpdaaDoorUh
import Derived.Test.YtiodfenkbhlpdaaDoorUe
import Derived.WalkKit
import Derived.WalkSpells
import Derived.WalkLawsBesides
namespace Go.Proofs.YtiodfenkbhlpdaaDoor
open Go.RowKit
/-- Where the word that byte k is of ends. -/
def wEnd (s : ByteArray) (k : Nat) : Nat := if _h : k < s.size then (if (isLet (byN s k) || isDig (byN s k)) = true then wEnd s (k + 1) else k) else k
termination_by s.size - k
theorem wEnd_go {s : ByteArray} {k : Nat} (h : k < s.size) (hb : (isLet (byN s k) || isDig (byN s k)) = true) : wEnd s k = wEnd s (k + 1) := by rw [wEnd, dif_pos h, if_pos hb]
theorem wEnd_stop {s : ByteArray} {k : Nat} (h : k < s.size) (hb : (isLet (byN s k) || isDig (byN s k)) = false) : wEnd s k = k := by rw [wEnd, dif_pos h, if_neg (by rw [hb]; simp)]
theorem wEnd_past {s : ByteArray} {k : Nat} (h : ¬ k < s.size) : wEnd s k = k := by rw [wEnd, dif_neg h]
theorem wEnd_bounds (s : ByteArray) : ∀ (d k : Nat), s.size - k = d → k ≤ s.size → k ≤ wEnd s k ∧ wEnd s k ≤ s.size
  | 0, k, h, hk => by rw [wEnd_past (by omega)]; omega
  | d + 1, k, h, hk => by
    cases hb : (isLet (byN s k) || isDig (byN s k)) with
    | true => rw [wEnd_go (by omega) hb]; have := wEnd_bounds s d (k + 1) (by omega) (by omega); omega
    | false => rw [wEnd_stop (by omega) hb]; omega
/-- A token. -/
structure Tok where
  kind : Nat
  s : ByteArray
  w : Int
  n : Nat
  at_ : Nat
def tokL (t : Tok) : List Value := [.int .u8 (t.kind : Int), .string t.s, .int .i64 t.w, .int .u64 (hi t.n), .int .u64 (lo t.n), .int .i64 (t.at_ : Int)]
def tokV (t : Tok) : Value := .agg (tokL t).toArray
/-- The token at a place, and what is wrong. -/
noncomputable def oneR (s : ByteArray) (a : Nat) : Tok × Int :=
  if (isLet (byN s a) || isDig (byN s a)) = true then
    (if isDig (byN s a) = true then (⟨2, s.extract a (wEnd s a), (numR (s.extract a (wEnd s a))).1, (numR (s.extract a (wEnd s a))).2.1, a⟩, (numR (s.extract a (wEnd s a))).2.2)
     else (⟨1, s.extract a (wEnd s a), 0, 0, a⟩, if 16 < wEnd s a - a then 3 else 0))
  else if markN s a = 0 then (⟨0, ByteArray.empty, 0, 0, a⟩, 4) else (⟨3, s.extract a (a + markN s a), 0, 0, a⟩, 0)
/-- The world while one goes on: the result, and the token so far. -/
structure KInv (w : World) (a : Nat) (S : ByteArray) (wr : World) : Prop where
  below : Below w.heap.size w wr
  size : w.heap.size + 1 + 1 ≤ wr.heap.size
  r0 : wr.cell? ⟨w.heap.size, 0, none⟩ = some (.int .u8 0)
  r1 : wr.cell? ⟨w.heap.size, 1, none⟩ = some (.string ⟨#[]⟩)
  r2 : wr.cell? ⟨w.heap.size, 2, none⟩ = some (.int .i64 0)
  r3 : wr.cell? ⟨w.heap.size, 3, none⟩ = some (.int .u64 0)
  r4 : wr.cell? ⟨w.heap.size, 4, none⟩ = some (.int .u64 0)
  r5 : wr.cell? ⟨w.heap.size, 5, none⟩ = some (.int .i64 0)
  fr : ∀ o, wr.frozen? ⟨w.heap.size, o, none⟩ = false
  t0 : wr.cell? ⟨w.heap.size + 1, 0, none⟩ = some (.int .u8 0)
  t1 : wr.cell? ⟨w.heap.size + 1, 1, none⟩ = some (.string S)
  t2 : wr.cell? ⟨w.heap.size + 1, 2, none⟩ = some (.int .i64 0)
  t3 : wr.cell? ⟨w.heap.size + 1, 3, none⟩ = some (.int .u64 0)
  t4 : wr.cell? ⟨w.heap.size + 1, 4, none⟩ = some (.int .u64 0)
  t5 : wr.cell? ⟨w.heap.size + 1, 5, none⟩ = some (.int .i64 (a : Int))
  ft : ∀ o, wr.frozen? ⟨w.heap.size + 1, o, none⟩ = false
theorem KInv.start (w : World) (a : Nat) (T U : TypeId) : KInv w a ⟨#[]⟩ ((w.alloc (.cells #[.int .u8 0, .string ⟨#[]⟩, .int .i64 0, .int .u64 0, .int .u64 0, .int .i64 0] T)).alloc (.cells #[.int .u8 0, .string ⟨#[]⟩, .int .i64 0, .int .u64 0, .int .u64 0, .int .i64 (a : Int)] U)) := by
  obtain ⟨W, hW, hB, hz, ca, cb, fa, fb⟩ := box2 w #[.int .u8 0, .string ⟨#[]⟩, .int .i64 0, .int .u64 0, .int .u64 0, .int .i64 0] #[.int .u8 0, .string ⟨#[]⟩, .int .i64 0, .int .u64 0, .int .u64 0, .int .i64 (a : Int)] T U
  rw [← hW, ← plus_self W]
  exact ⟨hB.trans ((below_plus W _).mono hB.size), Nat.le_trans (by omega) (size_plus W _), ca 0 _ rfl _, ca 1 _ rfl _, ca 2 _ rfl _, ca 3 _ rfl _, ca 4 _ rfl _, ca 5 _ rfl _, fa _, cb 0 _ rfl _, cb 1 _ rfl _, cb 2 _ rfl _, cb 3 _ rfl _, cb 4 _ rfl _, cb 5 _ rfl _, fb _⟩
theorem KInv.plus {w wr : World} {a : Nat} {S : ByteArray} (h : KInv w a S wr) (x : Ext) : KInv w a S (plus wr x) := by
  have hs := h.size
  exact ⟨h.below.trans ((below_plus wr x).mono h.below.size), Nat.le_trans hs (size_plus wr x), (cell_plus wr x _ _ (by omega)).trans h.r0, (cell_plus wr x _ _ (by omega)).trans h.r1, (cell_plus wr x _ _ (by omega)).trans h.r2, (cell_plus wr x _ _ (by omega)).trans h.r3, (cell_plus wr x _ _ (by omega)).trans h.r4, (cell_plus wr x _ _ (by omega)).trans h.r5, fun o => (frozen_plus wr x _ o (by omega)).trans (h.fr o),
    (cell_plus wr x _ _ (by omega)).trans h.t0, (cell_plus wr x _ _ (by omega)).trans h.t1, (cell_plus wr x _ _ (by omega)).trans h.t2, (cell_plus wr x _ _ (by omega)).trans h.t3, (cell_plus wr x _ _ (by omega)).trans h.t4, (cell_plus wr x _ _ (by omega)).trans h.t5, fun o => (frozen_plus wr x _ o (by omega)).trans (h.ft o)⟩
theorem KInv.alloc {w wr : World} {a : Nat} {S : ByteArray} (h : KInv w a S wr) (x : Obj) : KInv w a S (wr.alloc x) := by
  have hs := h.size
  exact ⟨h.below.alloc h.below.size _, by simp; omega, (cell_old wr x _ _ (by omega)).trans h.r0, (cell_old wr x _ _ (by omega)).trans h.r1, (cell_old wr x _ _ (by omega)).trans h.r2, (cell_old wr x _ _ (by omega)).trans h.r3, (cell_old wr x _ _ (by omega)).trans h.r4, (cell_old wr x _ _ (by omega)).trans h.r5, fun o => (frozen_old wr x _ o (by omega)).trans (h.fr o),
    (cell_old wr x _ _ (by omega)).trans h.t0, (cell_old wr x _ _ (by omega)).trans h.t1, (cell_old wr x _ _ (by omega)).trans h.t2, (cell_old wr x _ _ (by omega)).trans h.t3, (cell_old wr x _ _ (by omega)).trans h.t4, (cell_old wr x _ _ (by omega)).trans h.t5, fun o => (frozen_old wr x _ o (by omega)).trans (h.ft o)⟩
theorem KInv.putS {w wr : World} {a : Nat} {S : ByteArray} (h : KInv w a S wr) (S' : ByteArray) : KInv w a S' (wr.setCell ⟨w.heap.size + 1, 1, none⟩ (.string S')) := by
  have o : ∀ (b i : Nat) (v : Value), (b ≠ w.heap.size + 1 ∨ i ≠ 1) → wr.cell? ⟨b, i, none⟩ = some v → (wr.setCell ⟨w.heap.size + 1, 1, none⟩ (.string S')).cell? ⟨b, i, none⟩ = some v := fun b i v hb hv => by
    rw [World.cell?_setCell_other _ _ _ _ (fun e => by
      have e1 := congrArg Addr.block e
      have e2 := congrArg Addr.off e
      simp at e1 e2
      omega)]
    exact hv
  exact ⟨h.below.setCell (by show w.heap.size ≤ w.heap.size + 1; omega) _, by have := h.size; simp [World.setCell]; omega, o _ _ _ (by omega) h.r0, o _ _ _ (by omega) h.r1, o _ _ _ (by omega) h.r2, o _ _ _ (by omega) h.r3, o _ _ _ (by omega) h.r4, o _ _ _ (by omega) h.r5, fun i => by rw [World.frozen?_setCell]; exact h.fr i,
    o _ _ _ (by omega) h.t0, World.cell?_setCell_same _ _ _ h.t1, o _ _ _ (by omega) h.t2, o _ _ _ (by omega) h.t3, o _ _ _ (by omega) h.t4, o _ _ _ (by omega) h.t5, fun i => by rw [World.frozen?_setCell]; exact h.ft i⟩
theorem tokV_zero (k : Nat) (s : ByteArray) (a : Nat) (e : Int) : Ending.returned (Value.tuple #[.agg #[.int .u8 (k : Int), .string s, .int .i64 0, .int .u64 0, .int .u64 0, .int .i64 (a : Int)], .int .i64 e]) = Ending.returned (Value.tuple #[tokV ⟨k, s, 0, 0, a⟩, .int .i64 e]) := by
  unfold tokV tokL hi lo
  simp
theorem abs_calls3 {P : Program} {f : FuncId} {args : Array Value} {R : Ending → World → Prop} {W : World} {T : World → Prop} (h : ∀ W, T W → Calls P f args W R) (hT : T W) : Calls P f args W R := h W hT
end Go.Proofs.YtiodfenkbhlpdaaDoor
