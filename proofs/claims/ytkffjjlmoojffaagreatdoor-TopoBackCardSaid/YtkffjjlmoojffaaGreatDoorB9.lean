/-
  WHAT IS PROVED HERE: a part of the proof of the claim's theorem: Ug; Uh; Ui.
-/
import Derived.Test.YtkffjjlmoojffaaGreatDoorRows
import Derived.Test.YtkffjjlmoojffaaGreatDoorB5
import Derived.Test.YtkffjjlmoojffaaGreatDoorB8
import Derived.Test.YtkffjjlmoojffaaGreatDoorB2
import Derived.WalkKit
import Derived.WalkSpells
import Derived.WalkLawsBesides
import Derived.Deep.RegionWith
set_option linter.all false
namespace Go.Proofs.YtkffjjlmoojffaaGreatDoor
open Go.RowKit
structure QInv (w : World) (N : Nat) (wr : World) : Prop where
  below : Below w.heap.size w wr
  size : w.heap.size + 1 + 1 + 1 ≤ wr.heap.size
  r0 : wr.cell? ⟨w.heap.size, 0, none⟩ = some (.int .u64 0)
  r1 : wr.cell? ⟨w.heap.size, 1, none⟩ = some (.int .u64 0)
  fr : ∀ o, wr.frozen? ⟨w.heap.size, o, none⟩ = false
  z0 : wr.cell? ⟨w.heap.size + 1, 0, none⟩ = some (.int .u64 0)
  z1 : wr.cell? ⟨w.heap.size + 1, 1, none⟩ = some (.int .u64 0)
  n0 : wr.cell? ⟨w.heap.size + 1 + 1, 0, none⟩ = some (.int .u64 (hi N))
  n1 : wr.cell? ⟨w.heap.size + 1 + 1, 1, none⟩ = some (.int .u64 (lo N))
  fn : ∀ o, wr.frozen? ⟨w.heap.size + 1 + 1, o, none⟩ = false
theorem QInv.plus {w wr : World} {N : Nat} (h : QInv w N wr) (x : Ext) : QInv w N (plus wr x) := by
  have hs := h.size
  exact ⟨h.below.trans ((below_plus wr x).mono h.below.size), Nat.le_trans hs (size_plus wr x), (cell_plus wr x _ 0 (by omega)).trans h.r0, (cell_plus wr x _ 1 (by omega)).trans h.r1, fun o => (frozen_plus wr x _ o (by omega)).trans (h.fr o),
    (cell_plus wr x _ 0 (by omega)).trans h.z0, (cell_plus wr x _ 1 (by omega)).trans h.z1, (cell_plus wr x _ 0 (by omega)).trans h.n0, (cell_plus wr x _ 1 (by omega)).trans h.n1, fun o => (frozen_plus wr x _ o (by omega)).trans (h.fn o)⟩
theorem QInv.alloc {w wr : World} {N : Nat} (h : QInv w N wr) (x : Obj) : QInv w N (wr.alloc x) := by
  have hs := h.size
  exact ⟨h.below.alloc h.below.size _, by simp; omega, (cell_old wr x _ 0 (by omega)).trans h.r0, (cell_old wr x _ 1 (by omega)).trans h.r1, fun o => (frozen_old wr x _ o (by omega)).trans (h.fr o),
    (cell_old wr x _ 0 (by omega)).trans h.z0, (cell_old wr x _ 1 (by omega)).trans h.z1, (cell_old wr x _ 0 (by omega)).trans h.n0, (cell_old wr x _ 1 (by omega)).trans h.n1, fun o => (frozen_old wr x _ o (by omega)).trans (h.fn o)⟩
theorem QInv.set {w wr : World} {N : Nat} (h : QInv w N wr) (b o : Nat) (v : Value) (hb : w.heap.size + 1 + 1 < b) : QInv w N (wr.setCell ⟨b, o, none⟩ v) := by
  refine ⟨h.below.setCell (by show w.heap.size ≤ b; omega) _, by have := h.size; simp [World.setCell]; omega, ?_, ?_, fun o => by rw [World.frozen?_setCell]; exact h.fr o, ?_, ?_, ?_, ?_, fun o => by rw [World.frozen?_setCell]; exact h.fn o⟩
  · rw [World.cell?_setCell_other _ _ _ _ (fun e => by have := congrArg Addr.block e; simp at this; omega)]; exact h.r0
  · rw [World.cell?_setCell_other _ _ _ _ (fun e => by have := congrArg Addr.block e; simp at this; omega)]; exact h.r1
  · rw [World.cell?_setCell_other _ _ _ _ (fun e => by have := congrArg Addr.block e; simp at this; omega)]; exact h.z0
  · rw [World.cell?_setCell_other _ _ _ _ (fun e => by have := congrArg Addr.block e; simp at this; omega)]; exact h.z1
  · rw [World.cell?_setCell_other _ _ _ _ (fun e => by have := congrArg Addr.block e; simp at this; omega)]; exact h.n0
  · rw [World.cell?_setCell_other _ _ _ _ (fun e => by have := congrArg Addr.block e; simp at this; omega)]; exact h.n1
theorem QInv.put {w wr : World} {N : Nat} (h : QInv w N wr) (M : Nat) : QInv w M ((wr.setCell ⟨w.heap.size + 1 + 1, 0, none⟩ (.int .u64 (hi M))).setCell ⟨w.heap.size + 1 + 1, 1, none⟩ (.int .u64 (lo M))) := by
  refine ⟨(h.below.setCell (by show w.heap.size ≤ w.heap.size + 1 + 1; omega) _).setCell (by show w.heap.size ≤ w.heap.size + 1 + 1; omega) _, by have := h.size; simp [World.setCell]; omega, ?_, ?_, fun o => by rw [World.frozen?_setCell, World.frozen?_setCell]; exact h.fr o, ?_, ?_, ?_, ?_, fun o => by rw [World.frozen?_setCell, World.frozen?_setCell]; exact h.fn o⟩
  · rw [World.cell?_setCell_other _ _ _ _ (by simp), World.cell?_setCell_other _ _ _ _ (by simp)]; exact h.r0
  · rw [World.cell?_setCell_other _ _ _ _ (by simp), World.cell?_setCell_other _ _ _ _ (by simp)]; exact h.r1
  · rw [World.cell?_setCell_other _ _ _ _ (by simp), World.cell?_setCell_other _ _ _ _ (by simp)]; exact h.z0
  · rw [World.cell?_setCell_other _ _ _ _ (by simp), World.cell?_setCell_other _ _ _ _ (by simp)]; exact h.z1
  · rw [World.cell?_setCell_other _ _ _ _ (by simp)]; exact World.cell?_setCell_same _ _ _ h.n0
  · refine World.cell?_setCell_same _ _ _ (u := .int .u64 (lo N)) ?_
    rw [World.cell?_setCell_other _ _ _ _ (by simp)]; exact h.n1
structure AInv (w : World) (N ab A : Nat) (wr : World) : Prop where
  q : QInv w N wr
  le : w.heap.size + 1 + 1 < ab
  lt : ab < wr.heap.size
  a0 : wr.cell? ⟨ab, 0, none⟩ = some (.int .u64 (hi A))
  a1 : wr.cell? ⟨ab, 1, none⟩ = some (.int .u64 (lo A))
  fa : ∀ o, wr.frozen? ⟨ab, o, none⟩ = false
theorem AInv.start {w wr : World} {N : Nat} (h : QInv w N wr) (A : Nat) (T : TypeId) : AInv w N wr.heap.size A (wr.alloc (.cells #[.int .u64 (hi A), .int .u64 (lo A)] T)) :=
  ⟨h.alloc _, by have := h.size; omega, by simp, cell_new wr _ T _ 0 rfl, cell_new wr _ T _ 1 rfl, fun o => frozen_new wr _ T _ o rfl⟩
theorem AInv.plus {w wr : World} {N ab A : Nat} (h : AInv w N ab A wr) (x : Ext) : AInv w N ab A (plus wr x) :=
  ⟨h.q.plus x, h.le, Nat.lt_of_lt_of_le h.lt (size_plus wr x), (cell_plus wr x _ 0 h.lt).trans h.a0, (cell_plus wr x _ 1 h.lt).trans h.a1, fun o => (frozen_plus wr x _ o h.lt).trans (h.fa o)⟩
theorem AInv.put {w wr : World} {N ab A : Nat} (h : AInv w N ab A wr) (M : Nat) : AInv w N ab M ((wr.setCell ⟨ab, 0, none⟩ (.int .u64 (hi M))).setCell ⟨ab, 1, none⟩ (.int .u64 (lo M))) := by
  refine ⟨(h.q.set ab 0 _ h.le).set ab 1 _ h.le, h.le, by have := h.lt; simp [World.setCell]; omega, ?_, ?_, fun o => by rw [World.frozen?_setCell, World.frozen?_setCell]; exact h.fa o⟩
  · rw [World.cell?_setCell_other _ _ _ _ (by simp)]; exact World.cell?_setCell_same _ _ _ h.a0
  · refine World.cell?_setCell_same _ _ _ (u := .int .u64 (lo A)) ?_
    rw [World.cell?_setCell_other _ _ _ _ (by simp)]; exact h.a1
theorem QInv.start (w : World) (T U X : TypeId) : QInv w 0 (((w.alloc (.cells #[.int .u64 0, .int .u64 0] T)).alloc (.cells #[.int .u64 0, .int .u64 0] U)).alloc (.cells #[.int .u64 0, .int .u64 0] X)) := by
  obtain ⟨W, hW, hB, hz, ca, cb, cr, fa, fb, fr⟩ := box3 w #[.int .u64 0, .int .u64 0] #[.int .u64 0, .int .u64 0] #[.int .u64 0, .int .u64 0] T U X
  rw [← hW, ← plus_self W]
  refine ⟨hB.trans ((below_plus W _).mono hB.size), Nat.le_trans (by omega) (size_plus W _), ca 0 (some (.int .u64 0)) rfl _, ca 1 (some (.int .u64 0)) rfl _, fa _, cb 0 (some (.int .u64 0)) rfl _, cb 1 (some (.int .u64 0)) rfl _, cr 0 (some (.int .u64 0)) rfl _, cr 1 (some (.int .u64 0)) rfl _, fr _⟩
end Go.Proofs.YtkffjjlmoojffaaGreatDoor
namespace Go.Proofs.YtkffjjlmoojffaaGreatDoor
open Go.RowKit
def wAt (s : ByteArray) : Option Nat := (List.range s.size).find? fun j => decide (byN s j = 119)
def decV (s : ByteArray) : Nat → Nat
  | 0 => 0
  | k + 1 => 10 * decV s k + (byN s k - 48)
theorem decV_lt (s : ByteArray) : ∀ k, (∀ j, j < k → isDig (byN s j) = true) → decV s k < 10 ^ k
  | 0, _ => Nat.one_pos
  | k + 1, h => by
    have h1 := decV_lt s k (fun j hj => h j (by omega))
    have h2 := h k (by omega)
    unfold isDig at h2
    simp only [decide_eq_true_eq] at h2
    show 10 * decV s k + (byN s k - 48) < 10 ^ (k + 1)
    rw [Nat.pow_succ]
    omega
def headOk (s : ByteArray) (a : Nat) : Bool := decide (a ≤ 3) && (List.range a).all fun j => isDig (byN s j)
theorem headOk_yes {s : ByteArray} {a : Nat} (h3 : a ≤ 3) (h : ∀ j, j < a → isDig (byN s j) = true) : headOk s a = true := by
  unfold headOk
  rw [decide_eq_true h3, Bool.true_and, List.all_eq_true]
  exact fun j hj => h j (List.mem_range.1 hj)
noncomputable def numR (s : ByteArray) : Int × Nat × Int := match wAt s with
  | none => if (parseS s).2 = 0 then (0, (parseS s).1, 0) else (0, 0, (parseS s).2)
  | some a => if headOk s a = true then
      (if decV s a < 1 ∨ 128 < decV s a then (0, 0, 10)
       else if (parseS (s.extract (a + 1) s.size)).2 = 0 then
         (if (parseS (s.extract (a + 1) s.size)).1 % 2 ^ hw (decV s a) = (parseS (s.extract (a + 1) s.size)).1 then ((decV s a : Nat), (parseS (s.extract (a + 1) s.size)).1, 0) else (0, 0, 5))
       else (0, 0, (parseS (s.extract (a + 1) s.size)).2))
      else (0, 0, 4)
theorem parseR_lt (b : Nat) (l : List UInt8) : (parseR b l).1 < B128 := by
  unfold parseR
  split
  · decide
  · split
    · split
      · decide
      · rename_i h; unfold B128; simp only; omega
    · decide
theorem parseS_lt (s : ByteArray) : (parseS s).1 < B128 := by unfold parseS; split <;> exact parseR_lt _ _
structure ZInv (w wr : World) : Prop where
  below : Below w.heap.size w wr
  size : w.heap.size + 1 + 1 ≤ wr.heap.size
  r0 : wr.cell? ⟨w.heap.size, 0, none⟩ = some (.int .u64 0)
  r1 : wr.cell? ⟨w.heap.size, 1, none⟩ = some (.int .u64 0)
  fr : ∀ o, wr.frozen? ⟨w.heap.size, o, none⟩ = false
  z0 : wr.cell? ⟨w.heap.size + 1, 0, none⟩ = some (.int .u64 0)
  z1 : wr.cell? ⟨w.heap.size + 1, 1, none⟩ = some (.int .u64 0)
theorem ZInv.start (w : World) (T U : TypeId) : ZInv w ((w.alloc (.cells #[.int .u64 0, .int .u64 0] T)).alloc (.cells #[.int .u64 0, .int .u64 0] U)) := by
  obtain ⟨W, hW, hB, hz, ca, cb, fa, fb⟩ := box2 w #[.int .u64 0, .int .u64 0] #[.int .u64 0, .int .u64 0] T U
  rw [← hW, ← plus_self W]
  exact ⟨hB.trans ((below_plus W _).mono hB.size), Nat.le_trans (by omega) (size_plus W _), ca 0 (some (.int .u64 0)) rfl _, ca 1 (some (.int .u64 0)) rfl _, fa _, cb 0 (some (.int .u64 0)) rfl _, cb 1 (some (.int .u64 0)) rfl _⟩
theorem ZInv.plus {w wr : World} (h : ZInv w wr) (x : Ext) : ZInv w (plus wr x) := by
  have hs := h.size
  exact ⟨h.below.trans ((below_plus wr x).mono h.below.size), Nat.le_trans hs (size_plus wr x), (cell_plus wr x _ 0 (by omega)).trans h.r0, (cell_plus wr x _ 1 (by omega)).trans h.r1, fun o => (frozen_plus wr x _ o (by omega)).trans (h.fr o), (cell_plus wr x _ 0 (by omega)).trans h.z0, (cell_plus wr x _ 1 (by omega)).trans h.z1⟩
theorem ZInv.alloc {w wr : World} (h : ZInv w wr) (x : Obj) : ZInv w (wr.alloc x) := by
  have hs := h.size
  exact ⟨h.below.alloc h.below.size _, by simp; omega, (cell_old wr x _ 0 (by omega)).trans h.r0, (cell_old wr x _ 1 (by omega)).trans h.r1, fun o => (frozen_old wr x _ o (by omega)).trans (h.fr o), (cell_old wr x _ 0 (by omega)).trans h.z0, (cell_old wr x _ 1 (by omega)).trans h.z1⟩
end Go.Proofs.YtkffjjlmoojffaaGreatDoor
namespace Go.Proofs.YtkffjjlmoojffaaGreatDoor
open Go.RowKit
def wEnd (s : ByteArray) (k : Nat) : Nat := if _h : k < s.size then (if (isLet (byN s k) || isDig (byN s k)) = true then wEnd s (k + 1) else k) else k
termination_by s.size - k
theorem wEnd_go {s : ByteArray} {k : Nat} (h : k < s.size) (hb : (isLet (byN s k) || isDig (byN s k)) = true) : wEnd s k = wEnd s (k + 1) := by rw [wEnd, dif_pos h, if_pos hb]
theorem wEnd_stop {s : ByteArray} {k : Nat} (h : k < s.size) (hb : (isLet (byN s k) || isDig (byN s k)) = false) : wEnd s k = k := by rw [wEnd, dif_pos h, if_neg (by rw [hb]; simp)]
theorem wEnd_past {s : ByteArray} {k : Nat} (h : ¬ k < s.size) : wEnd s k = k := by rw [wEnd, dif_neg h]
theorem wEnd_bounds (s : ByteArray) : ∀ (d k : Nat), s.size - k = d → k ≤ s.size → k ≤ wEnd s k ∧ wEnd s k ≤ s.size
  | 0, k, h, hk => by rw [wEnd_past (by omega)]; omega
  | d + 1, k, h, hk => by
    cases hb : (isLet (byN s k) || isDig (byN s k)) with
    | true => rw [wEnd_go (by omega) hb]; have := wEnd_bounds s d (k + 1) (by omega) (by omega); omega
    | false => rw [wEnd_stop (by omega) hb]; omega
structure Tok where
  kind : Nat
  s : ByteArray
  w : Int
  n : Nat
  at_ : Nat
def tokL (t : Tok) : List Value := [.int .u8 (t.kind : Int), .string t.s, .int .i64 t.w, .int .u64 (hi t.n), .int .u64 (lo t.n), .int .i64 (t.at_ : Int)]
def tokV (t : Tok) : Value := .agg (tokL t).toArray
noncomputable def oneR (s : ByteArray) (a : Nat) : Tok × Int :=
  if (isLet (byN s a) || isDig (byN s a)) = true then
    (if isDig (byN s a) = true then (⟨2, s.extract a (wEnd s a), (numR (s.extract a (wEnd s a))).1, (numR (s.extract a (wEnd s a))).2.1, a⟩, (numR (s.extract a (wEnd s a))).2.2)
     else (⟨1, s.extract a (wEnd s a), 0, 0, a⟩, if 16 < wEnd s a - a then 3 else 0))
  else if markN s a = 0 then (⟨0, ByteArray.empty, 0, 0, a⟩, 4) else (⟨3, s.extract a (a + markN s a), 0, 0, a⟩, 0)
structure KInv (w : World) (a : Nat) (S : ByteArray) (wr : World) : Prop where
  below : Below w.heap.size w wr
  size : w.heap.size + 1 + 1 ≤ wr.heap.size
  r0 : wr.cell? ⟨w.heap.size, 0, none⟩ = some (.int .u8 0)
  r1 : wr.cell? ⟨w.heap.size, 1, none⟩ = some (.string ⟨#[]⟩)
  r2 : wr.cell? ⟨w.heap.size, 2, none⟩ = some (.int .i64 0)
  r3 : wr.cell? ⟨w.heap.size, 3, none⟩ = some (.int .u64 0)
  r4 : wr.cell? ⟨w.heap.size, 4, none⟩ = some (.int .u64 0)
  r5 : wr.cell? ⟨w.heap.size, 5, none⟩ = some (.int .i64 0)
  fr : ∀ o, wr.frozen? ⟨w.heap.size, o, none⟩ = false
  t0 : wr.cell? ⟨w.heap.size + 1, 0, none⟩ = some (.int .u8 0)
  t1 : wr.cell? ⟨w.heap.size + 1, 1, none⟩ = some (.string S)
  t2 : wr.cell? ⟨w.heap.size + 1, 2, none⟩ = some (.int .i64 0)
  t3 : wr.cell? ⟨w.heap.size + 1, 3, none⟩ = some (.int .u64 0)
  t4 : wr.cell? ⟨w.heap.size + 1, 4, none⟩ = some (.int .u64 0)
  t5 : wr.cell? ⟨w.heap.size + 1, 5, none⟩ = some (.int .i64 (a : Int))
  ft : ∀ o, wr.frozen? ⟨w.heap.size + 1, o, none⟩ = false
theorem KInv.start (w : World) (a : Nat) (T U : TypeId) : KInv w a ⟨#[]⟩ ((w.alloc (.cells #[.int .u8 0, .string ⟨#[]⟩, .int .i64 0, .int .u64 0, .int .u64 0, .int .i64 0] T)).alloc (.cells #[.int .u8 0, .string ⟨#[]⟩, .int .i64 0, .int .u64 0, .int .u64 0, .int .i64 (a : Int)] U)) := by
  obtain ⟨W, hW, hB, hz, ca, cb, fa, fb⟩ := box2 w #[.int .u8 0, .string ⟨#[]⟩, .int .i64 0, .int .u64 0, .int .u64 0, .int .i64 0] #[.int .u8 0, .string ⟨#[]⟩, .int .i64 0, .int .u64 0, .int .u64 0, .int .i64 (a : Int)] T U
  rw [← hW, ← plus_self W]
  exact ⟨hB.trans ((below_plus W _).mono hB.size), Nat.le_trans (by omega) (size_plus W _), ca 0 _ rfl _, ca 1 _ rfl _, ca 2 _ rfl _, ca 3 _ rfl _, ca 4 _ rfl _, ca 5 _ rfl _, fa _, cb 0 _ rfl _, cb 1 _ rfl _, cb 2 _ rfl _, cb 3 _ rfl _, cb 4 _ rfl _, cb 5 _ rfl _, fb _⟩
theorem KInv.plus {w wr : World} {a : Nat} {S : ByteArray} (h : KInv w a S wr) (x : Ext) : KInv w a S (plus wr x) := by
  have hs := h.size
  exact ⟨h.below.trans ((below_plus wr x).mono h.below.size), Nat.le_trans hs (size_plus wr x), (cell_plus wr x _ _ (by omega)).trans h.r0, (cell_plus wr x _ _ (by omega)).trans h.r1, (cell_plus wr x _ _ (by omega)).trans h.r2, (cell_plus wr x _ _ (by omega)).trans h.r3, (cell_plus wr x _ _ (by omega)).trans h.r4, (cell_plus wr x _ _ (by omega)).trans h.r5, fun o => (frozen_plus wr x _ o (by omega)).trans (h.fr o),
    (cell_plus wr x _ _ (by omega)).trans h.t0, (cell_plus wr x _ _ (by omega)).trans h.t1, (cell_plus wr x _ _ (by omega)).trans h.t2, (cell_plus wr x _ _ (by omega)).trans h.t3, (cell_plus wr x _ _ (by omega)).trans h.t4, (cell_plus wr x _ _ (by omega)).trans h.t5, fun o => (frozen_plus wr x _ o (by omega)).trans (h.ft o)⟩
theorem KInv.alloc {w wr : World} {a : Nat} {S : ByteArray} (h : KInv w a S wr) (x : Obj) : KInv w a S (wr.alloc x) := by
  have hs := h.size
  exact ⟨h.below.alloc h.below.size _, by simp; omega, (cell_old wr x _ _ (by omega)).trans h.r0, (cell_old wr x _ _ (by omega)).trans h.r1, (cell_old wr x _ _ (by omega)).trans h.r2, (cell_old wr x _ _ (by omega)).trans h.r3, (cell_old wr x _ _ (by omega)).trans h.r4, (cell_old wr x _ _ (by omega)).trans h.r5, fun o => (frozen_old wr x _ o (by omega)).trans (h.fr o),
    (cell_old wr x _ _ (by omega)).trans h.t0, (cell_old wr x _ _ (by omega)).trans h.t1, (cell_old wr x _ _ (by omega)).trans h.t2, (cell_old wr x _ _ (by omega)).trans h.t3, (cell_old wr x _ _ (by omega)).trans h.t4, (cell_old wr x _ _ (by omega)).trans h.t5, fun o => (frozen_old wr x _ o (by omega)).trans (h.ft o)⟩
theorem abs_calls3 {P : Program} {f : FuncId} {args : Array Value} {R : Ending → World → Prop} {W : World} {T : World → Prop} (h : ∀ W, T W → Calls P f args W R) (hT : T W) : Calls P f args W R := h W hT
end Go.Proofs.YtkffjjlmoojffaaGreatDoor
