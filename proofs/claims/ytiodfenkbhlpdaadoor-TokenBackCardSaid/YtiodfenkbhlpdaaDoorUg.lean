/-
  WHAT IS PROVED HERE: what the document's Parse of layer 1 hands back, for every text of at most 2^47 bytes.
-/
import Derived.Test.YtiodfenkbhlpdaaDoorRows
import Derived.Test.YtiodfenkbhlpdaaDoorUf
import Derived.Test.YtiodfenkbhlpdaaDoorNd
import Derived.Test.YtiodfenkbhlpdaaDoorUd
import Derived.WalkKit
import Derived.WalkSpells
import Derived.WalkLawsBesides
namespace Go.Proofs.YtiodfenkbhlpdaaDoor
open Go.RowKit
/-- The world while Parse goes through its digits: the result, the nought, the number so far. -/
structure QInv (w : World) (N : Nat) (wr : World) : Prop where
  below : Below w.heap.size w wr
  size : w.heap.size + 1 + 1 + 1 ≤ wr.heap.size
  r0 : wr.cell? ⟨w.heap.size, 0, none⟩ = some (.int .u64 0)
  r1 : wr.cell? ⟨w.heap.size, 1, none⟩ = some (.int .u64 0)
  fr : ∀ o, wr.frozen? ⟨w.heap.size, o, none⟩ = false
  z0 : wr.cell? ⟨w.heap.size + 1, 0, none⟩ = some (.int .u64 0)
  z1 : wr.cell? ⟨w.heap.size + 1, 1, none⟩ = some (.int .u64 0)
  n0 : wr.cell? ⟨w.heap.size + 1 + 1, 0, none⟩ = some (.int .u64 (hi N))
  n1 : wr.cell? ⟨w.heap.size + 1 + 1, 1, none⟩ = some (.int .u64 (lo N))
  fn : ∀ o, wr.frozen? ⟨w.heap.size + 1 + 1, o, none⟩ = false
theorem QInv.plus {w wr : World} {N : Nat} (h : QInv w N wr) (x : Ext) : QInv w N (plus wr x) := by
  have hs := h.size
  exact ⟨h.below.trans ((below_plus wr x).mono h.below.size), Nat.le_trans hs (size_plus wr x), (cell_plus wr x _ 0 (by omega)).trans h.r0, (cell_plus wr x _ 1 (by omega)).trans h.r1, fun o => (frozen_plus wr x _ o (by omega)).trans (h.fr o),
    (cell_plus wr x _ 0 (by omega)).trans h.z0, (cell_plus wr x _ 1 (by omega)).trans h.z1, (cell_plus wr x _ 0 (by omega)).trans h.n0, (cell_plus wr x _ 1 (by omega)).trans h.n1, fun o => (frozen_plus wr x _ o (by omega)).trans (h.fn o)⟩
theorem QInv.alloc {w wr : World} {N : Nat} (h : QInv w N wr) (x : Obj) : QInv w N (wr.alloc x) := by
  have hs := h.size
  exact ⟨h.below.alloc h.below.size _, by simp; omega, (cell_old wr x _ 0 (by omega)).trans h.r0, (cell_old wr x _ 1 (by omega)).trans h.r1, fun o => (frozen_old wr x _ o (by omega)).trans (h.fr o),
    (cell_old wr x _ 0 (by omega)).trans h.z0, (cell_old wr x _ 1 (by omega)).trans h.z1, (cell_old wr x _ 0 (by omega)).trans h.n0, (cell_old wr x _ 1 (by omega)).trans h.n1, fun o => (frozen_old wr x _ o (by omega)).trans (h.fn o)⟩
/-- A store behind these three. -/
theorem QInv.set {w wr : World} {N : Nat} (h : QInv w N wr) (b o : Nat) (v : Value) (hb : w.heap.size + 1 + 1 < b) : QInv w N (wr.setCell ⟨b, o, none⟩ v) := by
  refine ⟨h.below.setCell (by show w.heap.size ≤ b; omega) _, by have := h.size; simp [World.setCell]; omega, ?_, ?_, fun o => by rw [World.frozen?_setCell]; exact h.fr o, ?_, ?_, ?_, ?_, fun o => by rw [World.frozen?_setCell]; exact h.fn o⟩
  · rw [World.cell?_setCell_other _ _ _ _ (fun e => by have := congrArg Addr.block e; simp at this; omega)]; exact h.r0
  · rw [World.cell?_setCell_other _ _ _ _ (fun e => by have := congrArg Addr.block e; simp at this; omega)]; exact h.r1
  · rw [World.cell?_setCell_other _ _ _ _ (fun e => by have := congrArg Addr.block e; simp at this; omega)]; exact h.z0
  · rw [World.cell?_setCell_other _ _ _ _ (fun e => by have := congrArg Addr.block e; simp at this; omega)]; exact h.z1
  · rw [World.cell?_setCell_other _ _ _ _ (fun e => by have := congrArg Addr.block e; simp at this; omega)]; exact h.n0
  · rw [World.cell?_setCell_other _ _ _ _ (fun e => by have := congrArg Addr.block e; simp at this; omega)]; exact h.n1
/-- The number is put down. -/
theorem QInv.put {w wr : World} {N : Nat} (h : QInv w N wr) (M : Nat) : QInv w M ((wr.setCell ⟨w.heap.size + 1 + 1, 0, none⟩ (.int .u64 (hi M))).setCell ⟨w.heap.size + 1 + 1, 1, none⟩ (.int .u64 (lo M))) := by
  refine ⟨(h.below.setCell (by show w.heap.size ≤ w.heap.size + 1 + 1; omega) _).setCell (by show w.heap.size ≤ w.heap.size + 1 + 1; omega) _, by have := h.size; simp [World.setCell]; omega, ?_, ?_, fun o => by rw [World.frozen?_setCell, World.frozen?_setCell]; exact h.fr o, ?_, ?_, ?_, ?_, fun o => by rw [World.frozen?_setCell, World.frozen?_setCell]; exact h.fn o⟩
  · rw [World.cell?_setCell_other _ _ _ _ (by simp), World.cell?_setCell_other _ _ _ _ (by simp)]; exact h.r0
  · rw [World.cell?_setCell_other _ _ _ _ (by simp), World.cell?_setCell_other _ _ _ _ (by simp)]; exact h.r1
  · rw [World.cell?_setCell_other _ _ _ _ (by simp), World.cell?_setCell_other _ _ _ _ (by simp)]; exact h.z0
  · rw [World.cell?_setCell_other _ _ _ _ (by simp), World.cell?_setCell_other _ _ _ _ (by simp)]; exact h.z1
  · rw [World.cell?_setCell_other _ _ _ _ (by simp)]; exact World.cell?_setCell_same _ _ _ h.n0
  · refine World.cell?_setCell_same _ _ _ (u := .int .u64 (lo N)) ?_
    rw [World.cell?_setCell_other _ _ _ _ (by simp)]; exact h.n1
/-- And what the sums have made, in a block of its own. -/
structure AInv (w : World) (N ab A : Nat) (wr : World) : Prop where
  q : QInv w N wr
  le : w.heap.size + 1 + 1 < ab
  lt : ab < wr.heap.size
  a0 : wr.cell? ⟨ab, 0, none⟩ = some (.int .u64 (hi A))
  a1 : wr.cell? ⟨ab, 1, none⟩ = some (.int .u64 (lo A))
  fa : ∀ o, wr.frozen? ⟨ab, o, none⟩ = false
theorem AInv.start {w wr : World} {N : Nat} (h : QInv w N wr) (A : Nat) (T : TypeId) : AInv w N wr.heap.size A (wr.alloc (.cells #[.int .u64 (hi A), .int .u64 (lo A)] T)) :=
  ⟨h.alloc _, by have := h.size; omega, by simp, cell_new wr _ T _ 0 rfl, cell_new wr _ T _ 1 rfl, fun o => frozen_new wr _ T _ o rfl⟩
theorem AInv.plus {w wr : World} {N ab A : Nat} (h : AInv w N ab A wr) (x : Ext) : AInv w N ab A (plus wr x) :=
  ⟨h.q.plus x, h.le, Nat.lt_of_lt_of_le h.lt (size_plus wr x), (cell_plus wr x _ 0 h.lt).trans h.a0, (cell_plus wr x _ 1 h.lt).trans h.a1, fun o => (frozen_plus wr x _ o h.lt).trans (h.fa o)⟩
theorem AInv.put {w wr : World} {N ab A : Nat} (h : AInv w N ab A wr) (M : Nat) : AInv w N ab M ((wr.setCell ⟨ab, 0, none⟩ (.int .u64 (hi M))).setCell ⟨ab, 1, none⟩ (.int .u64 (lo M))) := by
  refine ⟨(h.q.set ab 0 _ h.le).set ab 1 _ h.le, h.le, by have := h.lt; simp [World.setCell]; omega, ?_, ?_, fun o => by rw [World.frozen?_setCell, World.frozen?_setCell]; exact h.fa o⟩
  · rw [World.cell?_setCell_other _ _ _ _ (by simp)]; exact World.cell?_setCell_same _ _ _ h.a0
  · refine World.cell?_setCell_same _ _ _ (u := .int .u64 (lo A)) ?_
    rw [World.cell?_setCell_other _ _ _ _ (by simp)]; exact h.a1
theorem rdig_bad {c b : Nat} (h : ¬ digV (c : Int) b < b) : rdig c b = 99 := by unfold rdig; rw [if_neg h]
theorem rdig_good {c b : Nat} (h : digV (c : Int) b < b) (h0 : 0 ≤ digV (c : Int) b) : rdig c b = ((digV (c : Int) b).toNat : Int) := by unfold rdig; rw [if_pos h]; omega
theorem nv_zero : nv 0 = .agg #[.int .u64 0, .int .u64 0] := rfl
theorem QInv.start (w : World) (T U X : TypeId) : QInv w 0 (((w.alloc (.cells #[.int .u64 0, .int .u64 0] T)).alloc (.cells #[.int .u64 0, .int .u64 0] U)).alloc (.cells #[.int .u64 0, .int .u64 0] X)) := by
  obtain ⟨W, hW, hB, hz, ca, cb, cr, fa, fb, fr⟩ := box3 w #[.int .u64 0, .int .u64 0] #[.int .u64 0, .int .u64 0] #[.int .u64 0, .int .u64 0] T U X
  rw [← hW, ← plus_self W]
  refine ⟨hB.trans ((below_plus W _).mono hB.size), Nat.le_trans (by omega) (size_plus W _), ca 0 (some (.int .u64 0)) rfl _, ca 1 (some (.int .u64 0)) rfl _, fa _, cb 0 (some (.int .u64 0)) rfl _, cb 1 (some (.int .u64 0)) rfl _, cr 0 (some (.int .u64 0)) rfl _, cr 1 (some (.int .u64 0)) rfl _, fr _⟩
theorem pre_eq (s : ByteArray) : ((s.extract 0 2).toList == [48, 120]) = Lib.hasPrefix s.data.toList [48, 120] := by
  rw [Lib.toList_data, Lib.extract_data]
  unfold Lib.hasPrefix
  rw [Bool.eq_iff_iff, beq_iff_eq, List.isPrefixOf_iff_prefix, List.prefix_iff_eq_take]
  simp only [List.drop_zero, List.length_cons, List.length_nil]
  exact eq_comm
theorem pre_no (s : ByteArray) (h : 1 < s.size → ((s.extract 0 2).toList == [48, 120]) = false) : parseS s = parseR 10 s.data.toList := by
  unfold parseS
  by_cases h1 : 1 < s.size
  · rw [← pre_eq, h h1, if_neg (by simp)]
  · rw [if_neg]
    intro hp
    unfold Lib.hasPrefix at hp
    have := (List.isPrefixOf_iff_prefix.1 hp).length_le
    have e : s.data.toList.length = s.size := by simp
    simp only [List.length_cons, List.length_nil] at this
    omega
theorem pre_yes (s : ByteArray) (h : ((s.extract 0 2).toList == [48, 120]) = true) : parseS s = parseR 16 (s.extract 2 s.size).data.toList ∧ (s.extract 2 s.size).size ≤ s.size := by
  have hp := (pre_eq s).symm.trans h
  refine ⟨?_, by simp⟩
  have e : (s.data.toList.drop 2).length ≤ s.size - 2 := by simp
  unfold parseS Lib.trimPrefix
  rw [if_pos hp, if_pos hp, Lib.extract_data, List.take_of_length_le e]
  rfl
end Go.Proofs.YtiodfenkbhlpdaaDoor
