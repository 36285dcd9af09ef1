/-
  WHAT IS PROVED HERE: a part of the proof of the claim's theorem: Plain3; Ua.
-/
import Derived.Test.YtkffjjlmoojffaaGreatDoorB3
import Derived.Test.YtkffjjlmoojffaaGreatDoorB1
import Derived.Lib.OthersKept
set_option linter.all false
namespace Go.Proofs.YtkffjjlmoojffaaGreatDoor
open Go.RowKit
def ovB (n : Nat) : Bool := decide (2 ^ 128 ≤ n)
theorem ovB_true {n : Nat} (h : 2 ^ 128 ≤ n) : ovB n = true := decide_eq_true h
theorem ovB_false {n : Nat} (h : ¬ 2 ^ 128 ≤ n) : ovB n = false := decide_eq_false h
def valOf (b : Nat) (l : List UInt8) : Nat := l.foldl (fun a c => a * b + (digV (c.toNat : Int) b).toNat) 0
def digs (b : Nat) (l : List UInt8) : Prop := ∀ c ∈ l, digV (c.toNat : Int) b < b
noncomputable def parseR (b : Nat) (l : List UInt8) : Nat × Int := open Classical in if l = [] then (0, 4) else if digs b l then (if 2 ^ 128 ≤ valOf b l then (0, 5) else (valOf b l, 0)) else (0, 4)
theorem valOf_snoc (b : Nat) (l : List UInt8) (c : UInt8) : valOf b (l ++ [c]) = valOf b l * b + (digV (c.toNat : Int) b).toNat := by simp [valOf]
theorem take_snoc (s : ByteArray) (k : Nat) (h : k < s.size) : s.data.toList.take (k + 1) = s.data.toList.take k ++ [s[k]] := by
  rw [List.take_succ_eq_append_getElem (by simpa using h)]; rfl
theorem take_all (s : ByteArray) : s.data.toList.take s.size = s.data.toList := List.take_of_length_le (by simp)
theorem digs_nil (b : Nat) : digs b [] := fun _ h => by cases h
theorem digs_snoc (b : Nat) (l : List UInt8) (c : UInt8) (h : digs b l) (hc : digV (c.toNat : Int) b < b) : digs b (l ++ [c]) := fun x hx => by
  rcases List.mem_append.1 hx with h1 | h1
  · exact h x h1
  · rw [List.mem_singleton.1 h1]; exact hc
theorem parseR_nil (b : Nat) : parseR b [] = (0, 4) := by simp [parseR]
theorem parseR_bad (b : Nat) (l : List UInt8) (h : ¬ digs b l) : parseR b l = (0, 4) := by unfold parseR; rw [if_neg h]; simp
theorem parseR_over (b : Nat) (l : List UInt8) (h0 : l ≠ []) (h : digs b l) (ho : 2 ^ 128 ≤ valOf b l) : parseR b l = (0, 5) := by unfold parseR; rw [if_neg h0, if_pos h, if_pos ho]
theorem parseR_ok (b : Nat) (l : List UInt8) (h0 : l ≠ []) (h : digs b l) (ho : ¬ 2 ^ 128 ≤ valOf b l) : parseR b l = (valOf b l, 0) := by unfold parseR; rw [if_neg h0, if_pos h, if_neg ho]
theorem digs_at (b : Nat) (s : ByteArray) (k : Nat) (h : k < s.size) (hc : ¬ digV ((s[k]).toNat : Int) b < b) : ¬ digs b s.data.toList := fun hd => hc (hd _ (by
  have : s[k] = s.data.toList[k]'(by simpa using h) := by rfl
  rw [this]; exact List.getElem_mem _))
theorem dig_ascii (r : Int) (b : Int) (h : digV r b < b) : r < 128 := by
  apply Classical.byContradiction
  intro hr
  rw [(digV_eq r b).2.2.2 (by omega) (by omega) (by omega)] at h
  omega
theorem dig_high (r : Int) (b : Int) (h : 128 ≤ r) : digV r b = b := (digV_eq r b).2.2.2 (by omega) (by omega) (by omega)
theorem digV_pos (r b : Int) (hb : 0 ≤ b) : 0 ≤ digV r b := by unfold digV; split <;> (try split) <;> (try split) <;> omega
theorem digV_lt (r b : Int) (h : digV r b < b) (hb : b ≤ 16) : (digV r b).toNat < 16 := by omega
theorem dec_bad (b : Int) (s : ByteArray) (k : Nat) (h : k < s.size) (hc : ¬ digV ((s[k]).toNat : Int) b < b) : ¬ digV ((Utf8.decode s k).1 : Int) b < b := by
  by_cases ha : (s[k]).toNat < 128
  · rw [decode_ascii s k h ha]; exact hc
  · have := (decode_high s k h (by omega)).1
    rw [dig_high _ _ (by omega)]; omega
theorem val_over (b v d : Nat) (hb : 1 ≤ b) (h : 2 ^ 128 ≤ v) : 2 ^ 128 ≤ v * b + d := by
  have : v * 1 ≤ v * b := Nat.mul_le_mul_left _ hb
  omega
structure PInv (w : World) (t : ByteArray) (b j k : Nat) (wr : World) : Prop where
  below : Below w.heap.size w wr
  size : w.heap.size + 1 + 1 + 1 ≤ wr.heap.size
  it : wr.heap[w.heap.size + 1 + 1]? = some (.stringIter t j)
  r0 : wr.cell? ⟨w.heap.size, 0, none⟩ = some (.int .u64 0)
  r1 : wr.cell? ⟨w.heap.size, 1, none⟩ = some (.int .u64 0)
  fr : ∀ o, wr.frozen? ⟨w.heap.size, o, none⟩ = false
  fn : ∀ o, wr.frozen? ⟨w.heap.size + 1, o, none⟩ = false
  n : ∃ N, N < B128 ∧ (¬ 2 ^ 128 ≤ valOf b (t.data.toList.take k) → N = valOf b (t.data.toList.take k)) ∧ wr.cell? ⟨w.heap.size + 1, 0, none⟩ = some (.int .u64 (hi N)) ∧ wr.cell? ⟨w.heap.size + 1, 1, none⟩ = some (.int .u64 (lo N))
  ds : digs b (t.data.toList.take k)
theorem PInv.next {w wr : World} {t : ByteArray} {b j k : Nat} (h : PInv w t b j k wr) (j' : Nat) : PInv w t b j' k (wr.iterAt (w.heap.size + 1 + 1) t j') := by
  have ho : ∀ x, x ≠ w.heap.size + 1 + 1 → (wr.iterAt (w.heap.size + 1 + 1) t j').heap[x]? = wr.heap[x]? := fun x hx => Lib.iterAt_other wr _ x t j' hx
  have hc : ∀ x o, x ≠ w.heap.size + 1 + 1 → (wr.iterAt (w.heap.size + 1 + 1) t j').cell? ⟨x, o, none⟩ = wr.cell? ⟨x, o, none⟩ := fun x o hx => World.cell?_of_block (a := ⟨x, o, none⟩) (ho x hx)
  have hf : ∀ x o, x ≠ w.heap.size + 1 + 1 → (wr.iterAt (w.heap.size + 1 + 1) t j').frozen? ⟨x, o, none⟩ = wr.frozen? ⟨x, o, none⟩ := fun x o hx => World.frozen?_of_block (a := ⟨x, o, none⟩) (ho x hx)
  obtain ⟨N, hN, hv, c0, c1⟩ := h.n
  exact ⟨Lib.below_iterAt h.below (by omega) t j', by rw [Lib.iterAt_size]; exact h.size, Lib.iterAt_heap wr _ t j j' h.it, (hc _ _ (by omega)).trans h.r0, (hc _ _ (by omega)).trans h.r1,
    fun o => (hf _ _ (by omega)).trans (h.fr o), fun o => (hf _ _ (by omega)).trans (h.fn o), ⟨N, hN, hv, (hc _ _ (by omega)).trans c0, (hc _ _ (by omega)).trans c1⟩, h.ds⟩
theorem PInv.over {w wr : World} {t : ByteArray} {b j k : Nat} (h : PInv w t b j k wr) (hb : 1 ≤ b) (hk : k < t.size) (hd : digV ((t[k]).toNat : Int) b < b) (ho : 2 ^ 128 ≤ valOf b (t.data.toList.take k)) :
    PInv w t b j (k + 1) wr ∧ 2 ^ 128 ≤ valOf b (t.data.toList.take (k + 1)) := by
  obtain ⟨N, hN, hv, c0, c1⟩ := h.n
  have e := take_snoc t k hk
  have ho' : 2 ^ 128 ≤ valOf b (t.data.toList.take (k + 1)) := by
    rw [e, valOf_snoc]; exact val_over _ _ _ hb ho
  refine ⟨⟨h.below, h.size, h.it, h.r0, h.r1, h.fr, h.fn, ⟨N, hN, fun hn => absurd ho' hn, c0, c1⟩, ?_⟩, ho'⟩
  rw [e]; exact digs_snoc _ _ _ h.ds hd
theorem PInv.store {w wr : World} {t : ByteArray} {b j k : Nat} (h : PInv w t b j k wr) (hk : k < t.size) (hd : digV ((t[k]).toNat : Int) b < b) (N : Nat) (hN : N < B128)
    (hv : ¬ 2 ^ 128 ≤ valOf b (t.data.toList.take (k + 1)) → N = valOf b (t.data.toList.take (k + 1))) (x : Ext) :
    PInv w t b j (k + 1) (((plus wr x).setCell ⟨w.heap.size + 1, 0, none⟩ (.int .u64 (hi N))).setCell ⟨w.heap.size + 1, 1, none⟩ (.int .u64 (lo N))) := by
  obtain ⟨N', hN', hv', c0, c1⟩ := h.n
  have hs := h.size
  have bp := below_plus wr x
  have p0 : (plus wr x).cell? ⟨w.heap.size + 1, 0, none⟩ = some (.int .u64 (hi N')) := (cell_plus wr x _ _ (by omega)).trans c0
  have p1 : (plus wr x).cell? ⟨w.heap.size + 1, 1, none⟩ = some (.int .u64 (lo N')) := (cell_plus wr x _ _ (by omega)).trans c1
  refine ⟨((h.below.trans (bp.mono (by omega))).setCell (by simp) _).setCell (by simp) _, ?_, ?_, ?_, ?_, ?_, ?_, ⟨N, hN, hv, ?_, ?_⟩, ?_⟩
  · have := bp.size; simp [World.setCell]; omega
  · rw [Below.heap_setCell _ _ _ _ (by simp), Below.heap_setCell _ _ _ _ (by simp)]
    exact (bp.block _ (by omega)).trans h.it
  · rw [World.cell?_setCell_other _ _ _ _ (by simp), World.cell?_setCell_other _ _ _ _ (by simp)]; exact (cell_plus wr x _ _ (by omega)).trans h.r0
  · rw [World.cell?_setCell_other _ _ _ _ (by simp), World.cell?_setCell_other _ _ _ _ (by simp)]; exact (cell_plus wr x _ _ (by omega)).trans h.r1
  · intro o; simp only [World.frozen?_setCell]; exact (frozen_plus wr x _ _ (by omega)).trans (h.fr o)
  · intro o; simp only [World.frozen?_setCell]; exact (frozen_plus wr x _ _ (by omega)).trans (h.fn o)
  · rw [World.cell?_setCell_other _ _ _ _ (by simp)]; exact World.cell?_setCell_same _ _ _ p0
  · exact World.cell?_setCell_same _ _ _ ((World.cell?_setCell_other _ _ _ _ (by simp)).trans p1)
  · rw [take_snoc t k hk]; exact digs_snoc _ _ _ h.ds hd
theorem PInv.start (w : World) (t : ByteArray) (b : Nat) (T : TypeId) :
    PInv w t b 0 0 (((w.alloc (.cells #[.int .u64 0, .int .u64 0] T)).alloc (.cells #[.int .u64 0, .int .u64 0] T)).iter t 0) := by
  have h1 : (w.alloc (.cells #[.int .u64 0, .int .u64 0] T)).heap.size = w.heap.size + 1 := by simp
  have h2 : ((w.alloc (.cells #[.int .u64 0, .int .u64 0] T)).alloc (.cells #[.int .u64 0, .int .u64 0] T)).heap.size = w.heap.size + 1 + 1 := by simp
  have z : Value.int .u64 0 = .int .u64 (hi 0) := rfl
  refine ⟨(((Below.refl _ _).alloc (Nat.le_refl _) _).alloc (by omega) _).alloc (by omega) _, by simp [World.iter], ?_, ?_, ?_, ?_, ?_, ⟨0, by decide, fun _ => by simp [valOf], ?_, ?_⟩, ?_⟩
  · have := World.iter_heap ((w.alloc (.cells #[.int .u64 0, .int .u64 0] T)).alloc (.cells #[.int .u64 0, .int .u64 0] T)) t 0
    rwa [h2] at this
  · exact (cell_old _ _ _ 0 (by omega)).trans ((cell_old _ _ _ 0 (by omega)).trans (cell_new w _ T _ 0 rfl))
  · exact (cell_old _ _ _ 1 (by omega)).trans ((cell_old _ _ _ 1 (by omega)).trans (cell_new w _ T _ 1 rfl))
  · exact fun o => (frozen_old _ _ _ o (by omega)).trans ((frozen_old _ _ _ o (by omega)).trans (frozen_new w _ T _ o rfl))
  · exact fun o => (frozen_old _ _ _ o (by omega)).trans (frozen_new _ _ T _ o h1.symm)
  · exact (cell_old _ _ _ 0 (by omega)).trans (cell_new _ _ T _ 0 h1.symm)
  · exact (cell_old _ _ _ 1 (by omega)).trans (cell_new _ _ T _ 1 h1.symm)
  · simpa using digs_nil b
theorem bytes_empty (t : ByteArray) (h : t.size = 0) : t.data.toList = [] := by
  apply List.eq_nil_of_length_eq_zero; simpa using h
theorem bytes_empty' (t : ByteArray) (h : t.size = 0) : t.toList.isEmpty = true := by rw [ByteArray.toList_eq, bytes_empty t h]; rfl
theorem bytes_some (t : ByteArray) (h : ¬ t.size = 0) : t.data.toList ≠ [] := fun e => h (by have := congrArg List.length e; simpa using this)
theorem bytes_some' (t : ByteArray) (h : ¬ t.size = 0) : t.toList.isEmpty = false := by
  rw [ByteArray.toList_eq]
  cases hl : t.data.toList with
  | nil => exact absurd hl (bytes_some t h)
  | cons => rfl
end Go.Proofs.YtkffjjlmoojffaaGreatDoor
namespace Go.Proofs.YtkffjjlmoojffaaGreatDoor
open Go.RowKit
end Go.Proofs.YtkffjjlmoojffaaGreatDoor
