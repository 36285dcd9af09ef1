/-
  WHAT IS PROVED HERE: a number's decimal digits, said of their bytes; the world in Text's loop; nothing of any program.
-/
import Derived.Test.YtdngncblilkchaaPlain3
namespace Go.Proofs.Ytdngncblilkchaa
open Go.RowKit
/-- The last j + 1 decimal digits. -/
def digB (n j : Nat) : List UInt8 := (List.range (j + 1)).map fun i => UInt8.ofNat (48 + n / 10 ^ (j - i) % 10)
/-- What the digits' array holds behind j digits. -/
def tdig (n j i : Nat) : Int := if 38 < i + j then ((48 + n / 10 ^ (38 - i) % 10 : Nat) : Int) else 0
theorem tdig_zero (n i : Nat) (h : i < 39) : tdig n 0 i = 0 := if_neg (by omega)
theorem tdig_new (n j p : Nat) (h : p + j = 38) : tdig n (j + 1) p = ((48 + n / 10 ^ j % 10 : Nat) : Int) := by
  unfold tdig; rw [if_pos (by omega), show 38 - p = j by omega]
theorem tdig_old (n j p i : Nat) (h : p + j = 38) (hi : i ≠ p) : tdig n (j + 1) i = tdig n j i := by
  unfold tdig
  by_cases h1 : 38 < i + j
  · rw [if_pos h1, if_pos (by omega)]
  · rw [if_neg h1, if_neg (by omega)]
theorem hi_div (N : Nat) : hi N / 10 = hi (N / 10) := by unfold hi; omega
theorem hi_pos (N : Nat) : 0 ≤ hi N := by unfold hi; omega
theorem lo_div (N : Nat) : ((N / 18446744073709551616 % 10 * 18446744073709551616 + N % 18446744073709551616) / 10 : Nat) = N / 10 % 18446744073709551616 := by omega
theorem rem_div (N : Nat) : ((N / 18446744073709551616 % 10 * 18446744073709551616 + N % 18446744073709551616) % 10 : Nat) = N % 10 := by omega
theorem div_pow (n j : Nat) : n / 10 ^ j / 10 = n / 10 ^ (j + 1) := by rw [Nat.div_div_eq_div_mul, Nat.pow_succ]
theorem div_ne (n j : Nat) (hn : n < B128) (h : n / 10 ^ j ≠ 0) : j ≤ 38 := by
  apply Classical.byContradiction
  intro hj
  apply h
  apply Nat.div_eq_of_lt
  refine Nat.lt_of_lt_of_le hn ?_
  refine Nat.le_trans (by decide +kernel : B128 ≤ 10 ^ 39) (Nat.pow_le_pow_right (by decide) (by omega))

/-- The world at a round's head of Text's loop, behind j digits. -/
structure TInv (w : World) (n j : Nat) (wr : World) : Prop where
  below : Below w.heap.size w wr
  size : w.heap.size + 1 + 1 ≤ wr.heap.size
  n0 : wr.cell? ⟨w.heap.size, 0, none⟩ = some (.int .u64 (hi (n / 10 ^ j)))
  n1 : wr.cell? ⟨w.heap.size, 1, none⟩ = some (.int .u64 (lo (n / 10 ^ j)))
  fn : ∀ o, wr.frozen? ⟨w.heap.size, o, none⟩ = false
  fb : ∀ o, wr.frozen? ⟨w.heap.size + 1, o, none⟩ = false
  b : ∀ i, i < 39 → wr.cell? ⟨w.heap.size + 1, i, none⟩ = some (.int .u8 (tdig n j i))

theorem TInv.store {w wr : World} {n j p : Nat} (h : TInv w n j wr) (hp : p + j = 38) (x : Ext) (d : Int) (hd : d = ((48 + n / 10 ^ j % 10 : Nat) : Int)) (N : Nat) (hN : N = n / 10 ^ (j + 1)) :
    TInv w n (j + 1) ((((plus wr x).setCell ⟨w.heap.size + 1, p, none⟩ (.int .u8 d)).setCell ⟨w.heap.size, 0, none⟩ (.int .u64 (hi N))).setCell ⟨w.heap.size, 1, none⟩ (.int .u64 (lo N))) := by
  subst hN
  have hs := h.size
  have bp := below_plus wr x
  have c : ∀ b o, b < wr.heap.size → (plus wr x).cell? ⟨b, o, none⟩ = wr.cell? ⟨b, o, none⟩ := fun b o hb => cell_plus wr x b o hb
  refine ⟨(((h.below.trans (bp.mono (by omega))).setCell (by simp) _).setCell (by simp) _).setCell (by simp) _, ?_, ?_, ?_, ?_, ?_, fun i hi => ?_⟩
  · have := bp.size; simp [World.setCell]; omega
  · rw [World.cell?_setCell_other _ _ _ _ (by simp)]
    exact World.cell?_setCell_same _ _ _ ((World.cell?_setCell_other _ _ _ _ (by simp)).trans ((c _ _ (by omega)).trans h.n0))
  · exact World.cell?_setCell_same _ _ _ ((World.cell?_setCell_other _ _ _ _ (by simp)).trans ((World.cell?_setCell_other _ _ _ _ (by simp)).trans ((c _ _ (by omega)).trans h.n1)))
  · intro o; simp only [World.frozen?_setCell]; exact (frozen_plus wr x _ _ (by omega)).trans (h.fn o)
  · intro o; simp only [World.frozen?_setCell]; exact (frozen_plus wr x _ _ (by omega)).trans (h.fb o)
  · rw [World.cell?_setCell_other _ _ _ _ (by simp), World.cell?_setCell_other _ _ _ _ (by simp)]
    by_cases hip : i = p
    · subst hip
      rw [tdig_new n j i hp, ← hd]
      exact World.cell?_setCell_same _ _ _ ((c _ _ (by omega)).trans (h.b i hi))
    · rw [World.cell?_setCell_other _ _ _ _ (by simp <;> omega), tdig_old n j p i hp hip]
      exact (c _ _ (by omega)).trans (h.b i hi)

theorem TInv.plus {w wr : World} {n j : Nat} (h : TInv w n j wr) (x : Ext) : TInv w n j (plus wr x) := by
  have hs := h.size
  have bp := below_plus wr x
  exact ⟨h.below.trans (bp.mono (by omega)), Nat.le_trans h.size bp.size, (cell_plus wr x _ _ (by omega)).trans h.n0, (cell_plus wr x _ _ (by omega)).trans h.n1,
    fun o => (frozen_plus wr x _ _ (by omega)).trans (h.fn o), fun o => (frozen_plus wr x _ _ (by omega)).trans (h.fb o), fun i hi => (cell_plus wr x _ _ (by omega)).trans (h.b i hi)⟩

/-- The bytes of the last cells, as a string. -/
theorem bytes_fold : ∀ (ns : List Int) (s : ByteArray), (ns.foldl (fun r n => r.push (UInt8.ofNat n.toNat)) s).data.toList = s.data.toList ++ ns.map fun n => UInt8.ofNat n.toNat
  | [], s => by simp
  | n :: ns, s => by
    rw [List.foldl_cons, bytes_fold ns]
    simp [ByteArray.push]
theorem bytes_of {s : ByteArray} {l : List UInt8} (h : s.data.toList = l) : s = ⟨l.toArray⟩ := by
  subst h; rfl
theorem digB_eq (n j p : Nat) (hp : p + j = 38) : ((List.range (39 - p)).map fun i => tdig n (j + 1) (p + i)).map (fun z => UInt8.ofNat z.toNat) = digB n j := by
  unfold digB
  rw [List.map_map, show 39 - p = j + 1 by omega]
  apply List.map_congr_left
  intro i hi
  have hi' : i < j + 1 := by simpa using hi
  simp only [Function.comp]
  unfold tdig
  rw [if_pos (by omega), show 38 - (p + i) = j - i by omega]
  rfl
end Go.Proofs.Ytdngncblilkchaa
