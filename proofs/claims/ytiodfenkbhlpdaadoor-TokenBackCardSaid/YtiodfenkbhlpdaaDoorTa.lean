/-
  WHAT IS PROVED HERE: plain laws on line ends, lines and columns of a text; nothing of any program.
-/
import Derived.WalkKit
import Derived.Lib.Hide
namespace Go.Proofs.YtiodfenkbhlpdaaDoor
open Go.RowKit

/-- Whether a text's byte is a line end. -/
def nl (s : ByteArray) (k : Nat) : Bool := s.data[k]? == some 10
theorem nl_yes {s : ByteArray} {k : Nat} (h : k < s.size) (e : ((s[k]).toNat : Int) = 10) : nl s k = true := by
  have h' : k < s.data.size := h
  unfold nl
  rw [Array.getElem?_eq_getElem h']
  have e2 : (s.data[k]).toNat = 10 := by have : (s[k]).toNat = 10 := by omega
                                         exact this
  have : s.data[k] = 10 := UInt8.toNat_inj.1 e2
  simp [this]
theorem nl_no {s : ByteArray} {k : Nat} (h : k < s.size) (e : ¬ ((s[k]).toNat : Int) = 10) : nl s k = false := by
  have h' : k < s.data.size := h
  unfold nl
  rw [Array.getElem?_eq_getElem h']
  have e2 : ¬ (s.data[k]).toNat = 10 := by intro e2; apply e; have : (s[k]).toNat = 10 := e2
                                           omega
  simp only [beq_eq_false_iff_ne, ne_eq, Option.some.injEq]
  intro e3; apply e2; rw [e3]; rfl

theorem nl_is {s : ByteArray} {k : Nat} (h : k < s.size) (e : nl s k = true) : (((s[k]).toNat : Int) == 10) = true := by
  by_cases h10 : ((s[k]).toNat : Int) = 10
  · simpa using h10
  · rw [nl_no h h10] at e; cases e
theorem nl_isnt {s : ByteArray} {k : Nat} (h : k < s.size) (e : nl s k = false) : (((s[k]).toNat : Int) == 10) = false := by
  by_cases h10 : ((s[k]).toNat : Int) = 10
  · rw [nl_yes h h10] at e; cases e
  · simpa using h10
theorem nl_past {s : ByteArray} {k : Nat} (h : s.size ≤ k) : nl s k = false := by
  have h' : s.data.size ≤ k := h
  unfold nl
  rw [Array.getElem?_eq_none h']
  rfl

/-- How many line ends are ahead of a byte. -/
def cnt (f : Nat → Bool) : Nat → Nat
  | 0 => 0
  | k + 1 => if f k then cnt f k + 1 else cnt f k
/-- Where that byte's line begins. -/
def beg (f : Nat → Bool) : Nat → Nat
  | 0 => 0
  | k + 1 => if f k then k + 1 else beg f k
theorem cnt_yes {f : Nat → Bool} {k : Nat} (h : f k = true) : cnt f (k + 1) = cnt f k + 1 := by simp [cnt, h]
theorem cnt_no {f : Nat → Bool} {k : Nat} (h : f k = false) : cnt f (k + 1) = cnt f k := by simp [cnt, h]
theorem beg_yes {f : Nat → Bool} {k : Nat} (h : f k = true) : beg f (k + 1) = k + 1 := by simp [beg, h]
theorem beg_no {f : Nat → Bool} {k : Nat} (h : f k = false) : beg f (k + 1) = beg f k := by simp [beg, h]
theorem cnt_le (f : Nat → Bool) : ∀ k, cnt f k ≤ k
  | 0 => Nat.le_refl _
  | k + 1 => by have := cnt_le f k; unfold cnt; split <;> omega
theorem beg_le (f : Nat → Bool) : ∀ k, beg f k ≤ k
  | 0 => Nat.le_refl _
  | k + 1 => by have := beg_le f k; unfold beg; split <;> omega
theorem cnt_mono (f : Nat → Bool) (i : Nat) : ∀ d, cnt f i ≤ cnt f (i + d)
  | 0 => Nat.le_refl _
  | d + 1 => by
    have := cnt_mono f i d
    show _ ≤ cnt f (i + d + 1)
    cases hf : f (i + d) with
    | true => rw [cnt_yes hf]; omega
    | false => rw [cnt_no hf]; omega
/-- The line's beginning hangs on the line alone. -/
theorem beg_same (f : Nat → Bool) (i : Nat) : ∀ d, cnt f (i + d) = cnt f i → beg f (i + d) = beg f i
  | 0 => fun _ => rfl
  | d + 1 => fun h => by
    have h1 := cnt_mono f i d
    have h2 : cnt f (i + d + 1) = cnt f i := h
    cases hf : f (i + d) with
    | true => rw [cnt_yes hf] at h2; omega
    | false =>
      rw [cnt_no hf] at h2
      show beg f (i + d + 1) = _
      rw [beg_no hf]; exact beg_same f i d h2
/-- No two bytes have one place. -/
theorem place_inj {f : Nat → Bool} {i j : Nat} (h1 : cnt f i = cnt f j) (h2 : i + 1 - beg f i = j + 1 - beg f j) : i = j := by
  have a := beg_le f i
  have b := beg_le f j
  rcases Nat.le_total i j with h | h
  · have := beg_same f i (j - i) (by rw [show i + (j - i) = j by omega]; exact h1.symm)
    rw [show i + (j - i) = j by omega] at this; omega
  · have := beg_same f j (i - j) (by rw [show j + (i - j) = i by omega]; exact h1)
    rw [show j + (i - j) = i by omega] at this; omega

/-- What text.At keeps while it goes through the text: a line, and where it begins. -/
def scanL (f : Nat → Bool) (L : Int) : Nat → Nat
  | 0 => 1
  | k + 1 => if f k = true ∧ (scanL f L k : Int) < L then scanL f L k + 1 else scanL f L k
def scanB (f : Nat → Bool) (L : Int) : Nat → Nat
  | 0 => 0
  | k + 1 => if f k = true ∧ (scanL f L k : Int) < L then k + 1 else scanB f L k
theorem scanL_le (f : Nat → Bool) (L : Int) : ∀ k, scanL f L k ≤ k + 1
  | 0 => Nat.le_refl _
  | k + 1 => by have := scanL_le f L k; unfold scanL; split <;> omega
theorem scanB_le (f : Nat → Bool) (L : Int) : ∀ k, scanB f L k ≤ k
  | 0 => Nat.le_refl _
  | k + 1 => by have := scanB_le f L k; unfold scanB; split <;> omega
theorem scan_upto (f : Nat → Bool) (i : Nat) : ∀ k, k ≤ i → scanL f ((cnt f i + 1 : Nat) : Int) k = cnt f k + 1 ∧ scanB f ((cnt f i + 1 : Nat) : Int) k = beg f k
  | 0 => fun _ => ⟨rfl, rfl⟩
  | k + 1 => fun h => by
    obtain ⟨h1, h2⟩ := scan_upto f i k (by omega)
    unfold scanL scanB
    rw [h1, h2]
    cases hf : f k with
    | true =>
      have hm := cnt_mono f (k + 1) (i - (k + 1))
      rw [show k + 1 + (i - (k + 1)) = i by omega, cnt_yes hf] at hm
      rw [cnt_yes hf, beg_yes hf, if_pos ⟨rfl, by omega⟩, if_pos ⟨rfl, by omega⟩]
      exact ⟨rfl, rfl⟩
    | false => rw [cnt_no hf, beg_no hf]; simp
theorem scan_from (f : Nat → Bool) (i : Nat) : ∀ d, scanL f ((cnt f i + 1 : Nat) : Int) (i + d) = cnt f i + 1 ∧ scanB f ((cnt f i + 1 : Nat) : Int) (i + d) = beg f i
  | 0 => scan_upto f i i (Nat.le_refl _)
  | d + 1 => by
    obtain ⟨h1, h2⟩ := scan_from f i d
    show scanL f _ (i + d + 1) = _ ∧ scanB f _ (i + d + 1) = _
    unfold scanL scanB
    rw [h1, h2]
    have hn : ¬ (f (i + d) = true ∧ ((cnt f i + 1 : Nat) : Int) < ((cnt f i + 1 : Nat) : Int)) := by omega
    rw [if_neg hn, if_neg hn]
    exact ⟨rfl, rfl⟩
theorem scan_at (f : Nat → Bool) (i n : Nat) (h : i ≤ n) : scanB f ((cnt f i + 1 : Nat) : Int) n = beg f i := by
  have := (scan_from f i (n - i)).2
  rwa [show i + (n - i) = n by omega] at this

/-- Two numbers as a place. -/
abbrev pv (l c : Int) : Value := .agg #[.int .i64 l, .int .i64 c]
def lineOf (s : ByteArray) (i : Nat) : Nat := cnt (nl s) i + 1
def colOf (s : ByteArray) (i : Nat) : Nat := i + 1 - beg (nl s) i
theorem lineOf_pos (s : ByteArray) (i : Nat) : 1 ≤ lineOf s i := by unfold lineOf; omega
theorem colOf_pos (s : ByteArray) (i : Nat) : 1 ≤ colOf s i := by have := beg_le (nl s) i; unfold colOf; omega
theorem lineOf_le (s : ByteArray) (i : Nat) : lineOf s i ≤ i + 1 := by have := cnt_le (nl s) i; unfold lineOf; omega
theorem colOf_le (s : ByteArray) (i : Nat) : colOf s i ≤ i + 1 := by unfold colOf; omega
theorem at_inj {s : ByteArray} {i j : Nat} (h1 : lineOf s i = lineOf s j) (h2 : colOf s i = colOf s j) : i = j :=
  place_inj (f := nl s) (by unfold lineOf at h1; omega) h2
/-- Places rise. -/
theorem place_rises (s : ByteArray) (i : Nat) : lineOf s i < lineOf s (i + 1) ∨ lineOf s i = lineOf s (i + 1) ∧ colOf s i < colOf s (i + 1) := by
  unfold lineOf colOf
  have := beg_le (nl s) i
  cases h : nl s i with
  | true => rw [cnt_yes h]; omega
  | false => rw [cnt_no h, beg_no h]; omega
/-- The byte that a number stands for. -/
def clampN (at_ : Int) (n : Nat) : Nat := (min (max at_ 0) (n : Int)).toNat
theorem clampN_le (a : Int) (n : Nat) : clampN a n ≤ n := by unfold clampN; omega
theorem clampN_eq (a : Int) (n : Nat) : ((clampN a n : Nat) : Int) = min (max a 0) (n : Int) := by unfold clampN; omega
theorem clampN_in (i n : Nat) (h : i ≤ n) : clampN (i : Int) n = i := by unfold clampN; omega
/-- What the ends of a shorter text are. -/
theorem nl_extract (s : ByteArray) (n k : Nat) (hn : n ≤ s.size) (hk : k < n) : nl (s.extract 0 n) k = nl s k := by
  unfold nl
  have h1 : (s.extract 0 n).data = s.data.extract 0 n := by simp
  rw [h1, Array.getElem?_extract]
  have h2 : n ≤ s.data.size := hn
  rw [if_pos (by omega)]
  simp
theorem cnt_congr {f g : Nat → Bool} : ∀ n, (∀ k, k < n → f k = g k) → cnt f n = cnt g n ∧ beg f n = beg g n
  | 0 => fun _ => ⟨rfl, rfl⟩
  | n + 1 => fun h => by
    obtain ⟨h1, h2⟩ := cnt_congr (f := f) (g := g) n (fun k hk => h k (by omega))
    unfold cnt beg
    rw [h n (by omega), h1, h2]
    exact ⟨rfl, rfl⟩
theorem size_extract (s : ByteArray) (n : Nat) (h : n ≤ s.size) : (s.extract 0 n).size = n := by simp; omega
end Go.Proofs.YtiodfenkbhlpdaaDoor
