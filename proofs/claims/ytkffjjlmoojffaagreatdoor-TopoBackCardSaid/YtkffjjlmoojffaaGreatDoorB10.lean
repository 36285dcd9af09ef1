/-
  WHAT IS PROVED HERE: a part of the proof of the claim's theorem: Ta; Tb; Tc; Te.
-/
import Derived.WalkKit
import Derived.Lib.Hide
import Derived.Test.YtkffjjlmoojffaaGreatDoorRows
import Derived.Test.YtkffjjlmoojffaaGreatDoorB1
import Derived.WalkSpells
import Derived.WalkLawsBesides
import Derived.Shelf.Abstract
set_option linter.all false
namespace Go.Proofs.YtkffjjlmoojffaaGreatDoor
open Go.RowKit
def nl (s : ByteArray) (k : Nat) : Bool := s.data[k]? == some 10
theorem nl_yes {s : ByteArray} {k : Nat} (h : k < s.size) (e : ((s[k]).toNat : Int) = 10) : nl s k = true := by
  have h' : k < s.data.size := h
  unfold nl
  rw [Array.getElem?_eq_getElem h']
  have e2 : (s.data[k]).toNat = 10 := by have : (s[k]).toNat = 10 := by omega
                                         exact this
  have : s.data[k] = 10 := UInt8.toNat_inj.1 e2
  simp [this]
theorem nl_no {s : ByteArray} {k : Nat} (h : k < s.size) (e : ¬ ((s[k]).toNat : Int) = 10) : nl s k = false := by
  have h' : k < s.data.size := h
  unfold nl
  rw [Array.getElem?_eq_getElem h']
  have e2 : ¬ (s.data[k]).toNat = 10 := by intro e2; apply e; have : (s[k]).toNat = 10 := e2
                                           omega
  simp only [beq_eq_false_iff_ne, ne_eq, Option.some.injEq]
  intro e3; apply e2; rw [e3]; rfl
theorem nl_is {s : ByteArray} {k : Nat} (h : k < s.size) (e : nl s k = true) : (((s[k]).toNat : Int) == 10) = true := by
  by_cases h10 : ((s[k]).toNat : Int) = 10
  · simpa using h10
  · rw [nl_no h h10] at e; cases e
theorem nl_isnt {s : ByteArray} {k : Nat} (h : k < s.size) (e : nl s k = false) : (((s[k]).toNat : Int) == 10) = false := by
  by_cases h10 : ((s[k]).toNat : Int) = 10
  · rw [nl_yes h h10] at e; cases e
  · simpa using h10
theorem nl_past {s : ByteArray} {k : Nat} (h : s.size ≤ k) : nl s k = false := by
  have h' : s.data.size ≤ k := h
  unfold nl
  rw [Array.getElem?_eq_none h']
  rfl
def cnt (f : Nat → Bool) : Nat → Nat
  | 0 => 0
  | k + 1 => if f k then cnt f k + 1 else cnt f k
def beg (f : Nat → Bool) : Nat → Nat
  | 0 => 0
  | k + 1 => if f k then k + 1 else beg f k
theorem cnt_yes {f : Nat → Bool} {k : Nat} (h : f k = true) : cnt f (k + 1) = cnt f k + 1 := by simp [cnt, h]
theorem cnt_no {f : Nat → Bool} {k : Nat} (h : f k = false) : cnt f (k + 1) = cnt f k := by simp [cnt, h]
theorem beg_yes {f : Nat → Bool} {k : Nat} (h : f k = true) : beg f (k + 1) = k + 1 := by simp [beg, h]
theorem beg_no {f : Nat → Bool} {k : Nat} (h : f k = false) : beg f (k + 1) = beg f k := by simp [beg, h]
theorem cnt_le (f : Nat → Bool) : ∀ k, cnt f k ≤ k
  | 0 => Nat.le_refl _
  | k + 1 => by have := cnt_le f k; unfold cnt; split <;> omega
theorem beg_le (f : Nat → Bool) : ∀ k, beg f k ≤ k
  | 0 => Nat.le_refl _
  | k + 1 => by have := beg_le f k; unfold beg; split <;> omega
abbrev pv (l c : Int) : Value := .agg #[.int .i64 l, .int .i64 c]
def lineOf (s : ByteArray) (i : Nat) : Nat := cnt (nl s) i + 1
def colOf (s : ByteArray) (i : Nat) : Nat := i + 1 - beg (nl s) i
theorem lineOf_le (s : ByteArray) (i : Nat) : lineOf s i ≤ i + 1 := by have := cnt_le (nl s) i; unfold lineOf; omega
def clampN (at_ : Int) (n : Nat) : Nat := (min (max at_ 0) (n : Int)).toNat
theorem clampN_le (a : Int) (n : Nat) : clampN a n ≤ n := by unfold clampN; omega
theorem clampN_eq (a : Int) (n : Nat) : ((clampN a n : Nat) : Int) = min (max a 0) (n : Int) := by unfold clampN; omega
theorem clampN_in (i n : Nat) (h : i ≤ n) : clampN (i : Int) n = i := by unfold clampN; omega
theorem nl_extract (s : ByteArray) (n k : Nat) (hn : n ≤ s.size) (hk : k < n) : nl (s.extract 0 n) k = nl s k := by
  unfold nl
  have h1 : (s.extract 0 n).data = s.data.extract 0 n := by simp
  rw [h1, Array.getElem?_extract]
  have h2 : n ≤ s.data.size := hn
  rw [if_pos (by omega)]
  simp
theorem size_extract (s : ByteArray) (n : Nat) (h : n ≤ s.size) : (s.extract 0 n).size = n := by simp; omega
end Go.Proofs.YtkffjjlmoojffaaGreatDoor
namespace Go.Proofs.YtkffjjlmoojffaaGreatDoor
open Go.RowKit
theorem where_lit (base : World) (ba : Nat) (l c a e : Int) (hl : ba < base.heap.size) (hc : base.cell? ⟨ba, 0, none⟩ = some (.int .i64 a))
    (l0 : 0 ≤ l) (l1 : l ≤ 281474976710656) (a0 : 0 ≤ a) (a1 : a ≤ 281474976710656) (e0 : 0 ≤ e) (e1 : e ≤ 281474976710656) :
    Calls Tryz.prog 131 #[.int .i64 e, .pointer (some ⟨base.heap.size, 0, none⟩), .pointer (some ⟨ba, 0, none⟩)] (base.alloc (.cells #[.int .i64 l, .int .i64 c] 30)) fun r w' => r = .returned (.tuple #[]) ∧ w' = base.alloc (.cells #[.int .i64 (l + 1), .int .i64 (a - e)] 30) := by
  have hc' : ∀ x, (base.alloc x).cell? ⟨ba, 0, none⟩ = some (.int .i64 a) := fun x => (cell_old base x ba 0 hl).trans hc
  have hne : ¬ ba = base.heap.size := by omega
  go_enter Tryz.func131, Tryz.ntmps131
  go_wp2
  go_end0
  exact ⟨rfl, rfl⟩
set_option maxHeartbeats 1000000 in
theorem each_any (s : ByteArray) (hs : s.size ≤ 140737488355328) (g : FuncId) (caps : Array Value) (W : Nat → World)
    (hent : ∀ args w, (callFunc g args).run Tryz.prog w = .ok (.enter g args) w)
    (hyes : ∀ k, k < s.size → nl s k = true → Calls Tryz.prog g (#[.int .i64 (k : Int)] ++ caps) (W k) fun e w' => e = .returned (.tuple #[]) ∧ w' = W (k + 1))
    (hno : ∀ k, nl s k = false → W (k + 1) = W k) :
    Calls Tryz.prog 130 #[.string s, .func (.func g) #[] caps] (W 0) fun e w' => e = .returned (.tuple #[]) ∧ w' = W s.size := by
  have hyes' := Lib.hid hyes
  have hno' := Lib.hid hno
  clear hyes hno
  go_enter Tryz.func130, Tryz.ntmps130
  go_wp2
  go_loopw [7] (fun iv wr => ∃ k : Nat, k ≤ s.size ∧ iv = .int .i64 (k : Int) ∧ wr = W k) (fun iv _ => s.size - (intOf iv).toNat)
  case atStart => exact ⟨0, Nat.zero_le _, rfl, rfl⟩
  case round =>
    obtain ⟨k, hk, rfl, rfl⟩ := hrel
    by_cases hlt : k < s.size
    · cases hn : nl s k with
      | true =>
        have hb : (((s[k]).toNat : Int) == 10) = true := nl_is hlt hn
        have hY := hyes'.out k hlt hn
        have hlt' := Lib.hid hlt
        have hY' := Lib.hid hY
        clear hY hn
        go_wp2_with (refine hY'.out.mono ?_; rintro e w' ⟨rfl, rfl⟩)
        go_roundw
        case rel => exact ⟨k + 1, by have := hlt'.out; omega, by go_num, rfl⟩
        case measure => simp [intOf]; have := hlt'.out; omega
      | false =>
        have hb : (((s[k]).toNat : Int) == 10) = false := nl_isnt hlt hn
        have hN := Lib.hid (hno'.out k hn)
        have hlt' := Lib.hid hlt
        clear hn
        go_wp2
        go_roundw
        case rel => exact ⟨k + 1, by have := hlt'.out; omega, by go_num, hN.out.symm⟩
        case measure => simp [intOf]; have := hlt'.out; omega
    · have hk' : k = s.size := by omega
      have hk2 := Lib.hid hk'
      clear hk'
      go_wp2
      go_end0
      exact ⟨rfl, by rw [hk2.out]⟩
end Go.Proofs.YtkffjjlmoojffaaGreatDoor
namespace Go.Proofs.YtkffjjlmoojffaaGreatDoor
open Go.RowKit
def whereW (base : World) (s : ByteArray) (n k : Nat) : World := base.alloc (.cells #[.int .i64 (lineOf s k : Nat), .int .i64 (n + 1 - beg (nl s) k : Nat)] 30)
theorem where_ends (base : World) (ba : Nat) (s t : ByteArray) (n : Nat) (hs : s.size ≤ 140737488355328) (hn : n ≤ s.size) (ht : t = s.extract 0 n) (hl : ba < base.heap.size) (hc : base.cell? ⟨ba, 0, none⟩ = some (.int .i64 (n : Int))) (w0 : World) (hw : w0 = whereW base s n 0) :
    Calls Tryz.prog 130 #[.string t, .func (.func 131) #[] #[.pointer (some ⟨base.heap.size, 0, none⟩), .pointer (some ⟨ba, 0, none⟩)]] w0 fun e w' => e = .returned (.tuple #[]) ∧ w' = whereW base s n n := by
  subst ht hw
  have hz := size_extract s n hn
  have hnl : ∀ k, nl (s.extract 0 n) k = true → k < n ∧ nl s k = true := fun k h => by
    by_cases hk : k < n
    · exact ⟨hk, by rwa [nl_extract s n k hn hk] at h⟩
    · rw [nl_past (by omega)] at h; cases h
  have hstep : ∀ k, k < n → nl s k = false → whereW base s n (k + 1) = whereW base s n k := fun k hk h => by
    unfold whereW lineOf; rw [cnt_no h, beg_no h]
  have := each_any (s.extract 0 n) (by omega) 131 #[.pointer (some ⟨base.heap.size, 0, none⟩), .pointer (some ⟨ba, 0, none⟩)] (fun k => whereW base s n (min k n)) (enters_of Tryz.func131 (by kernel_rfl) rfl) ?_ ?_
  · simp only [hz, Nat.zero_min, Nat.min_self] at this
    exact this
  · intro k hk h
    obtain ⟨hkn, h⟩ := hnl k h
    have h1 := lineOf_le s k
    have h2 := beg_le (nl s) k
    rw [show min (k + 1) n = k + 1 by omega, show min k n = k by omega]
    show Calls Tryz.prog 131 #[.int .i64 (k : Int), .pointer (some ⟨base.heap.size, 0, none⟩), .pointer (some ⟨ba, 0, none⟩)] (base.alloc (.cells #[.int .i64 (lineOf s k : Nat), .int .i64 (n + 1 - beg (nl s) k : Nat)] 30)) _
    refine (where_lit base ba (lineOf s k : Nat) (n + 1 - beg (nl s) k : Nat) n k hl hc (by omega) (by omega) (by omega) (by omega) (by omega) (by omega)).mono ?_
    rintro e w' ⟨rfl, rfl⟩
    refine ⟨rfl, ?_⟩
    have a1 : ((lineOf s k : Nat) : Int) + 1 = (lineOf s (k + 1) : Nat) := by unfold lineOf; rw [cnt_yes h]; omega
    have a2 : (n : Int) - (k : Int) = (n + 1 - beg (nl s) (k + 1) : Nat) := by rw [beg_yes h]; omega
    rw [a1, a2]; rfl
  · intro k h
    by_cases hk : k < n
    · rw [show min (k + 1) n = k + 1 by omega, show min k n = k by omega]
      exact hstep k hk (by rwa [nl_extract s n k hn hk] at h)
    · rw [show min (k + 1) n = n by omega, show min k n = n by omega]
set_option maxHeartbeats 1000000 in
theorem text_where (s : ByteArray) (a : Int) (hs : s.size ≤ 140737488355328) (h0 : -9223372036854775808 ≤ a) (h1 : a ≤ 9223372036854775807) :
    Pure Tryz.prog 103 #[.string s, .int .i64 a] (pv (lineOf s (clampN a s.size) : Nat) (colOf s (clampN a s.size) : Nat)) := by
  intro w
  have hmf : ∀ (fn : Fn) (first cap : Array Value) (w : World), (Instr.makeFunc fn first cap).run Tryz.prog w = .ok (.func fn first cap) w := fun _ _ _ _ => rfl
  obtain ⟨n, hn⟩ : ∃ n, n = clampN a s.size := ⟨_, rfl⟩
  have hle : n ≤ s.size := by rw [hn]; exact clampN_le _ _
  obtain ⟨M, hM⟩ : ∃ M : Int, M = max a 0 := ⟨_, rfl⟩
  have hmax : (if a < 0 then 0 else a) = M := by rw [hM]; simp only [Int.max_def]; repeat' split
                                                 all_goals omega
  have hmin : (if ((s.size : Nat) : Int) < M then ((s.size : Nat) : Int) else M) = (n : Int) := by
    rw [hn, clampN_eq, ← hM]; simp only [Int.min_def]; repeat' split
    all_goals omega
  rw [← hn]
  obtain ⟨base, hb⟩ : ∃ base, base = (w.alloc (.cells #[.int .i64 (n : Int)] 3)).alloc (.cells #[.int .i64 0, .int .i64 0] 30) := ⟨_, rfl⟩
  have hz : base.heap.size = w.heap.size + 1 + 1 := by rw [hb]; simp
  have hcell : base.cell? ⟨w.heap.size, 0, none⟩ = some (.int .i64 (n : Int)) := by
    rw [hb]; exact (cell_old _ _ _ 0 (by simp)).trans (cell_new w _ _ _ 0 rfl)
  have hC := where_ends base w.heap.size s (s.extract 0 n) n hs hle rfl (by omega) hcell (base.alloc (.cells #[.int .i64 1, .int .i64 ((n : Int) + 1)] 30)) (by simp [whereW, lineOf, cnt, beg])
  rw [hz, hb] at hC
  unfold whereW at hC
  have hl : (lineOf s n : Int) ≤ 140737488355329 := by have := lineOf_le s n; omega
  have hC := Lib.hid hC
  clear hn hM hb hz hcell base
  go_enter Tryz.func103, Tryz.ntmps103
  go_wp2_with (go_at_call 130; refine hC.out.mono ?_; rintro e w' ⟨rfl, rfl⟩)
  refine bodyPost_ret (v := pv (lineOf s n : Nat) (colOf s n : Nat)) (by simp [results, Tryz.results103, go_sem, pv, colOf]) rfl ⟨rfl, ?_⟩
  exact plus_of_below ((((Below.refl _ _).alloc (Nat.le_refl _) _).alloc (by simp) _).alloc (by simp; omega) _)
end Go.Proofs.YtkffjjlmoojffaaGreatDoor
namespace Go.Proofs.YtkffjjlmoojffaaGreatDoor
open Go.RowKit
abbrev fv (e l c : Int) : Value := .agg #[.int .i64 e, .int .i64 l, .int .i64 c]
theorem own_end3 {w W : World} {y : Ext} {b : Nat} (hB : Below w.heap.size w W) (hb : w.heap.size ≤ b) (u v t : Value) : ∃ x, (((plus W y).setCell ⟨b, 0, none⟩ u).setCell ⟨b, 1, none⟩ v).setCell ⟨b, 2, none⟩ t = plus w x :=
  plus_of_below ((((hB.trans ((below_plus W y).mono hB.size)).setCell hb _).setCell hb _).setCell hb _)
set_option maxHeartbeats 1000000 in
theorem text_fault (s : ByteArray) (a e : Int) (he : ¬ e = 0) (hs : s.size ≤ 140737488355328) (h0 : -9223372036854775808 ≤ a) (h1 : a ≤ 9223372036854775807) :
    Pure Tryz.prog 87 #[.string s, .int .i64 a, .int .i64 e] (fv e (lineOf s (clampN a s.size) : Nat) (colOf s (clampN a s.size) : Nat)) := by
  intro w
  have hW := Lib.hid (text_where s a hs h0 h1)
  generalize lineOf s (clampN a s.size) = l at hW
  generalize colOf s (clampN a s.size) = c at hW
  go_enter Tryz.func87, Tryz.ntmps87
  go_wp2_with fail
  obtain ⟨W, hW', hB, hs', ca, fa⟩ := box1 w #[.int .i64 0, .int .i64 0, .int .i64 0] 32
  rw [← hW']
  have ca0 := fun y => ca 0 (some (.int .i64 0)) rfl y
  have ca1 := fun y => ca 1 (some (.int .i64 0)) rfl y
  have ca2 := fun y => ca 2 (some (.int .i64 0)) rfl y
  clear hW' ca
  rw [← plus_self W]
  refine (hW.out.at _ _).mono ?_
  rintro e' w' ⟨rfl, y, rfl⟩
  go_wp2
  refine bodyPost_ret (v := fv e l c) (by simp [results, Tryz.results87, go_sem, ca0, ca1, ca2]) rfl ⟨rfl, ?_⟩
  exact own_end3 hB (Nat.le_refl _) _ _ _
end Go.Proofs.YtkffjjlmoojffaaGreatDoor
