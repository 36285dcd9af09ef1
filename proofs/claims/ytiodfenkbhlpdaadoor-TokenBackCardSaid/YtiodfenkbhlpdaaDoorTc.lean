/-
  WHAT IS PROVED HERE: what text.Where hands back, and the document's Where, of any byte of any text of at most 2^47 bytes.
-/
import Derived.Test.YtiodfenkbhlpdaaDoorRows
import Derived.Test.YtiodfenkbhlpdaaDoorTb
import Derived.WalkKit
import Derived.WalkSpells
import Derived.WalkLawsBesides
import Derived.Shelf.Abstract
namespace Go.Proofs.YtiodfenkbhlpdaaDoor
open Go.RowKit
/-- The world while Where goes through the line ends of n bytes. -/
def whereW (base : World) (s : ByteArray) (n k : Nat) : World := base.alloc (.cells #[.int .i64 (lineOf s k : Nat), .int .i64 (n + 1 - beg (nl s) k : Nat)] 26)
theorem where_ends (base : World) (ba : Nat) (s t : ByteArray) (n : Nat) (hs : s.size ≤ 140737488355328) (hn : n ≤ s.size) (ht : t = s.extract 0 n) (hl : ba < base.heap.size) (hc : base.cell? ⟨ba, 0, none⟩ = some (.int .i64 (n : Int))) (w0 : World) (hw : w0 = whereW base s n 0) :
    Calls Tryd.prog 42 #[.string t, .func (.func 43) #[] #[.pointer (some ⟨base.heap.size, 0, none⟩), .pointer (some ⟨ba, 0, none⟩)]] w0 fun e w' => e = .returned (.tuple #[]) ∧ w' = whereW base s n n := by
  subst ht hw
  have hz := size_extract s n hn
  have hnl : ∀ k, nl (s.extract 0 n) k = true → k < n ∧ nl s k = true := fun k h => by
    by_cases hk : k < n
    · exact ⟨hk, by rwa [nl_extract s n k hn hk] at h⟩
    · rw [nl_past (by omega)] at h; cases h
  have hstep : ∀ k, k < n → nl s k = false → whereW base s n (k + 1) = whereW base s n k := fun k hk h => by
    unfold whereW lineOf; rw [cnt_no h, beg_no h]
  have := each_any (s.extract 0 n) (by omega) 43 #[.pointer (some ⟨base.heap.size, 0, none⟩), .pointer (some ⟨ba, 0, none⟩)] (fun k => whereW base s n (min k n)) (enters_of Tryd.func43 (by kernel_rfl) rfl) ?_ ?_
  · simp only [hz, Nat.zero_min, Nat.min_self] at this
    exact this
  · intro k hk h
    obtain ⟨hkn, h⟩ := hnl k h
    have h1 := lineOf_le s k
    have h2 := beg_le (nl s) k
    rw [show min (k + 1) n = k + 1 by omega, show min k n = k by omega]
    show Calls Tryd.prog 43 #[.int .i64 (k : Int), .pointer (some ⟨base.heap.size, 0, none⟩), .pointer (some ⟨ba, 0, none⟩)] (base.alloc (.cells #[.int .i64 (lineOf s k : Nat), .int .i64 (n + 1 - beg (nl s) k : Nat)] 26)) _
    refine (where_lit base ba (lineOf s k : Nat) (n + 1 - beg (nl s) k : Nat) n k hl hc (by omega) (by omega) (by omega) (by omega) (by omega) (by omega)).mono ?_
    rintro e w' ⟨rfl, rfl⟩
    refine ⟨rfl, ?_⟩
    have a1 : ((lineOf s k : Nat) : Int) + 1 = (lineOf s (k + 1) : Nat) := by unfold lineOf; rw [cnt_yes h]; omega
    have a2 : (n : Int) - (k : Int) = (n + 1 - beg (nl s) (k + 1) : Nat) := by rw [beg_yes h]; omega
    rw [a1, a2]; rfl
  · intro k h
    by_cases hk : k < n
    · rw [show min (k + 1) n = k + 1 by omega, show min k n = k by omega]
      exact hstep k hk (by rwa [nl_extract s n k hn hk] at h)
    · rw [show min (k + 1) n = n by omega, show min k n = n by omega]
set_option maxHeartbeats 1000000 in
theorem text_where (s : ByteArray) (a : Int) (hs : s.size ≤ 140737488355328) (h0 : -9223372036854775808 ≤ a) (h1 : a ≤ 9223372036854775807) :
    Pure Tryd.prog 31 #[.string s, .int .i64 a] (pv (lineOf s (clampN a s.size) : Nat) (colOf s (clampN a s.size) : Nat)) := by
  intro w
  have hmf : ∀ (fn : Fn) (first cap : Array Value) (w : World), (Instr.makeFunc fn first cap).run Tryd.prog w = .ok (.func fn first cap) w := fun _ _ _ _ => rfl
  obtain ⟨n, hn⟩ : ∃ n, n = clampN a s.size := ⟨_, rfl⟩
  have hle : n ≤ s.size := by rw [hn]; exact clampN_le _ _
  obtain ⟨M, hM⟩ : ∃ M : Int, M = max a 0 := ⟨_, rfl⟩
  have hmax : (if a < 0 then 0 else a) = M := by rw [hM]; simp only [Int.max_def]; repeat' split
                                                 all_goals omega
  have hmin : (if ((s.size : Nat) : Int) < M then ((s.size : Nat) : Int) else M) = (n : Int) := by
    rw [hn, clampN_eq, ← hM]; simp only [Int.min_def]; repeat' split
    all_goals omega
  rw [← hn]
  obtain ⟨base, hb⟩ : ∃ base, base = (w.alloc (.cells #[.int .i64 (n : Int)] 3)).alloc (.cells #[.int .i64 0, .int .i64 0] 26) := ⟨_, rfl⟩
  have hz : base.heap.size = w.heap.size + 1 + 1 := by rw [hb]; simp
  have hcell : base.cell? ⟨w.heap.size, 0, none⟩ = some (.int .i64 (n : Int)) := by
    rw [hb]; exact (cell_old _ _ _ 0 (by simp)).trans (cell_new w _ _ _ 0 rfl)
  have hC := where_ends base w.heap.size s (s.extract 0 n) n hs hle rfl (by omega) hcell (base.alloc (.cells #[.int .i64 1, .int .i64 ((n : Int) + 1)] 26)) (by simp [whereW, lineOf, cnt, beg])
  rw [hz, hb] at hC
  unfold whereW at hC
  have hl : (lineOf s n : Int) ≤ 140737488355329 := by have := lineOf_le s n; omega
  have hC := Lib.hid hC
  clear hn hM hb hz hcell base
  go_enter Tryd.func31, Tryd.ntmps31
  go_wp2_with (go_at_call 42; refine hC.out.mono ?_; rintro e w' ⟨rfl, rfl⟩)
  refine bodyPost_ret (v := pv (lineOf s n : Nat) (colOf s n : Nat)) (by simp [results, Tryd.results31, go_sem, pv, colOf]) rfl ⟨rfl, ?_⟩
  exact plus_of_below ((((Below.refl _ _).alloc (Nat.le_refl _) _).alloc (by simp) _).alloc (by simp; omega) _)
end Go.Proofs.YtiodfenkbhlpdaaDoor
