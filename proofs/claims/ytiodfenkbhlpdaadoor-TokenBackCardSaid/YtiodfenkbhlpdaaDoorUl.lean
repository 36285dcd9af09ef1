/-
  WHAT IS PROVED HERE: the document's tokens of the page's two examples of layer 3; plain, of no program.
-/
import Derived.Test.YtiodfenkbhlpdaaDoorUj
namespace Go.Proofs.YtiodfenkbhlpdaaDoor
open Go.RowKit
/-- x1=0x1F; and 8w255 8w256. -/
def exA : ByteArray := ⟨#[120, 49, 61, 48, 120, 49, 70, 59]⟩
def exB : ByteArray := ⟨#[56, 119, 50, 53, 53, 32, 56, 119, 50, 53, 54]⟩
theorem parse_31 : parseS ⟨#[48, 120, 49, 70]⟩ = (31, 0) := by
  have hp : Lib.hasPrefix (⟨#[48, 120, 49, 70]⟩ : ByteArray).data.toList [48, 120] = true := by decide +kernel
  have ht : Lib.trimPrefix (⟨#[48, 120, 49, 70]⟩ : ByteArray).data.toList [48, 120] = [49, 70] := by decide +kernel
  have hv : valOf 16 [49, 70] = 31 := by decide +kernel
  unfold parseS
  rw [if_pos hp, ht, parseR_ok 16 [49, 70] (by decide) (by unfold digs; decide +kernel) (by rw [hv]; decide), hv]
theorem parse_255 : parseS ⟨#[50, 53, 53]⟩ = (255, 0) := by
  have hp : ¬ Lib.hasPrefix (⟨#[50, 53, 53]⟩ : ByteArray).data.toList [48, 120] = true := by decide +kernel
  have hv : valOf 10 [50, 53, 53] = 255 := by decide +kernel
  unfold parseS
  rw [if_neg hp, show (⟨#[50, 53, 53]⟩ : ByteArray).data.toList = [50, 53, 53] from rfl, parseR_ok 10 [50, 53, 53] (by decide) (by unfold digs; decide +kernel) (by rw [hv]; decide), hv]
theorem parse_256 : parseS ⟨#[50, 53, 54]⟩ = (256, 0) := by
  have hp : ¬ Lib.hasPrefix (⟨#[50, 53, 54]⟩ : ByteArray).data.toList [48, 120] = true := by decide +kernel
  have hv : valOf 10 [50, 53, 54] = 256 := by decide +kernel
  unfold parseS
  rw [if_neg hp, show (⟨#[50, 53, 54]⟩ : ByteArray).data.toList = [50, 53, 54] from rfl, parseR_ok 10 [50, 53, 54] (by decide) (by unfold digs; decide +kernel) (by rw [hv]; decide), hv]
theorem num_31 : numR ⟨#[48, 120, 49, 70]⟩ = (0, 31, 0) := by
  have h : wAt ⟨#[48, 120, 49, 70]⟩ = none := by decide +kernel
  unfold numR
  rw [h, parse_31]
  rfl
theorem num_255 : numR ⟨#[56, 119, 50, 53, 53]⟩ = (8, 255, 0) := by
  have h : wAt ⟨#[56, 119, 50, 53, 53]⟩ = some 1 := by decide +kernel
  have hh : headOk ⟨#[56, 119, 50, 53, 53]⟩ 1 = true := by decide +kernel
  have hd : decV ⟨#[56, 119, 50, 53, 53]⟩ 1 = 8 := by decide +kernel
  have he : (⟨#[56, 119, 50, 53, 53]⟩ : ByteArray).extract (1 + 1) (ByteArray.size ⟨#[56, 119, 50, 53, 53]⟩) = ⟨#[50, 53, 53]⟩ := by decide +kernel
  unfold numR
  rw [h]
  simp only
  rw [hh, hd, he, parse_255]
  simp only
  rw [if_pos trivial, if_neg (by decide), if_pos trivial, if_pos (by decide +kernel)]
  rfl
theorem num_256 : numR ⟨#[56, 119, 50, 53, 54]⟩ = (0, 0, 5) := by
  have h : wAt ⟨#[56, 119, 50, 53, 54]⟩ = some 1 := by decide +kernel
  have hh : headOk ⟨#[56, 119, 50, 53, 54]⟩ 1 = true := by decide +kernel
  have hd : decV ⟨#[56, 119, 50, 53, 54]⟩ 1 = 8 := by decide +kernel
  have he : (⟨#[56, 119, 50, 53, 54]⟩ : ByteArray).extract (1 + 1) (ByteArray.size ⟨#[56, 119, 50, 53, 54]⟩) = ⟨#[50, 53, 54]⟩ := by decide +kernel
  unfold numR
  rw [h]
  simp only
  rw [hh, hd, he, parse_256]
  simp only
  rw [if_pos trivial, if_neg (by decide), if_pos trivial, if_neg (by decide +kernel)]
theorem wEnd_run (s : ByteArray) : ∀ (d a : Nat), (∀ k, a ≤ k → k < a + d → k < s.size ∧ (isLet (byN s k) || isDig (byN s k)) = true) → (a + d < s.size → (isLet (byN s (a + d)) || isDig (byN s (a + d))) = false) → wEnd s a = a + d
  | 0, a, _, h2 => by
    by_cases h : a < s.size
    · exact wEnd_stop h (h2 h)
    · exact wEnd_past h
  | d + 1, a, h1, h2 => by
    obtain ⟨h3, h4⟩ := h1 a (Nat.le_refl _) (by omega)
    rw [wEnd_go h3 h4, wEnd_run s d (a + 1) (fun k hk1 hk2 => h1 k (by omega) (by omega)) (by rw [show a + 1 + d = a + (d + 1) by omega]; exact h2)]
    omega
def wordRunB (s : ByteArray) (a d : Nat) : Bool := (List.range d).all (fun i => decide (a + i < s.size) && (isLet (byN s (a + i)) || isDig (byN s (a + i)))) && (decide (s.size ≤ a + d) || !(isLet (byN s (a + d)) || isDig (byN s (a + d))))
theorem wEnd_of (s : ByteArray) (a d : Nat) (h : wordRunB s a d = true) : wEnd s a = a + d := by
  unfold wordRunB at h
  simp only [Bool.and_eq_true, List.all_eq_true, List.mem_range, decide_eq_true_eq, Bool.or_eq_true, Bool.not_eq_true'] at h
  refine wEnd_run s d a (fun k h1 h2 => ?_) (fun h1 => ?_)
  · have := h.1 (k - a) (by omega)
    rw [show a + (k - a) = k by omega] at this
    simpa using this
  · rcases h.2 with h2 | h2
    · omega
    · exact h2
theorem one_word (s : ByteArray) (a e : Nat) (h1 : (isLet (byN s a) || isDig (byN s a)) = true) (h2 : isDig (byN s a) = false) (he : wEnd s a = e) (h16 : ¬ 16 < e - a) : oneR s a = (⟨1, s.extract a e, 0, 0, a⟩, 0) := by
  unfold oneR; rw [if_pos h1, if_neg (by rw [h2]; simp), he, if_neg h16]
theorem one_num (s : ByteArray) (a e : Nat) (h1 : (isLet (byN s a) || isDig (byN s a)) = true) (h2 : isDig (byN s a) = true) (he : wEnd s a = e) : oneR s a = (⟨2, s.extract a e, (numR (s.extract a e)).1, (numR (s.extract a e)).2.1, a⟩, (numR (s.extract a e)).2.2) := by
  unfold oneR; rw [if_pos h1, if_pos h2, he]
theorem one_mark (s : ByteArray) (a n : Nat) (h1 : (isLet (byN s a) || isDig (byN s a)) = false) (hn : markN s a = n) (h0 : ¬ n = 0) : oneR s a = (⟨3, s.extract a (a + n), 0, 0, a⟩, 0) := by
  unfold oneR; rw [if_neg (by rw [h1]; simp), hn, if_neg h0]
theorem lex_a : lexR exA = ([⟨1, ⟨#[120, 49]⟩, 0, 0, 0⟩, ⟨3, ⟨#[61]⟩, 0, 0, 2⟩, ⟨2, ⟨#[48, 120, 49, 70]⟩, 0, 31, 3⟩, ⟨3, ⟨#[59]⟩, 0, 0, 7⟩, ⟨0, ByteArray.empty, 0, 0, 8⟩], 0, 0) := by
  have o0 : oneR exA 0 = (⟨1, ⟨#[120, 49]⟩, 0, 0, 0⟩, 0) := by
    rw [one_word exA 0 2 (by decide +kernel) (by decide +kernel) (wEnd_of exA 0 2 (by decide +kernel)) (by decide), show exA.extract 0 2 = ⟨#[120, 49]⟩ from by decide +kernel]
  have o2 : oneR exA 2 = (⟨3, ⟨#[61]⟩, 0, 0, 2⟩, 0) := by
    rw [one_mark exA 2 1 (by decide +kernel) (by decide +kernel) (by decide), show exA.extract 2 (2 + 1) = ⟨#[61]⟩ from by decide +kernel]
  have o3 : oneR exA 3 = (⟨2, ⟨#[48, 120, 49, 70]⟩, 0, 31, 3⟩, 0) := by
    rw [one_num exA 3 7 (by decide +kernel) (by decide +kernel) (wEnd_of exA 3 4 (by decide +kernel)), show exA.extract 3 7 = ⟨#[48, 120, 49, 70]⟩ from by decide +kernel, num_31]
  have o7 : oneR exA 7 = (⟨3, ⟨#[59]⟩, 0, 0, 7⟩, 0) := by
    rw [one_mark exA 7 1 (by decide +kernel) (by decide +kernel) (by decide), show exA.extract 7 (7 + 1) = ⟨#[59]⟩ from by decide +kernel]
  have s0 : skipN exA 0 = 0 := skip_stop (by decide +kernel) (by decide +kernel) (by decide +kernel)
  have s2 : skipN exA 2 = 2 := skip_stop (by decide +kernel) (by decide +kernel) (by decide +kernel)
  have s3 : skipN exA 3 = 3 := skip_stop (by decide +kernel) (by decide +kernel) (by decide +kernel)
  have s7 : skipN exA 7 = 7 := skip_stop (by decide +kernel) (by decide +kernel) (by decide +kernel)
  have s8 : skipN exA 8 = 8 := skip_end (by decide +kernel)
  have z : exA.size = 8 := by decide +kernel
  unfold lexR
  rw [if_neg (by rw [z]; decide), z, s0]
  rw [lexN_go (f := 7) (by rw [z]; decide) (by rw [o0]), o0]
  simp only
  rw [show (0 : Nat) + (⟨#[120, 49]⟩ : ByteArray).size = 2 from rfl, s2, lexN_go (f := 6) (by rw [z]; decide) (by rw [o2]), o2]
  simp only
  rw [show (2 : Nat) + (⟨#[61]⟩ : ByteArray).size = 3 from rfl, s3, lexN_go (f := 5) (by rw [z]; decide) (by rw [o3]), o3]
  simp only
  rw [show (3 : Nat) + (⟨#[48, 120, 49, 70]⟩ : ByteArray).size = 7 from rfl, s7, lexN_go (f := 4) (by rw [z]; decide) (by rw [o7]), o7]
  simp only
  rw [show (7 : Nat) + (⟨#[59]⟩ : ByteArray).size = 8 from rfl, s8, lexN_end (by rw [z]; decide)]
  simp [endTok, z]
theorem lex_b : lexR exB = ([], 6, 5) := by
  have o0 : oneR exB 0 = (⟨2, ⟨#[56, 119, 50, 53, 53]⟩, 8, 255, 0⟩, 0) := by
    rw [one_num exB 0 5 (by decide +kernel) (by decide +kernel) (wEnd_of exB 0 5 (by decide +kernel)), show exB.extract 0 5 = ⟨#[56, 119, 50, 53, 53]⟩ from by decide +kernel, num_255]
  have o6 : (oneR exB 6).2 = 5 := by
    rw [one_num exB 6 11 (by decide +kernel) (by decide +kernel) (wEnd_of exB 6 5 (by decide +kernel)), show exB.extract 6 11 = ⟨#[56, 119, 50, 53, 54]⟩ from by decide +kernel, num_256]
  have s0 : skipN exB 0 = 0 := skip_stop (by decide +kernel) (by decide +kernel) (by decide +kernel)
  have s5 : skipN exB 5 = 6 := by rw [skip_blank (by decide +kernel) (by decide +kernel)]; exact skip_stop (by decide +kernel) (by decide +kernel) (by decide +kernel)
  have z : exB.size = 11 := by decide +kernel
  unfold lexR
  rw [if_neg (by rw [z]; decide), z, s0]
  rw [lexN_go (f := 10) (by rw [z]; decide) (by rw [o0]), o0]
  simp only
  rw [show (0 : Nat) + (⟨#[56, 119, 50, 53, 53]⟩ : ByteArray).size = 5 from rfl, s5, lexN_bad (f := 9) (by rw [z]; decide) (by rw [o6]; decide), o6]
end Go.Proofs.YtiodfenkbhlpdaaDoor
