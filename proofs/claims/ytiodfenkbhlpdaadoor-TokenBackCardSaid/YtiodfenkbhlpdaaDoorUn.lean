/-
  WHAT IS PROVED HERE: the law TokenLexes is true of any text of at most 2^47 bytes, in worlds in which the program's table of marks and strconv's errors stand.
-/
import Derived.Test.YtiodfenkbhlpdaaDoorRows
import Derived.Test.YtiodfenkbhlpdaaDoorUm
import Derived.Test.YtiodfenkbhlpdaaDoorLexA
import Derived.WalkKit
import Derived.WalkSpells
import Derived.WalkLawsBesides
namespace Go.Proofs.YtiodfenkbhlpdaaDoor
open Go.RowKit
theorem flat_get : ∀ (l : List Tok) (j i : Nat) (t : Tok), l[j]? = some t → i < 6 → (l.flatMap tokL)[j * 6 + i]? = (tokL t)[i]?
  | [], j, i, t, h, _ => by simp at h
  | x :: l, 0, i, t, h, hi => by
    simp only [List.getElem?_cons_zero, Option.some.injEq] at h
    subst h
    rw [List.flatMap_cons, List.getElem?_append_left (by show _ < 6; omega)]
    rw [Nat.zero_mul, Nat.zero_add]
  | x :: l, j + 1, i, t, h, hi => by
    rw [List.flatMap_cons, List.getElem?_append_right (by show 6 ≤ _; omega)]
    have := flat_get l j i t (by simpa using h) hi
    rw [← this]
    congr 1
    show (j + 1) * 6 + i - 6 = j * 6 + i
    omega
theorem tok_at {W : World} {base g cap : Nat} {l : List Tok} (h : W.ownsRow base 35 6 (.slice (some ⟨g, 0, none⟩) l.length cap) l.length (l.flatMap tokL)) (hg : g < W.heap.size) (j : Nat) (t : Tok) (ht : l[j]? = some t) : TokAt W g j t := by
  have hj := (List.getElem?_eq_some_iff.1 ht).1
  have c := fun i (hi : i < 6) => (h.cellAt (j * 6 + i) (by omega)).trans (flat_get l j i t ht hi)
  exact ⟨hg, c 0 (by decide), c 1 (by decide), c 2 (by decide), c 3 (by decide), c 4 (by decide), c 5 (by decide)⟩
theorem own_below {W W' : World} {n base : Nat} {e : TypeId} {size : Nat} {v : Value} {k : Nat} {xs : List Value} (h : W.ownsRow base e size v k xs) (hB : Below n W W') (hn : W.heap.size ≤ n) : W'.ownsRow base e size v k xs := by
  obtain ⟨hl, h2⟩ := h
  refine ⟨hl, ?_⟩
  rcases h2 with h2 | ⟨g, cap, cur, hv, hg, hh, h3, h4, h5, h6⟩
  · exact .inl h2
  · have hlt := (Array.getElem?_eq_some_iff.1 hh).1
    obtain ⟨_, _, _, _, b5⟩ := hB
    exact .inr ⟨g, cap, cur, hv, hg, (b5 g (by omega)).trans hh, h3, h4, h5, h6⟩
theorem fault_ex (s : ByteArray) (r : List Tok × Nat × Int) : ∃ a b c, faultOf s r = fv a b c := by
  unfold faultOf
  split
  · exact ⟨_, _, _, rfl⟩
  · exact ⟨_, _, _, rfl⟩
/-- Same of two slices that own the same tokens. -/
theorem same_of (l : List Tok) (v1 v2 : Value) (base1 base2 : Nat) (w : World) (hb : l.length ≤ 140737488355328) (h1 : w.ownsRow base1 35 6 v1 l.length (l.flatMap tokL)) (h2 : w.ownsRow base2 35 6 v2 l.length (l.flatMap tokL)) :
    Calls Tryd.prog 8 #[v1, v2, .bool true] w fun e w' => e = .returned (.bool true) ∧ ∃ x, w' = plus w x := by
  by_cases hn : 0 < l.length
  · obtain ⟨g1, c1, rfl, _, hg1⟩ := own_form h1 hn
    obtain ⟨g2, c2, rfl, _, hg2⟩ := own_form h2 hn
    refine ref_same l l true g1 g2 c1 c2 w rfl hb (tok_at h1 hg1) (tok_at h2 hg2) ?_
    intro j t u ht hu
    rw [ht] at hu
    obtain rfl := Option.some.inj hu
    exact ⟨rfl, rfl, rfl, rfl, fun _ => rfl⟩
  · have h0 : l.length = 0 := by omega
    rw [h0] at h1 h2
    have f1 : ∃ a c, v1 = .slice a 0 c := by
      rcases h1.2 with ⟨rfl, _⟩ | ⟨g, cap, cur, rfl, _⟩
      · exact ⟨_, _, rfl⟩
      · exact ⟨_, _, rfl⟩
    have f2 : ∃ a c, v2 = .slice a 0 c := by
      rcases h2.2 with ⟨rfl, _⟩ | ⟨g, cap, cur, rfl, _⟩
      · exact ⟨_, _, rfl⟩
      · exact ⟨_, _, rfl⟩
    obtain ⟨a1, c1, rfl⟩ := f1
    obtain ⟨a2, c2, rfl⟩ := f2
    exact same_none a1 a2 c1 c2 true w
theorem lexN_len (s : ByteArray) : ∀ (f a : Nat) (acc : List Tok), a ≤ s.size → (lexN s f a acc).1.length ≤ acc.length + (s.size - a) + 1
  | 0, a, acc, _ => by unfold lexN; simp
  | f + 1, a, acc, ha => by
    by_cases h : a < s.size
    · by_cases h0 : (oneR s a).2 = 0
      · rw [lexN_go h h0]
        have hz := oneR_size s a h h0
        have hb := skip_bounds s _ (a + (oneR s a).1.s.size) (Nat.le_refl _) hz.2
        have := lexN_len s f (skipN s (a + (oneR s a).1.s.size)) (acc ++ [(oneR s a).1]) hb.2
        simp only [List.length_append, List.length_singleton] at this
        omega
      · rw [lexN_bad h h0]; simp
    · rw [lexN_end h]; simp
theorem lexR_len (s : ByteArray) : (lexR s).1.length ≤ s.size + 1 := by
  unfold lexR
  split
  · simp
  · have hb := skip_bounds s _ 0 (Nat.le_refl _) (Nat.zero_le _)
    have := lexN_len s s.size (skipN s 0) [] hb.2
    simp only [List.length_nil] at this
    omega
theorem eql_fv3 (a b c : Int) (w : World) : (binOp .eql 28 (fv a b c) (fv a b c)).run Tryd.prog w = .ok (.bool true) w := by
  go_simp
theorem eql_bool3 (a : Bool) (w : World) : (binOp .eql 4 (.bool a) (.bool a)).run Tryd.prog w = .ok (.bool true) w := by
  cases a <;> go_simp
end Go.Proofs.YtiodfenkbhlpdaaDoor
