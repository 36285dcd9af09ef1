/-
  WHAT IS PROVED HERE: plain words: tokens that are written side by side, each with something behind it that may stand there, are lexed as the same ones; nothing of any program.
-/
import Derived.Test.YtiodfenkbhlpdaaDoorBa
namespace Go.Proofs.YtiodfenkbhlpdaaDoor
open Go.RowKit
/-- What may stand between. -/
def sepAt (k : Nat) : ByteArray := if k = 0 then ⟨#[32]⟩ else if k = 1 then ⟨#[10]⟩ else if k = 2 then ⟨#[9, 47, 47, 32, 99, 10]⟩ else ⟨#[32, 47, 47, 32, 10, 10]⟩
theorem sep_size (k : Nat) : 1 ≤ (sepAt k).size ∧ (sepAt k).size ≤ 6 := by
  unfold sepAt
  split
  · decide
  · split
    · decide
    · split <;> decide
theorem sep_first (k : Nat) : isBlank (byN (sepAt k) 0) = true := by
  unfold sepAt
  split
  · decide
  · split
    · decide
    · split <;> decide
theorem in_text {A : ByteArray} {q : Nat} {m : ByteArray} (h : fitB A q m = true) : q + m.size ≤ A.size ∧ ∀ i, i < m.size → byN A (q + i) = byN m i := (fit_iff A q m).1 h
theorem rem_at {A : ByteArray} {q : Nat} (h0 : byN A q = 47) (h1 : byN A (q + 1) = 47) : isRem A q = true := by unfold isRem; rw [decide_eq_true ⟨h0, h1⟩]
theorem skip_sep {A : ByteArray} {q : Nat} (k : Nat) (h : fitB A q (sepAt k) = true) : skipN A q = skipN A (q + (sepAt k).size) := by
  obtain ⟨hz, hb⟩ := in_text h
  have h0 : isBlank (byN A q) = true := by
    have := hb 0 (by have := (sep_size k).1; omega)
    rw [Nat.add_zero] at this
    rw [this]; exact sep_first k
  have hs1 := (sep_size k).1
  rw [skip_blank (by omega) h0]
  unfold sepAt at h hz hb ⊢
  split at hz
  · rename_i e
    rw [if_pos e]
    rfl
  · rename_i e0
    rw [if_neg e0] at hb ⊢
    split at hz
    · rename_i e1
      rw [if_pos e1]
      rfl
    · rename_i e1
      rw [if_neg e1] at hb ⊢
      split at hz
      · rename_i e2
        rw [if_pos e2] at hb ⊢
        have hz : q + 6 ≤ A.size := hz
        have b1 : byN A (q + 1) = 47 := hb 1 (by decide)
        have b2 : byN A (q + 2) = 47 := hb 2 (by decide)
        have b3 : byN A (q + 3) = 32 := hb 3 (by decide)
        have b4 : byN A (q + 4) = 99 := hb 4 (by decide)
        have b5 : byN A (q + 5) = 10 := hb 5 (by decide)
        rw [skip_rem (by omega) (by rw [b1]; rfl) (rem_at b1 b2), eol_go (k := q + 1) (by omega) (by omega), eol_go (k := q + 1 + 1) (by omega) (by show byN A (q + 2) ≠ 10; omega), eol_go (k := q + 1 + 1 + 1) (by omega) (by show byN A (q + 3) ≠ 10; omega), eol_go (k := q + 1 + 1 + 1 + 1) (by omega) (by show byN A (q + 4) ≠ 10; omega), eol_stop (k := q + 1 + 1 + 1 + 1 + 1) (fun x => x.2 b5), skip_blank (k := q + 1 + 1 + 1 + 1 + 1) (by omega) (by show isBlank (byN A (q + 5)) = true; rw [b5]; rfl)]
        rfl
      · rename_i e2
        rw [if_neg e2] at hb ⊢
        have hz : q + 6 ≤ A.size := hz
        have b1 : byN A (q + 1) = 47 := hb 1 (by decide)
        have b2 : byN A (q + 2) = 47 := hb 2 (by decide)
        have b3 : byN A (q + 3) = 32 := hb 3 (by decide)
        have b4 : byN A (q + 4) = 10 := hb 4 (by decide)
        have b5 : byN A (q + 5) = 10 := hb 5 (by decide)
        rw [skip_rem (by omega) (by rw [b1]; rfl) (rem_at b1 b2), eol_go (k := q + 1) (by omega) (by omega), eol_go (k := q + 1 + 1) (by omega) (by show byN A (q + 2) ≠ 10; omega), eol_go (k := q + 1 + 1 + 1) (by omega) (by show byN A (q + 3) ≠ 10; omega), eol_stop (k := q + 1 + 1 + 1 + 1) (fun x => x.2 b4), skip_blank (k := q + 1 + 1 + 1 + 1) (by omega) (by show isBlank (byN A (q + 4)) = true; rw [b4]; rfl), skip_blank (k := q + 1 + 1 + 1 + 1 + 1) (by omega) (by show isBlank (byN A (q + 5)) = true; rw [b5]; rfl)]
        rfl
/-- Tokens, each with that behind it. -/
def body (m : ByteArray) : List Tok → ByteArray
  | [] => ⟨#[]⟩
  | t :: r => t.s ++ m ++ body m r
theorem fit_mid (pre m post : ByteArray) : fitB (pre ++ m ++ post) pre.size m = true := by
  unfold fitB
  rw [decide_eq_true_eq]
  refine ⟨by simp only [ByteArray.size_append]; omega, ?_⟩
  rw [ByteArray.append_assoc]
  have h1 : (pre ++ (m ++ post)).extract (pre.size + 0) (pre.size + m.size) = (m ++ post).extract 0 m.size := ByteArray.extract_append_size_add
  rw [Nat.add_zero] at h1
  rw [h1]
  exact ByteArray.extract_append_eq_left rfl
theorem app_nil (x : ByteArray) : x ++ (⟨#[]⟩ : ByteArray) = x := by apply ByteArray.ext; simp
theorem nil_app (x : ByteArray) : (⟨#[]⟩ : ByteArray) ++ x = x := by apply ByteArray.ext; simp
/-- Are they the same, but for where they stand? -/
def Alike (t u : Tok) : Prop := t.kind = u.kind ∧ t.s = u.s ∧ t.w = u.w ∧ t.n = u.n
/-- Where a token stands, or nothing, the lexer skips nothing. -/
theorem skip_here {s : ByteArray} (k : Nat) (rs : List Tok) (hr : ∀ t ∈ rs, Real s t) (pre : ByteArray) : skipN (pre ++ body (sepAt k) rs) pre.size = pre.size := by
  cases rs with
  | nil =>
    show skipN (pre ++ (⟨#[]⟩ : ByteArray)) pre.size = pre.size
    rw [app_nil]
    exact skip_end (by omega)
  | cons t r =>
    have ht := hr t (List.mem_cons_self)
    have hz := ht.size
    have hf := ht.first
    have e : pre ++ body (sepAt k) (t :: r) = pre ++ t.s ++ (sepAt k ++ body (sepAt k) r) := by
      show pre ++ (t.s ++ sepAt k ++ body (sepAt k) r) = _
      simp only [ByteArray.append_assoc]
    have e2 : pre ++ body (sepAt k) (t :: r) = pre ++ t.s ++ sepAt k ++ body (sepAt k) r := by rw [e]; simp only [ByteArray.append_assoc]
    obtain ⟨z1, b1⟩ := in_text (by rw [e]; exact fit_mid pre t.s _ : fitB (pre ++ body (sepAt k) (t :: r)) pre.size t.s = true)
    obtain ⟨z2, b2⟩ := in_text (by rw [e2]; exact fit_mid (pre ++ t.s) (sepAt k) _ : fitB (pre ++ body (sepAt k) (t :: r)) (pre ++ t.s).size (sepAt k) = true)
    have hb0 := b1 0 (by omega)
    rw [Nat.add_zero] at hb0
    refine skip_stop (by omega) (by rw [hb0]; exact hf.1) ?_
    unfold isRem
    rw [decide_eq_false_iff_not]
    rintro ⟨h1, h2⟩
    rw [hb0] at h1
    have h3 := hf.2 h1
    have h4 := b2 0 (by have := (sep_size k).1; omega)
    rw [ByteArray.size_append, h3, Nat.add_zero, h2] at h4
    have h5 := sep_first k
    rw [← h4] at h5
    cases h5
theorem lex_back {s : ByteArray} (k : Nat) : ∀ (rs : List Tok) (pre : ByteArray) (f : Nat) (acc : List Tok), (∀ t ∈ rs, Real s t) → rs.length ≤ f →
    ∃ us, lexN (pre ++ body (sepAt k) rs) f pre.size acc = (acc ++ us ++ [endTok (pre ++ body (sepAt k) rs)], 0, 0) ∧ us.length = rs.length ∧ ∀ (j : Nat) t u, rs[j]? = some t → us[j]? = some u → Alike t u
  | [], pre, f, acc, _, _ => by
    refine ⟨[], ?_, rfl, fun j t u h => by simp at h⟩
    show lexN (pre ++ (⟨#[]⟩ : ByteArray)) f pre.size acc = (acc ++ [] ++ [endTok (pre ++ (⟨#[]⟩ : ByteArray))], 0, 0)
    rw [app_nil, List.append_nil]
    exact lexN_end (by omega) f acc
  | t :: r, pre, 0, acc, _, hl => by simp at hl
  | t :: r, pre, f + 1, acc, hr, hl => by
    have ht := hr t (List.mem_cons_self)
    have hz := ht.size
    have e : pre ++ body (sepAt k) (t :: r) = pre ++ t.s ++ (sepAt k ++ body (sepAt k) r) := by
      show pre ++ (t.s ++ sepAt k ++ body (sepAt k) r) = _
      simp only [ByteArray.append_assoc]
    have e2 : pre ++ body (sepAt k) (t :: r) = pre ++ t.s ++ sepAt k ++ body (sepAt k) r := by rw [e]; simp only [ByteArray.append_assoc]
    have hf1 : fitB (pre ++ body (sepAt k) (t :: r)) pre.size t.s = true := by rw [e]; exact fit_mid pre t.s _
    have hf2 : fitB (pre ++ body (sepAt k) (t :: r)) (pre ++ t.s).size (sepAt k) = true := by rw [e2]; exact fit_mid (pre ++ t.s) (sepAt k) _
    obtain ⟨z2, b2⟩ := in_text hf2
    have hs1 := (sep_size k).1
    rw [ByteArray.size_append] at z2 b2 hf2
    have hb := b2 0 (by omega)
    rw [Nat.add_zero] at hb
    have hone := one_back (A := pre ++ body (sepAt k) (t :: r)) (p := pre.size) ht (by omega) (by unfold fitB at hf1; rw [decide_eq_true_eq] at hf1; exact hf1.2) (by rw [hb]; exact sep_first k)
    have hlt : pre.size < (pre ++ body (sepAt k) (t :: r)).size := by omega
    have hgo := lexN_go (f := f) (acc := acc) hlt (by rw [hone])
    rw [hone] at hgo
    simp only at hgo
    have hsk : skipN (pre ++ body (sepAt k) (t :: r)) (pre.size + t.s.size) = (pre ++ t.s ++ sepAt k).size := by
      rw [skip_sep k hf2, e2]
      have := skip_here k r (fun x hx => hr x (List.mem_cons_of_mem _ hx)) (pre ++ t.s ++ sepAt k)
      have hz3 : (pre ++ t.s ++ sepAt k).size = pre.size + t.s.size + (sepAt k).size := by simp only [ByteArray.size_append]
      rw [← hz3]
      exact this
    rw [hsk] at hgo
    obtain ⟨us, h1, h2, h3⟩ := lex_back k r (pre ++ t.s ++ sepAt k) f (acc ++ [⟨t.kind, t.s, t.w, t.n, pre.size⟩]) (fun x hx => hr x (List.mem_cons_of_mem _ hx)) (by simp only [List.length_cons] at hl; omega)
    refine ⟨⟨t.kind, t.s, t.w, t.n, pre.size⟩ :: us, ?_, by simp only [List.length_cons, h2], fun j x y hx hy => ?_⟩
    · rw [hgo, e2, h1]
      simp
    · cases j with
      | zero =>
        simp only [List.getElem?_cons_zero, Option.some.injEq] at hx hy
        subst hx hy
        exact ⟨rfl, rfl, rfl, rfl⟩
      | succ j => exact h3 j x y (by simpa using hx) (by simpa using hy)
theorem body_size (m : ByteArray) : ∀ rs : List Tok, (body m rs).size = (rs.map (·.s.size)).sum + rs.length * m.size
  | [] => by simp [body]; rfl
  | t :: r => by
    show (t.s ++ m ++ body m r).size = _
    rw [ByteArray.size_append, ByteArray.size_append, body_size m r]
    simp only [List.map_cons, List.sum_cons, List.length_cons]
    rw [Nat.add_mul]
    omega
theorem body_len (m : ByteArray) {s : ByteArray} : ∀ rs : List Tok, (∀ t ∈ rs, Real s t) → rs.length ≤ (body m rs).size
  | [], _ => by simp
  | t :: r, h => by
    have h1 := (h t (List.mem_cons_self)).size
    have h2 := body_len m r (fun x hx => h x (List.mem_cons_of_mem _ hx))
    show r.length + 1 ≤ (t.s ++ m ++ body m r).size
    rw [ByteArray.size_append, ByteArray.size_append]
    omega
/-- The document's lexer, over tokens that are written anew. -/
theorem lexR_back {s : ByteArray} {l : List Tok} {x : Nat} (k : Nat) (h1500 : s.size ≤ 1500) (h : lexR s = (l, x, 0)) :
    ∃ rs us, l = rs ++ [endTok s] ∧ (∀ t ∈ rs, Real s t) ∧ rs.length ≤ 1500 ∧ (body (sepAt k) rs).size ≤ 20000 ∧ lexR (body (sepAt k) rs) = (us ++ [endTok (body (sepAt k) rs)], 0, 0) ∧ us.length = rs.length ∧ ∀ (j : Nat) t u, rs[j]? = some t → us[j]? = some u → Alike t u := by
  unfold lexR at h
  rw [if_neg (by omega)] at h
  have hb := skip_bounds s _ 0 (Nat.le_refl _) (Nat.zero_le _)
  obtain ⟨rs, e, hr, hl, hsum⟩ := lexN_real s _ _ [] l x hb.2 h
  have hz := body_size (sepAt k) rs
  have h6 := (sep_size k).2
  have hmul : rs.length * (sepAt k).size ≤ 1500 * 6 := Nat.mul_le_mul (by omega) h6
  have hsz : (body (sepAt k) rs).size ≤ 20000 := by omega
  have hlen := body_len (sepAt k) rs hr
  obtain ⟨us, h1, h2, h3⟩ := lex_back k rs ⟨#[]⟩ (body (sepAt k) rs).size [] hr hlen
  have hs0 := skip_here k rs hr ⟨#[]⟩
  rw [nil_app] at h1 hs0
  refine ⟨rs, us, by rw [e]; simp, hr, by omega, hsz, ?_, h2, h3⟩
  unfold lexR
  rw [if_neg (by omega), show skipN (body (sepAt k) rs) 0 = 0 from hs0]
  rw [List.nil_append] at h1
  exact h1
/-- Their texts, joined. -/
theorem body_join (m : ByteArray) : ∀ rs : List Tok, (⟨(Lib.join ((rs.map (·.s) ++ [(⟨#[]⟩ : ByteArray)]).map (·.data.toList)) m.data.toList).toArray⟩ : ByteArray) = body m rs := by
  have key : ∀ rs : List Tok, Lib.join ((rs.map (·.s) ++ [(⟨#[]⟩ : ByteArray)]).map (·.data.toList)) m.data.toList = (body m rs).data.toList := by
    intro rs
    induction rs with
    | nil => rfl
    | cons t r ih =>
      have hne : ∃ y z, ((r.map (·.s) ++ [(⟨#[]⟩ : ByteArray)]).map (·.data.toList)) = y :: z := by
        cases r with
        | nil => exact ⟨_, _, rfl⟩
        | cons a b => exact ⟨_, _, rfl⟩
      obtain ⟨y, z, hyz⟩ := hne
      rw [hyz] at ih
      rw [List.map_cons, List.cons_append, List.map_cons, hyz, Lib.join_cons]
      rw [Lib.join_cons] at ih
      show t.s.data.toList ++ Lib.joinTail m.data.toList (y :: z) = (t.s ++ m ++ body m r).data.toList
      rw [ByteArray.data_append, ByteArray.data_append, Array.toList_append, Array.toList_append, ← ih]
      simp [Lib.joinTail]
  intro rs
  apply ByteArray.ext
  rw [key rs]
end Go.Proofs.YtiodfenkbhlpdaaDoor
