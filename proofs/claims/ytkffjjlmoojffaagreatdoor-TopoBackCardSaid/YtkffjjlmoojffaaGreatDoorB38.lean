/-
  WHAT IS PROVED HERE: a part of the proof of the claim's theorem: NetTx.
-/
import Derived.Test.YtkffjjlmoojffaaGreatDoorB37
set_option linter.all false
namespace Go.Proofs.YtkffjjlmoojffaaGreatDoor
inductive Pc where
  | blk (c : UInt8)
  | word (w : ByteArray)
  | num (w : ByteArray)
  | mk (c : UInt8)
def Pc.b : Pc → ByteArray
  | .blk c => ⟨#[c]⟩
  | .word w => w
  | .num w => w
  | .mk c => ⟨#[c]⟩
def Pc.isW : Pc → Bool
  | .word _ => true
  | .num _ => true
  | _ => false
def Pc.ok : Pc → Prop
  | .blk c => isBlank c.toNat = true
  | .word w => 1 ≤ w.size ∧ w.size ≤ 16 ∧ isDig (byN w 0) = false ∧ ∀ j, j < w.size → isWrd (byN w j) = true
  | .num w => 1 ≤ w.size ∧ isDig (byN w 0) = true ∧ (∀ j, j < w.size → isWrd (byN w j) = true) ∧ plainNum w = true
  | .mk c => c = 59 ∨ c = 58 ∨ c = 123 ∨ c = 125
def Pc.tok (p : Nat) : Pc → List Tok
  | .blk _ => []
  | .word w => [⟨1, w, 0, 0, p⟩]
  | .num w => [⟨2, w, 0, valOf 10 w.data.toList, p⟩]
  | .mk c => [⟨3, ⟨#[c]⟩, 0, 0, p⟩]
def txt : List Pc → ByteArray
  | [] => ⟨#[]⟩
  | p :: r => p.b ++ txt r
def toksP : Nat → List Pc → List Tok
  | _, [] => []
  | k, p :: r => p.tok k ++ toksP (k + p.b.size) r
def noW : List Pc → Prop
  | [] => True
  | q :: _ => q.isW = false
def good : List Pc → Prop
  | [] => True
  | p :: r => p.ok ∧ (p.isW = true → noW r) ∧ good r
theorem Pc.ok.size {p : Pc} (h : p.ok) : 1 ≤ p.b.size := by
  cases p with
  | blk c => exact Nat.le_refl 1
  | word w => exact h.1
  | num w => exact h.1
  | mk c => exact Nat.le_refl 1
theorem txt_len : ∀ ps : List Pc, good ps → ps.length ≤ (txt ps).size
  | [], _ => Nat.zero_le _
  | p :: r, h => by
    have h1 := h.1.size
    have h2 := txt_len r h.2.2
    show r.length + 1 ≤ (p.b ++ txt r).size
    rw [ByteArray.size_append]
    omega
theorem one_byte (c : UInt8) : byN (⟨#[c]⟩ : ByteArray) 0 = c.toNat := by unfold byN; rfl
theorem at_mid (pre m post : ByteArray) (i : Nat) (hi : i < m.size) : byN (pre ++ (m ++ post)) (pre.size + i) = byN m i := by
  have := (in_text (fit_mid pre m post)).2 i hi
  rwa [ByteArray.append_assoc] at this
theorem ext_mid (pre m post : ByteArray) : (pre ++ (m ++ post)).extract pre.size (pre.size + m.size) = m := by
  have := fit_mid pre m post
  unfold fitB at this
  rw [decide_eq_true_eq] at this
  rw [← ByteArray.append_assoc]
  exact this.2
theorem mk_first {c : UInt8} (h : c = 59 ∨ c = 58 ∨ c = 123 ∨ c = 125) : isBlank c.toNat = false ∧ ¬ c.toNat = 47 ∧ isWrd c.toNat = false ∧ shortB c.toNat = true ∧ ∀ j, j < 11 → ¬ byN (longAt j) 0 = c.toNat := by
  rcases h with rfl | rfl | rfl | rfl <;> decide +kernel
theorem next_not {r : List Pc} (hr : good r) (hn : noW r) (pre w : ByteArray) : isWrd (byN (pre ++ (w ++ txt r)) (pre.size + w.size)) = false := by
  cases r with
  | nil =>
    have : byN (pre ++ (w ++ txt [])) (pre.size + w.size) = 256 := byN_past (by
      show (pre ++ (w ++ (⟨#[]⟩ : ByteArray))).size ≤ _
      rw [ByteArray.size_append, ByteArray.size_append]
      exact Nat.le_refl _)
    rw [this]; rfl
  | cons q r' =>
    have e : pre ++ (w ++ txt (q :: r')) = (pre ++ w) ++ (q.b ++ txt r') := by show pre ++ (w ++ (q.b ++ txt r')) = _; simp only [ByteArray.append_assoc]
    have h0 := hr.1.size
    have hb := at_mid (pre ++ w) q.b (txt r') 0 (by omega)
    rw [e, show pre.size + w.size = (pre ++ w).size + 0 by rw [ByteArray.size_append]; rfl, hb]
    cases q with
    | blk c => show isWrd (byN (⟨#[c]⟩ : ByteArray) 0) = false; rw [one_byte]; exact blank_not_word hr.1
    | word w => cases hn
    | num w => cases hn
    | mk c => show isWrd (byN (⟨#[c]⟩ : ByteArray) 0) = false; rw [one_byte]; exact (mk_first hr.1).2.2.1
theorem wrd_not {c : Nat} (h : isWrd c = true) : isBlank c = false ∧ ¬ c = 47 := by
  constructor
  · cases hb : isBlank c with
    | false => rfl
    | true => rw [blank_not_word hb] at h; cases h
  · rintro rfl; revert h; decide
theorem not_rem {s : ByteArray} {k : Nat} (h : ¬ byN s k = 47) : isRem s k = false := by unfold isRem; rw [decide_eq_false]; exact fun e => h e.1
theorem lex_pcs : ∀ (ps : List Pc) (pre : ByteArray) (f : Nat) (acc : List Tok), good ps → ps.length ≤ f →
    lexN (pre ++ txt ps) f (skipN (pre ++ txt ps) pre.size) acc = (acc ++ toksP pre.size ps ++ [endTok (pre ++ txt ps)], 0, 0)
  | [], pre, f, acc, _, _ => by
    have e : pre ++ txt [] = pre := app_nil pre
    rw [e, skip_end (Nat.lt_irrefl _), lexN_end (Nat.lt_irrefl _) f acc]
    show _ = (acc ++ [] ++ [endTok pre], 0, 0)
    rw [List.append_nil]
  | p :: r, pre, 0, acc, _, hl => by simp at hl
  | p :: r, pre, f + 1, acc, h, hl => by
    obtain ⟨hok, hnw, hr⟩ := h
    have hl : r.length ≤ f := by simpa using hl
    have e : pre ++ txt (p :: r) = (pre ++ p.b) ++ txt r := by show pre ++ (p.b ++ txt r) = _; rw [ByteArray.append_assoc]
    have hz := hok.size
    have hlt : pre.size < (pre ++ txt (p :: r)).size := by
      show pre.size < (pre ++ (p.b ++ txt r)).size
      rw [ByteArray.size_append, ByteArray.size_append]; omega
    have hfirst := at_mid pre p.b (txt r) 0 (by omega)
    rw [Nat.add_zero] at hfirst
    have key : ∀ t : Tok, isBlank (byN p.b 0) = false → ¬ byN p.b 0 = 47 → oneR (pre ++ (p.b ++ txt r)) pre.size = (t, 0) → t.s = p.b → p.tok pre.size = [t] →
        lexN (pre ++ txt (p :: r)) (f + 1) (skipN (pre ++ txt (p :: r)) pre.size) acc = (acc ++ toksP pre.size (p :: r) ++ [endTok (pre ++ txt (p :: r))], 0, 0) := by
      intro t hb h47 hone hts htk
      have hb' : isBlank (byN (pre ++ txt (p :: r)) pre.size) = false := by show isBlank (byN (pre ++ (p.b ++ txt r)) pre.size) = false; rw [hfirst]; exact hb
      have hr' : isRem (pre ++ txt (p :: r)) pre.size = false := not_rem (by show ¬ byN (pre ++ (p.b ++ txt r)) pre.size = 47; rw [hfirst]; exact h47)
      rw [skip_stop hlt hb' hr']
      have hone : oneR (pre ++ txt (p :: r)) pre.size = (t, 0) := hone
      have hgo := lexN_go (f := f) (acc := acc) hlt (by rw [hone])
      rw [hgo, hone]
      simp only
      rw [hts]
      have ih := lex_pcs r (pre ++ p.b) f (acc ++ [t]) hr hl
      rw [← e, ByteArray.size_append] at ih
      rw [ih]
      show (acc ++ [t] ++ toksP (pre.size + p.b.size) r ++ _, 0, 0) = (acc ++ (p.tok pre.size ++ toksP (pre.size + p.b.size) r) ++ _, 0, 0)
      rw [htk]
      simp only [List.append_assoc, List.singleton_append]
    cases p with
    | blk c =>
      have hb : isBlank (byN (pre ++ txt (.blk c :: r)) pre.size) = true := by
        show isBlank (byN (pre ++ ((⟨#[c]⟩ : ByteArray) ++ txt r)) pre.size) = true
        have hf : byN (pre ++ ((⟨#[c]⟩ : ByteArray) ++ txt r)) pre.size = byN (⟨#[c]⟩ : ByteArray) 0 := hfirst
        rw [hf, one_byte]; exact hok
      rw [skip_blank hlt hb]
      have ih := lex_pcs r (pre ++ (Pc.blk c).b) (f + 1) acc hr (by omega)
      rw [← e] at ih
      have hs : (pre ++ (Pc.blk c).b).size = pre.size + 1 := by rw [ByteArray.size_append]; rfl
      rw [hs] at ih
      rw [ih]
      rfl
    | word w =>
      obtain ⟨h1, h16, hd, hw⟩ := hok
      have h0 := hw 0 (by omega)
      obtain ⟨hb, h47⟩ := wrd_not h0
      have hE : wEnd (pre ++ (w ++ txt r)) pre.size = pre.size + w.size := word_end _ _ _ (fun j hj => by rw [at_mid pre w (txt r) j hj]; exact hw j hj) (next_not hr (hnw rfl) pre w)
      have hfirst : byN (pre ++ (w ++ txt r)) pre.size = byN w 0 := hfirst
      refine key ⟨1, w, 0, 0, pre.size⟩ hb h47 ?_ rfl rfl
      have := one_word (pre ++ (w ++ txt r)) pre.size _ (by rw [hfirst]; exact h0) (by rw [hfirst]; exact hd) hE (by omega)
      rw [ext_mid] at this
      exact this
    | num w =>
      obtain ⟨h1, hd, hw, hn⟩ := hok
      have h0 := hw 0 (by omega)
      obtain ⟨hb, h47⟩ := wrd_not h0
      have hE : wEnd (pre ++ (w ++ txt r)) pre.size = pre.size + w.size := word_end _ _ _ (fun j hj => by rw [at_mid pre w (txt r) j hj]; exact hw j hj) (next_not hr (hnw rfl) pre w)
      have hfirst : byN (pre ++ (w ++ txt r)) pre.size = byN w 0 := hfirst
      have hnum : numR w = (0, valOf 10 w.data.toList, 0) := by rw [numP_eq]; unfold numP; rw [if_pos hn]
      refine key ⟨2, w, 0, valOf 10 w.data.toList, pre.size⟩ hb h47 ?_ rfl rfl
      have := one_num (pre ++ (w ++ txt r)) pre.size _ (by rw [hfirst]; exact h0) (by rw [hfirst]; exact hd) hE
      rw [ext_mid, hnum] at this
      exact this
    | mk c =>
      obtain ⟨hb, h47, hw, hs, hl2⟩ := mk_first hok
      have hfirst : byN (pre ++ ((⟨#[c]⟩ : ByteArray) ++ txt r)) pre.size = c.toNat := by
        have h : byN (pre ++ ((⟨#[c]⟩ : ByteArray) ++ txt r)) pre.size = byN (⟨#[c]⟩ : ByteArray) 0 := hfirst
        rw [h, one_byte]
      have hm : markN (pre ++ ((⟨#[c]⟩ : ByteArray) ++ txt r)) pre.size = 1 := by
        rw [mark_short, hfirst, hs]; · rfl
        intro j hj
        cases hfit : fitB (pre ++ ((⟨#[c]⟩ : ByteArray) ++ txt r)) pre.size (longAt j) with
        | false => rfl
        | true =>
          have h1 := (in_text hfit).2 0 (by have := (long_size j hj).1; omega)
          rw [Nat.add_zero, hfirst] at h1
          exact absurd h1.symm (hl2 j hj)
      refine key ⟨3, ⟨#[c]⟩, 0, 0, pre.size⟩ (by show isBlank (byN (⟨#[c]⟩ : ByteArray) 0) = false; rw [one_byte]; exact hb) (by show ¬ byN (⟨#[c]⟩ : ByteArray) 0 = 47; rw [one_byte]; exact h47) ?_ rfl rfl
      have := one_mark (pre ++ ((⟨#[c]⟩ : ByteArray) ++ txt r)) pre.size 1 (by rw [hfirst]; exact hw) hm (by decide)
      have hx : (pre ++ ((⟨#[c]⟩ : ByteArray) ++ txt r)).extract pre.size (pre.size + 1) = ⟨#[c]⟩ := ext_mid pre ⟨#[c]⟩ (txt r)
      rw [hx] at this
      exact this
theorem lexR_pcs (ps : List Pc) (h : good ps) (hz : (txt ps).size ≤ 65536) : lexR (txt ps) = (toksP 0 ps ++ [endTok (txt ps)], 0, 0) := by
  unfold lexR
  rw [if_neg (by omega)]
  have := lex_pcs ps ⟨#[]⟩ (txt ps).size [] h (txt_len ps h)
  rw [nil_app, List.nil_append] at this
  exact this
end Go.Proofs.YtkffjjlmoojffaaGreatDoor
