/-
  WHAT IS PROVED HERE: what text.At hands back, and the document's At, of any place and any text of at most 1000 bytes.
-/
import Derived.Test.YtmkcnkbeoddgeaaDoorRows
import Derived.Test.YtmkcnkbeoddgeaaDoorTc
import Derived.WalkKit
import Derived.WalkSpells
import Derived.WalkLawsBesides
namespace Go.Proofs.YtmkcnkbeoddgeaaDoor
open Go.RowKit
/-- The world while At goes through the line ends. -/
def atW (base : World) (s : ByteArray) (L : Int) (k : Nat) : World := (base.alloc (.cells #[.int .i64 (scanL (nl s) L k : Nat)] 3)).alloc (.cells #[.int .i64 (scanB (nl s) L k : Nat)] 3)
theorem at_ends (base : World) (bp : Nat) (s : ByteArray) (L : Int) (hs : s.size ≤ 1000) (hl : bp < base.heap.size) (hc : base.cell? ⟨bp, 0, none⟩ = some (.int .i64 L)) (w0 : World) (hw : w0 = atW base s L 0) :
    Calls Tryd.prog 16 #[.string s, .func (.func 17) #[] #[.pointer (some ⟨base.heap.size, 0, none⟩), .pointer (some ⟨bp, 0, none⟩), .pointer (some ⟨base.heap.size + 1, 0, none⟩)]] w0 fun e w' => e = .returned (.tuple #[]) ∧ w' = atW base s L s.size := by
  subst hw
  refine each_any s hs 17 #[.pointer (some ⟨base.heap.size, 0, none⟩), .pointer (some ⟨bp, 0, none⟩), .pointer (some ⟨base.heap.size + 1, 0, none⟩)] (atW base s L) (enters_of Tryd.func17 (by kernel_rfl) rfl) ?_ ?_
  · intro k hk h
    have h1 := scanL_le (nl s) L k
    show Calls Tryd.prog 17 #[.int .i64 (k : Int), .pointer (some ⟨base.heap.size, 0, none⟩), .pointer (some ⟨bp, 0, none⟩), .pointer (some ⟨base.heap.size + 1, 0, none⟩)] ((base.alloc (.cells #[.int .i64 (scanL (nl s) L k : Nat)] 3)).alloc (.cells #[.int .i64 (scanB (nl s) L k : Nat)] 3)) _
    refine (at_lit base bp _ _ L k hl hc (by omega) (by omega)).mono ?_
    rintro e w' ⟨rfl, rfl⟩
    refine ⟨rfl, ?_⟩
    unfold atW
    have a1 : (if (scanL (nl s) L k : Int) < L then scanL (nl s) L k + 1 else scanL (nl s) L k) = scanL (nl s) L (k + 1) := by
      show _ = (if nl s k = true ∧ (scanL (nl s) L k : Int) < L then scanL (nl s) L k + 1 else scanL (nl s) L k)
      simp [h]
    have a2 : (if (scanL (nl s) L k : Int) < L then k + 1 else scanB (nl s) L k) = scanB (nl s) L (k + 1) := by
      show _ = (if nl s k = true ∧ (scanL (nl s) L k : Int) < L then k + 1 else scanB (nl s) L k)
      simp [h]
    rw [a1, a2]
  · intro k h
    unfold atW
    have a1 : scanL (nl s) L (k + 1) = scanL (nl s) L k := by
      show (if nl s k = true ∧ (scanL (nl s) L k : Int) < L then scanL (nl s) L k + 1 else scanL (nl s) L k) = _
      simp [h]
    have a2 : scanB (nl s) L (k + 1) = scanB (nl s) L k := by
      show (if nl s k = true ∧ (scanL (nl s) L k : Int) < L then k + 1 else scanB (nl s) L k) = _
      simp [h]
    rw [a1, a2]
theorem pv_beq (a b c d : Int) : (a == c && b == d) = decide (a = c ∧ b = d) := by by_cases h1 : a = c <;> by_cases h2 : b = d <;> simp [h1, h2]
theorem eql_pv (a b c d : Int) (w : World) : (binOp .eql 23 (pv a b) (pv c d)).run Tryd.prog w = .ok (.bool (decide (a = c ∧ b = d))) w := by
  rw [← pv_beq]
  go_simp
  split <;> (try split) <;> simp_all
theorem neq_pv (a b c d : Int) (w : World) : (binOp .neq 23 (pv a b) (pv c d)).run Tryd.prog w = .ok (.bool (!decide (a = c ∧ b = d))) w := by
  rw [← pv_beq]
  go_simp
  split <;> (try split) <;> simp_all
/-- What At hands back: the byte, and true, if there is one of that place; else 0, false. -/
def atV (s : ByteArray) (L C : Int) (v : Value) : Prop :=
  (∃ i : Nat, i ≤ s.size ∧ (lineOf s i : Int) = L ∧ (colOf s i : Int) = C ∧ v = .tuple #[.int .i64 (i : Int), .bool true]) ∨
  ((∀ i : Nat, i ≤ s.size → ¬ ((lineOf s i : Int) = L ∧ (colOf s i : Int) = C)) ∧ v = .tuple #[.int .i64 0, .bool false])
theorem atV_ex (s : ByteArray) (L C : Int) : ∃ v, atV s L C v := by
  by_cases h : ∃ i : Nat, i ≤ s.size ∧ (lineOf s i : Int) = L ∧ (colOf s i : Int) = C
  · obtain ⟨i, h1, h2, h3⟩ := h
    exact ⟨_, .inl ⟨i, h1, h2, h3, rfl⟩⟩
  · exact ⟨_, .inr ⟨fun i hi hh => h ⟨i, hi, hh⟩, rfl⟩⟩
theorem wrap64_bounds (x : Int) : -9223372036854775808 ≤ wrap64 x ∧ wrap64 x ≤ 9223372036854775807 := by unfold wrap64; omega
theorem at_byte (s : ByteArray) (i : Nat) (L C : Int) (hs : s.size ≤ 1000) (hi : i ≤ s.size) (h1 : (lineOf s i : Int) = L) (h2 : (colOf s i : Int) = C) : wrap64 (wrap64 ((scanB (nl s) L s.size : Nat) + C) - 1) = (i : Int) := by
  subst h1 h2
  have e : scanB (nl s) ((lineOf s i : Nat) : Int) s.size = beg (nl s) i := scan_at (nl s) i s.size hi
  have hb := beg_le (nl s) i
  rw [e]
  unfold colOf wrap64
  omega
set_option maxHeartbeats 1000000 in
theorem text_at (s : ByteArray) (L C : Int) (v : Value) (hs : s.size ≤ 1000) (hv : atV s L C v) :
    Pure Tryd.prog 6 #[.string s, pv L C] v := by
  intro w
  have hmf : ∀ (fn : Fn) (first cap : Array Value) (w : World), (Instr.makeFunc fn first cap).run Tryd.prog w = .ok (.func fn first cap) w := fun _ _ _ _ => rfl
  obtain ⟨base, hb⟩ : ∃ base, base = w.alloc (.cells #[.int .i64 L, .int .i64 C] 23) := ⟨_, rfl⟩
  have hz : base.heap.size = w.heap.size + 1 := by rw [hb]; simp
  have hcell : base.cell? ⟨w.heap.size, 0, none⟩ = some (.int .i64 L) := by rw [hb]; exact cell_new w _ _ _ 0 rfl
  have hC := at_ends base w.heap.size s L hs (by omega) hcell ((base.alloc (.cells #[.int .i64 1] 3)).alloc (.cells #[.int .i64 0] 3)) (by simp [atW, scanL, scanB])
  rw [hz, hb] at hC
  unfold atW at hC
  obtain ⟨av, hav⟩ : ∃ av, wrap64 (wrap64 ((scanB (nl s) L s.size : Nat) + C) - 1) = av := ⟨_, rfl⟩
  have hw0 := wrap64_bounds (wrap64 ((scanB (nl s) L s.size : Nat) + C) - 1)
  rw [hav] at hw0
  have hW := Lib.hid (text_where s av hs hw0.1 hw0.2)
  have hB := scanB_le (nl s) L s.size
  have hat : (v = .tuple #[.int .i64 av, .bool true] ∧ decide ((lineOf s (clampN av s.size) : Int) = L ∧ (colOf s (clampN av s.size) : Int) = C) = true) ∨ (v = .tuple #[.int .i64 0, .bool false] ∧ decide ((lineOf s (clampN av s.size) : Int) = L ∧ (colOf s (clampN av s.size) : Int) = C) = false) := by
    rcases hv with ⟨i, hi, h1, h2, rfl⟩ | ⟨hno, rfl⟩
    · left
      have e := at_byte s i L C hs hi h1 h2
      rw [hav] at e
      rw [e, clampN_in i s.size hi, h1, h2]
      simp
    · right
      refine ⟨rfl, ?_⟩
      have := hno (clampN av s.size) (clampN_le _ _)
      simp [this]
  clear hv hw0
  replace hC := Lib.hid hC
  generalize scanB (nl s) L s.size = B at hC hB hav
  generalize (lineOf s (clampN av s.size) : Int) = wl at hat hW
  generalize (colOf s (clampN av s.size) : Int) = wc at hat hW
  generalize scanL (nl s) L s.size = Ln at hC
  have hneq := neq_pv wl wc L C
  clear hb hz hcell base
  go_enter Tryd.func6, Tryd.ntmps6
  go_wp2_with (go_at_call 16; refine hC.out.mono ?_; rintro e w' ⟨rfl, rfl⟩)
  obtain ⟨W, hW', hB', hs', ca, cb, cc, fa, fb, fc⟩ := box3 w #[.int .i64 L, .int .i64 C] #[.int .i64 (Ln : Int)] #[.int .i64 (B : Int)] 23 3 3
  rw [← hW']
  have ca0 := ca 0 (some (.int .i64 L)) rfl
  have ca1 := ca 1 (some (.int .i64 C)) rfl
  clear ca cb cc fa fb fc hW'
  refine wp_region_own0 (by kernel_rfl) (by kernel_rfl) ?_
  rcases hat with ⟨rfl, hd⟩ | ⟨rfl, hd⟩
  · simp only [hd, Bool.not_true] at hneq
    clear hd
    repeat (go_big_quiet_step (with_reducible exact hW.out.at _ _))
    refine wpQuiet_nil ?_
    rintro _ ⟨y, rfl⟩
    go_wp2
    go_ret2
    refine ⟨?_, plus_of_below (hB'.trans ((below_plus W y).mono hB'.size))⟩
    show Ending.returned (.tuple #[.int .i64 (wrap64 (wrap64 ((B : Int) + C) - 1)), .bool true]) = _
    rw [hav]
  · simp only [hd, Bool.not_false] at hneq
    clear hd
    repeat (go_big_quiet_step (with_reducible exact hW.out.at _ _))
    refine wpQuiet_nil ?_
    rintro _ ⟨y, rfl⟩
    go_wp2
    go_ret2
    exact ⟨rfl, plus_of_below (hB'.trans ((below_plus W y).mono hB'.size))⟩
set_option maxHeartbeats 1000000 in
theorem ref_at (s : ByteArray) (L C : Int) (v : Value) (hs : s.size ≤ 1000) (hv : atV s L C v) :
    Pure Tryd.prog 7 #[.string s, pv L C] v := by
  intro w
  go_enter Tryd.func7, Tryd.ntmps7
  go_wp2
  obtain ⟨W, hW', hB', hs', ca, fa⟩ := box1 w #[.int .i64 L, .int .i64 C] 23
  rw [← hW']
  have ca0 := fun y => ca 0 (some (.int .i64 L)) rfl y
  have ca1 := fun y => ca 1 (some (.int .i64 C)) rfl y
  clear ca fa hW'
  go_loopw [6] (fun iv wr => ∃ k : Nat, k ≤ s.size + 1 ∧ iv = .int .i64 (k : Int) ∧ (∃ y, wr = plus W y) ∧ ∀ j : Nat, j < k → ¬ ((lineOf s j : Int) = L ∧ (colOf s j : Int) = C)) (fun iv _ => s.size + 1 - (intOf iv).toNat)
  case atStart => exact ⟨0, by omega, rfl, ⟨⟨#[], W.drawn⟩, (plus_self W).symm⟩, fun j hj => absurd hj (by omega)⟩
  case round =>
    obtain ⟨k, hk, rfl, ⟨y, rfl⟩, hno⟩ := hrel
    by_cases hlt : k ≤ s.size
    · have hW := Lib.hid ((ref_where s k hs (by omega) (by omega)).eqv (show _ = pv (lineOf s k : Nat) (colOf s k : Nat) by rw [clampN_in k s.size hlt]))
      have heql := eql_pv (lineOf s k : Nat) (colOf s k : Nat) L C
      have hlt' := Lib.hid hlt
      have hno' := Lib.hid hno
      clear hlt hno
      by_cases hd : (lineOf s k : Int) = L ∧ (colOf s k : Int) = C
      · have hv' : v = .tuple #[.int .i64 (k : Int), .bool true] := by
          rcases hv with ⟨i, hi, h1, h2, rfl⟩ | ⟨hn, _⟩
          · have : i = k := at_inj (s := s) (by omega) (by omega)
            rw [this]
          · exact absurd hd (hn k hlt'.out)
        subst hv'
        simp only [hd.1, hd.2, and_self, decide_true] at heql
        rw [hd.1, hd.2] at hW
        clear hd hv
        go_wp2
        refine wp_region_own (by kernel_rfl) (by kernel_rfl) ?_
        repeat (go_big_quiet_step (with_reducible exact hW.out.at _ _))
        refine wpQuiet_nil ?_
        rintro _ ⟨y1, rfl⟩
        go_wp2
        go_ret2
        exact ⟨rfl, plus_of_below (hB'.trans ((below_plus W y1).mono hB'.size))⟩
      · have hd' := Lib.hid hd
        simp only [decide_eq_false hd] at heql
        clear hd
        go_wp2
        refine wp_region_own (by kernel_rfl) (by kernel_rfl) ?_
        repeat (go_big_quiet_step (with_reducible exact hW.out.at _ _))
        refine wpQuiet_nil ?_
        rintro _ ⟨y1, rfl⟩
        go_wp2
        go_roundw
        case rel =>
          refine ⟨k + 1, by have := hlt'.out; omega, by go_num, ⟨y1, rfl⟩, fun j hj => ?_⟩
          rcases Nat.lt_or_ge j k with h | h
          · exact hno'.out j h
          · rw [show j = k by omega]; exact hd'.out
        case measure => simp [intOf]; have := hlt'.out; omega
    · have hv' : v = .tuple #[.int .i64 0, .bool false] := by
        rcases hv with ⟨i, hi, h1, h2, rfl⟩ | ⟨_, rfl⟩
        · exact absurd ⟨h1, h2⟩ (hno i (by omega))
        · rfl
      subst hv'
      clear hno hv
      go_wp2
      go_ret2
      exact ⟨rfl, plus_of_below (hB'.trans ((below_plus W y).mono hB'.size))⟩
end Go.Proofs.YtmkcnkbeoddgeaaDoor
