/-
  WHAT IS PROVED HERE: a part of the proof of the claim's theorem: Uj.
-/
import Derived.Test.YtkffjjlmoojffaaGreatDoorRows
import Derived.Test.YtkffjjlmoojffaaGreatDoorM13
import Derived.Test.YtkffjjlmoojffaaGreatDoorM14
import Derived.WalkKit
import Derived.WalkSpells
import Derived.WalkLawsBesides
import Derived.OwnWalk
set_option linter.all false
namespace Go.Proofs.YtkffjjlmoojffaaGreatDoor
open Go.RowKit
theorem oneR_size (s : ByteArray) (a : Nat) (ha : a < s.size) (h : (oneR s a).2 = 0) : 1 ≤ (oneR s a).1.s.size ∧ a + (oneR s a).1.s.size ≤ s.size := by
  have hb := wEnd_bounds s _ a rfl (by omega)
  have hm := markN_le s a ha
  unfold oneR at h ⊢
  split
  · rename_i hw
    have hg := wEnd_go ha hw
    have hb2 := wEnd_bounds s _ (a + 1) rfl (by omega)
    have hz : (s.extract a (wEnd s a)).size = wEnd s a - a := by simp; omega
    split <;> (simp only [hz]; omega)
  · rename_i hw
    rw [if_neg hw] at h
    split
    · rename_i h0
      rw [if_pos h0] at h
      cases h
    · simp only [ByteArray.size_extract]; omega
def endTok (s : ByteArray) : Tok := ⟨0, ByteArray.empty, 0, 0, s.size⟩
noncomputable def lexN (s : ByteArray) : Nat → Nat → List Tok → List Tok × Nat × Int
  | 0, _, acc => (acc ++ [endTok s], 0, 0)
  | f + 1, a, acc => if a < s.size then (if (oneR s a).2 = 0 then lexN s f (skipN s (a + (oneR s a).1.s.size)) (acc ++ [(oneR s a).1]) else ([], a, (oneR s a).2)) else (acc ++ [endTok s], 0, 0)
theorem lexN_end {s : ByteArray} {a : Nat} (h : ¬ a < s.size) : ∀ f acc, lexN s f a acc = (acc ++ [endTok s], 0, 0)
  | 0, _ => rfl
  | f + 1, acc => by unfold lexN; rw [if_neg h]
theorem lexN_go {s : ByteArray} {a f : Nat} {acc : List Tok} (h : a < s.size) (h0 : (oneR s a).2 = 0) : lexN s (f + 1) a acc = lexN s f (skipN s (a + (oneR s a).1.s.size)) (acc ++ [(oneR s a).1]) := by
  rw [lexN, if_pos h, if_pos h0]
theorem lexN_bad {s : ByteArray} {a f : Nat} {acc : List Tok} (h : a < s.size) (h0 : ¬ (oneR s a).2 = 0) : lexN s (f + 1) a acc = ([], a, (oneR s a).2) := by
  rw [lexN, if_pos h, if_neg h0]
noncomputable def lexR (s : ByteArray) : List Tok × Nat × Int := if 65536 < s.size then ([], 0, 3) else lexN s s.size (skipN s 0) []
noncomputable def faultOf (s : ByteArray) (r : List Tok × Nat × Int) : Value := if r.2.2 = 0 then fv 0 0 0 else fv r.2.2 (lineOf s r.2.1 : Nat) (colOf s r.2.1 : Nat)
theorem grown_plus (w : World) (x : Ext) : w.grownBy (plus w x) none := ⟨rfl, rfl, rfl, size_plus w x, fun k hk _ => by
  show (w.heap ++ x.blocks)[k]? = w.heap[k]?
  rw [Array.getElem?_append]; simp [hk]⟩
theorem owns_plus {w : World} {base : Nat} {e : TypeId} {size : Nat} {v : Value} {n : Nat} {xs : List Value} (h : w.ownsRow base e size v n xs) (x : Ext) : (plus w x).ownsRow base e size v n xs :=
  h.kept (grown_plus w x) (by cases hv : v.ownBlock with
    | none => exact .inl rfl
    | some g => right; simp)
structure XInv (w : World) (acc : List Tok) (v : Value) (wr : World) : Prop where
  below : Below w.heap.size w wr
  size : w.heap.size + 1 ≤ wr.heap.size
  f0 : wr.cell? ⟨w.heap.size, 0, none⟩ = some (.int .i64 0)
  f1 : wr.cell? ⟨w.heap.size, 1, none⟩ = some (.int .i64 0)
  f2 : wr.cell? ⟨w.heap.size, 2, none⟩ = some (.int .i64 0)
  ff : ∀ o, wr.frozen? ⟨w.heap.size, o, none⟩ = false
  own : wr.ownsRow (w.heap.size + 1) 60 6 v acc.length (acc.flatMap tokL)
theorem XInv.plus {w wr : World} {acc : List Tok} {v : Value} (h : XInv w acc v wr) (x : Ext) : XInv w acc v (plus wr x) := by
  have hs := h.size
  exact ⟨h.below.trans ((below_plus wr x).mono h.below.size), Nat.le_trans hs (size_plus wr x), (cell_plus wr x _ _ (by omega)).trans h.f0, (cell_plus wr x _ _ (by omega)).trans h.f1, (cell_plus wr x _ _ (by omega)).trans h.f2, fun o => (frozen_plus wr x _ o (by omega)).trans (h.ff o), owns_plus h.own x⟩
theorem XInv.alloc {w wr : World} {acc : List Tok} {v : Value} (h : XInv w acc v wr) (x : Obj) : XInv w acc v (wr.alloc x) := by
  have hs := h.size
  exact ⟨h.below.alloc h.below.size _, by simp; omega, (cell_old wr x _ _ (by omega)).trans h.f0, (cell_old wr x _ _ (by omega)).trans h.f1, (cell_old wr x _ _ (by omega)).trans h.f2, fun o => (frozen_old wr x _ o (by omega)).trans (h.ff o), h.own.alloc x⟩
theorem XInv.start (w : World) (T : TypeId) : XInv w [] (.slice none 0 0) (w.alloc (.cells #[.int .i64 0, .int .i64 0, .int .i64 0] T)) :=
  ⟨(Below.refl _ _).alloc (Nat.le_refl _) _, by simp, cell_new w _ T _ 0 rfl, cell_new w _ T _ 1 rfl, cell_new w _ T _ 2 rfl, fun o => frozen_new w _ T _ o rfl, World.ownsRow_nil _ _ _ _⟩
theorem XInv.grown {w wr w1 : World} {acc : List Tok} {v v' : Value} {t : Tok} (h : XInv w acc v wr) (ho : w1.ownsRow (w.heap.size + 1) 60 6 v' (acc.length + 1) (acc.flatMap tokL ++ tokL t)) (hg : wr.grownBy w1 v.ownBlock) : XInv w (acc ++ [t]) v' w1 := by
  have hs := h.size
  have hlt := h.own.lt
  have hne : some w.heap.size ≠ v.ownBlock := fun e => by have := (hlt _ e.symm).1; omega
  have hb : ∀ o, w1.frozen? ⟨w.heap.size, o, none⟩ = wr.frozen? ⟨w.heap.size, o, none⟩ := fun o => World.frozen?_of_block (a := ⟨w.heap.size, o, none⟩) (hg.block _ (by show w.heap.size < _; omega) hne)
  refine ⟨h.below.grown hg h.below.size (fun k hk => by have := (hlt k hk).1; omega), Nat.le_trans hs hg.size, hg.cell h.f0 hne, hg.cell h.f1 hne, hg.cell h.f2 hne, fun o => (hb o).trans (h.ff o), ?_⟩
  simpa using ho
theorem owns_set {W : World} {base : Nat} {e : TypeId} {size : Nat} {v : Value} {n : Nat} {xs : List Value} (h : W.ownsRow base e size v n xs) (b o : Nat) (u : Value) (hb : b < base) : (W.setCell ⟨b, o, none⟩ u).ownsRow base e size v n xs := by
  obtain ⟨hl, h2⟩ := h
  refine ⟨hl, ?_⟩
  rcases h2 with h2 | ⟨g, cap, cur, hv, hg, hh, h3, h4, h5, h6⟩
  · exact .inl h2
  · exact .inr ⟨g, cap, cur, hv, hg, (Below.heap_setCell _ _ _ _ (by show g ≠ b; omega)).trans hh, h3, h4, h5, h6⟩
theorem tokL_end (s : ByteArray) : tokL (endTok s) = [.int .u8 0, .string ⟨#[]⟩, .int .i64 0, .int .u64 0, .int .u64 0, .int .i64 (s.size : Int)] := by
  unfold tokL endTok hi lo
  simp
  rfl
theorem tok_info : (Tryz.prog.info? 60).map (fun i => (i.zero, i.size, i.bytes)) = some (some (.agg #[.int .u8 0, .string ⟨#[]⟩, .int .i64 0, .int .u64 0, .int .u64 0, .int .i64 0]), 6, 56) := by kernel_rfl
theorem fault0 (s : ByteArray) (r : List Tok × Nat × Int) (h : r.2.2 = 0) : faultOf s r = fv 0 0 0 := by unfold faultOf; rw [if_pos h]
theorem fault1 (s : ByteArray) (r : List Tok × Nat × Int) (h : ¬ r.2.2 = 0) : faultOf s r = fv r.2.2 (lineOf s r.2.1 : Nat) (colOf s r.2.1 : Nat) := by unfold faultOf; rw [if_neg h]
set_option maxHeartbeats 8000000 in
theorem ref_lex (s : ByteArray) (hs : s.size ≤ 140737488355328) (w : World) : Calls Tryz.prog 17 #[.string s] w fun e w' =>
    ∃ v, e = .returned (.tuple #[v, faultOf s (lexR s)]) ∧ w'.ownsRow (w.heap.size + 1) 60 6 v (lexR s).1.length ((lexR s).1.flatMap tokL) ∧ Below w.heap.size w w' := by
  by_cases hbig : 65536 < s.size
  · have hR : lexR s = ([], 0, 3) := by unfold lexR; rw [if_pos hbig]
    have hF := ref_fault s 0 3 (by decide) hs (by decide) (by decide)
    have hfv := fault1 s (lexR s) (by rw [hR]; decide)
    rw [show clampN 0 s.size = 0 from clampN_in 0 s.size (Nat.zero_le _)] at hF
    rw [hR] at hfv ⊢
    rw [hfv]
    simp only at hF ⊢
    generalize lineOf s 0 = l at hF ⊢
    generalize colOf s 0 = c at hF ⊢
    have hF' := Lib.hid hF
    clear hF hfv hR
    go_enter Tryz.func17, Tryz.ntmps17
    go_wp2_with fail
    refine abs_calls3 (T := XInv w [] (.slice none 0 0)) ?_ (XInv.start w _)
    intro W hX
    refine (hF'.out W).mono ?_
    rintro e w' ⟨rfl, x, rfl⟩
    have hX2 := hX.plus x
    generalize plus W x = V at hX2 ⊢
    have f0 := hX2.f0
    have f1 := hX2.f1
    have f2 := hX2.f2
    have ff := hX2.ff
    have hB := Lib.hid hX2.below
    clear hX hX2
    go_wp2
    refine bodyPost_ret (v := .tuple #[.slice none 0 0, fv 3 l c]) (by simp [results, Tryz.results17, go_sem, f0, f1, f2]) rfl ⟨_, rfl, World.ownsRow_nil _ _ _ _, ?_⟩
    exact ((hB.out.setCell (Nat.le_refl _) _).setCell (Nat.le_refl _) _).setCell (Nat.le_refl _) _
  · obtain ⟨RES, hRES⟩ : ∃ RES, lexR s = RES := ⟨_, rfl⟩
    have hL : lexN s s.size (skipN s 0) [] = RES := by rw [← hRES]; unfold lexR; rw [if_neg hbig]
    rw [hRES]
    have hsk := skip_bounds s _ 0 (Nat.le_refl _) (Nat.zero_le _)
    have hS0 := Lib.hid (fun w => ref_skip s 0 hs (Nat.zero_le _) w)
    generalize skipN s 0 = a0 at hL hsk hS0
    have hL' := Lib.hid hL
    clear hRES hL
    go_enter Tryz.func17, Tryz.ntmps17
    go_wp2_with (go_at_call 45; refine (hS0.out _).mono ?_; rintro e w' ⟨rfl, rfl⟩)
    refine abs_world3 (T := XInv w [] (.slice none 0 0)) ?_ (XInv.start w _)
    intro W hX
    have hX' := Lib.hid hX
    clear hX
    go_loopw [4, 5] (fun ov av wr => ∃ (a f : Nat) (acc : List Tok), a ≤ s.size ∧ s.size ≤ a + f ∧ acc.length ≤ a ∧ av = .int .i64 (a : Int) ∧ lexN s f a acc = RES ∧ XInv w acc ov wr) (fun _ av _ => s.size - (intOf av).toNat)
    case atStart => exact ⟨a0, s.size, [], hsk.2, by omega, Nat.zero_le _, rfl, hL'.out, hX'.out⟩
    case round =>
      obtain ⟨a, f, acc, ha, haf, hacc, rfl, hres, hX⟩ := hrel
      clear hX' hL'
      have hX' := Lib.hid hX
      clear hX
      by_cases hlt : a < s.size
      · obtain ⟨f, rfl⟩ : ∃ g, f = g + 1 := ⟨f - 1, by omega⟩
        have hO := ref_one s a hs hlt
        have hsz := oneR_size s a hlt
        have hgo := lexN_go (s := s) (a := a) (f := f) (acc := acc) hlt
        have hbd := lexN_bad (s := s) (a := a) (f := f) (acc := acc) hlt
        generalize oneR s a = r at hO hsz hgo hbd
        obtain ⟨t, E⟩ := r
        simp only at hO hsz hgo hbd
        have hO' : Hid (Pure Tryz.prog 46 #[.string s, .int .i64 (a : Int)] (.tuple #[.agg #[.int .u8 (t.kind : Int), .string t.s, .int .i64 t.w, .int .u64 (hi t.n), .int .u64 (lo t.n), .int .i64 (t.at_ : Int)], .int .i64 E])) := hO
        clear hO
        by_cases hE : E = 0
        · subst hE
          obtain ⟨hz1, hz2⟩ := hsz rfl
          have hgo2 := hgo rfl
          rw [hres] at hgo2
          clear hgo hbd hres hsz
          have hS := Lib.hid (fun w => ref_skip s (a + t.s.size) hs hz2 w)
          have hsb := skip_bounds s _ (a + t.s.size) (Nat.le_refl _) hz2
          generalize skipN s (a + t.s.size) = a2 at hS hsb hgo2
          have hgo3 := Lib.hid hgo2
          clear hgo2
          go_wp2_with fail
          refine (hO'.out _).mono ?_
          rintro e w' ⟨rfl, x, rfl⟩
          have hX2 := hX'.out.plus x
          generalize plus wr x = V at hX2 ⊢
          have hX3 := (hX2.alloc (.cells (tokL t).toArray 60)).alloc (.cells (tokL t).toArray 60)
          have hcells : ∀ j u, (tokL t)[j]? = some u → ((V.alloc (.cells (tokL t).toArray 60)).alloc (.cells (tokL t).toArray 60)).cell? ((⟨V.heap.size + 1, 0, none⟩ : Addr).add j) = some u := fun j u hj => by
            rw [Addr.add_lit, Nat.zero_add, cell_new _ _ _ _ _ (by simp)]
            simpa using hj
          have h1c : ∀ u ∈ tokL t, u.oneCell' = true := by
            intro u hu
            unfold tokL at hu
            simp only [List.mem_cons, List.not_mem_nil, or_false] at hu
            rcases hu with rfl | rfl | rfl | rfl | rfl | rfl <;> rfl
          have hV := hX2.size
          have hown0 := Lib.hid hX2.own.lt
          have hX3' := Lib.hid hX3
          have hcells' := Lib.hid hcells
          have h1c' := Lib.hid h1c
          clear hX2 hX' hO' hX3 hcells h1c
          obtain ⟨i0, hi, hz01, hz02, hz03⟩ := info_parts tok_info
          go_wp2_with (at_builtin; refine wpList_append_own _ rfl _ _ 49 rfl (w.heap.size + 1) 60 i0 _ 6 56 Tryz.underlying49 hi hz01 hz02 hz03 rfl (by decide) _ _ _ rfl hX3'.out.own ⟨V.heap.size + 1, 0, none⟩ 1 1 (tokL t) rfl rfl hcells'.out h1c'.out (by unfold maxLen; omega) (by omega) (by simp; omega) ?_)
          intro v' w1 hown hgrow _
          have hX4 := Lib.hid (hX3'.out.grown (t := t) hown hgrow)
          have hts : w1.cell? ⟨V.heap.size, 1, none⟩ = some (.string t.s) := hgrow.cell ((cell_old _ _ V.heap.size 1 (by simp)).trans (cell_new V _ _ _ 1 rfl)) (fun e => by have := (hown0.out _ e.symm).2; simp at this)
          clear hown hgrow hi hz01 hz02 hz03
          go_wp2_with (go_at_call 45; refine (hS.out _).mono ?_; rintro e w' ⟨rfl, rfl⟩)
          go_roundw
          case rel => exact ⟨a2, f, acc ++ [t], hsb.2, by omega, by simp; omega, rfl, hgo3.out.symm, hX4.out⟩
          case measure => simp [intOf]; omega
        · have hbd2 := hbd hE
          rw [hres] at hbd2
          clear hgo hbd hsz hres
          have hq : ((E : Int) == 0) = false := by rw [beq_eq_false_iff_ne]; exact hE
          have hF := ref_fault s a E hE hs (by omega) (by omega)
          rw [clampN_in a s.size ha] at hF
          have hfv := fault1 s RES (by rw [hbd2]; exact hE)
          rw [hbd2] at hfv
          simp only at hfv
          generalize lineOf s a = l at hF hfv
          generalize colOf s a = c at hF hfv
          have hF' := Lib.hid hF
          have hfv' := Lib.hid hfv
          have hbd3 := Lib.hid hbd2
          clear hF hfv hbd2 hE
          go_wp2_with fail
          refine (hO'.out _).mono ?_
          rintro e w' ⟨rfl, x, rfl⟩
          have hX2 := hX'.out.plus x
          generalize plus wr x = V at hX2 ⊢
          clear hX' hO'
          go_wp2_with fail
          refine abs_calls3 (T := XInv w acc _) ?_ (hX2.alloc _)
          clear hX2
          intro W1 hX3
          refine (hF'.out W1).mono ?_
          rintro e w' ⟨rfl, x2, rfl⟩
          have hX4 := hX3.plus x2
          generalize plus W1 x2 = V2 at hX4 ⊢
          have f0 := hX4.f0
          have f1 := hX4.f1
          have f2 := hX4.f2
          have ff := hX4.ff
          have hB := Lib.hid hX4.below
          clear hX3 hX4 hF'
          go_wp2
          refine bodyPost_ret (v := .tuple #[.slice none 0 0, fv E l c]) (by simp [results, Tryz.results17, go_sem, f0, f1, f2]) rfl ⟨.slice none 0 0, by rw [hbd3.out, hfv'.out], by rw [hbd3.out]; exact World.ownsRow_nil _ _ _ _, ?_⟩
          exact ((hB.out.setCell (Nat.le_refl _) _).setCell (Nat.le_refl _) _).setCell (Nat.le_refl _) _
      · have hend := lexN_end (s := s) (a := a) hlt f acc
        rw [hres] at hend
        have hfv := fault0 s RES (by rw [hend])
        have hend' := Lib.hid hend
        have hfv' := Lib.hid hfv
        have hX3 := hX'.out.alloc (.cells (tokL (endTok s)).toArray 60)
        have hcells : ∀ j u, (tokL (endTok s))[j]? = some u → (wr.alloc (.cells (tokL (endTok s)).toArray 60)).cell? ((⟨wr.heap.size, 0, none⟩ : Addr).add j) = some u := fun j u hj => by
          rw [Addr.add_lit, Nat.zero_add, cell_new _ _ _ _ _ rfl]
          simpa using hj
        have h1c : ∀ u ∈ tokL (endTok s), u.oneCell' = true := by
          intro u hu
          unfold tokL at hu
          simp only [List.mem_cons, List.not_mem_nil, or_false] at hu
          rcases hu with rfl | rfl | rfl | rfl | rfl | rfl <;> rfl
        have hL0 := tokL_end s
        rw [hL0] at hX3 hcells h1c
        have hV := hX'.out.size
        have hL0' := Lib.hid hL0
        clear hL0
        have hX3' := Lib.hid hX3
        have hcells' := Lib.hid hcells
        have h1c' := Lib.hid h1c
        clear hX' hX3 hcells h1c hend hfv hres
        obtain ⟨i0, hi, hz01, hz02, hz03⟩ := info_parts tok_info
        go_wp2_with (at_builtin; refine wpList_append_own _ rfl _ _ 49 rfl (w.heap.size + 1) 60 i0 _ 6 56 Tryz.underlying49 hi hz01 hz02 hz03 rfl (by decide) _ _ _ rfl hX3'.out.own ⟨wr.heap.size, 0, none⟩ 1 1 [.int .u8 0, .string ⟨#[]⟩, .int .i64 0, .int .u64 0, .int .u64 0, .int .i64 (s.size : Int)] rfl rfl hcells'.out h1c'.out (by unfold maxLen; omega) (by omega) (by simp; omega) ?_)
        intro v' w1 hown hgrow _
        rw [← hL0'.out] at hown
        have hX4 := hX3'.out.grown (t := endTok s) hown hgrow
        have f0 := hX4.f0
        have f1 := hX4.f1
        have f2 := hX4.f2
        have ff := hX4.ff
        have hX5 := Lib.hid hX4
        clear hown hgrow hi hz01 hz02 hz03 hX4
        go_wp2
        have hB := hX5.out.below
        refine bodyPost_ret (v := .tuple #[v', fv 0 0 0]) (by simp [results, Tryz.results17, go_sem, f0, f1, f2]) rfl ⟨v', by rw [hfv'.out], ?_, ((hB.setCell (Nat.le_refl _) _).setCell (Nat.le_refl _) _).setCell (Nat.le_refl _) _⟩
        rw [hend'.out]
        exact owns_set (owns_set (owns_set hX5.out.own _ _ _ (by omega)) _ _ _ (by omega)) _ _ _ (by omega)
end Go.Proofs.YtkffjjlmoojffaaGreatDoor
