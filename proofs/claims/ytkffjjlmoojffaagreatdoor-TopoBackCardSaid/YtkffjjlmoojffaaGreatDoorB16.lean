/-
  WHAT IS PROVED HERE: a part of the proof of the claim's theorem: Uk; Cur; Ul.
-/
import Derived.Test.YtkffjjlmoojffaaGreatDoorRows
import Derived.Test.YtkffjjlmoojffaaGreatDoorB11
import Derived.WalkKit
import Derived.WalkSpells
import Derived.WalkLawsBesides
import Derived.Test.YtkffjjlmoojffaaGreatDoorB14
import Derived.Test.YtkffjjlmoojffaaGreatDoorB15
import Derived.Deep.CutRange
import Derived.Deep.RegionHeld3
set_option linter.all false
namespace Go.Proofs.YtkffjjlmoojffaaGreatDoor
open Go.RowKit
structure TokAt (w : World) (g j : Nat) (t : Tok) : Prop where
  lt : g < w.heap.size
  c0 : w.cell? ⟨g, j * 6, none⟩ = some (.int .u8 (t.kind : Int))
  c1 : w.cell? ⟨g, j * 6 + 1, none⟩ = some (.string t.s)
  c2 : w.cell? ⟨g, j * 6 + 2, none⟩ = some (.int .i64 t.w)
  c3 : w.cell? ⟨g, j * 6 + 3, none⟩ = some (.int .u64 (hi t.n))
  c4 : w.cell? ⟨g, j * 6 + 4, none⟩ = some (.int .u64 (lo t.n))
  c5 : w.cell? ⟨g, j * 6 + 5, none⟩ = some (.int .i64 (t.at_ : Int))
theorem TokAt.plus {w : World} {g j : Nat} {t : Tok} (h : TokAt w g j t) (x : Ext) : TokAt (plus w x) g j t :=
  ⟨Nat.lt_of_lt_of_le h.lt (size_plus w x), (cell_plus w x _ _ h.lt).trans h.c0, (cell_plus w x _ _ h.lt).trans h.c1, (cell_plus w x _ _ h.lt).trans h.c2, (cell_plus w x _ _ h.lt).trans h.c3, (cell_plus w x _ _ h.lt).trans h.c4, (cell_plus w x _ _ h.lt).trans h.c5⟩
end Go.Proofs.YtkffjjlmoojffaaGreatDoor
namespace Go.Proofs.YtkffjjlmoojffaaGreatDoor
open Go.RowKit
structure Cu (w : World) (b : Nat) (s : ByteArray) (g cap : Nat) (l : List Tok) (k : Nat) : Prop where
  lt : b < w.heap.size
  c0 : w.cell? ⟨b, 0, none⟩ = some (.string s)
  c1 : w.cell? ⟨b, 1, none⟩ = some (.slice (some ⟨g, k * 6, none⟩) (l.length - k) (cap - k))
  fz : ∀ o, w.frozen? ⟨b, o, none⟩ = false
  ne : g ≠ b
  hcap : l.length ≤ cap
  big : cap ≤ 9223372036854775807
  tk : ∀ j t, l[j]? = some t → TokAt w g j t
theorem TokAt.block {w w' : World} {g j : Nat} {t : Tok} (h : TokAt w g j t) (hs : w.heap.size ≤ w'.heap.size) (hb : w'.heap[g]? = w.heap[g]?) : TokAt w' g j t :=
  ⟨Nat.lt_of_lt_of_le h.lt hs, (World.cell?_of_block (w := w) hb).trans h.c0, (World.cell?_of_block (w := w) hb).trans h.c1, (World.cell?_of_block (w := w) hb).trans h.c2, (World.cell?_of_block (w := w) hb).trans h.c3, (World.cell?_of_block (w := w) hb).trans h.c4, (World.cell?_of_block (w := w) hb).trans h.c5⟩
section
variable {w w' : World} {b : Nat} {s : ByteArray} {g cap : Nat} {l : List Tok} {k : Nat}
theorem Cu.keep (h : Cu w b s g cap l k) (hs : w.heap.size ≤ w'.heap.size) (hb : w'.heap[b]? = w.heap[b]?) (hg : w'.heap[g]? = w.heap[g]?) : Cu w' b s g cap l k :=
  ⟨Nat.lt_of_lt_of_le h.lt hs, (World.cell?_of_block (w := w) (a := ⟨b, 0, none⟩) hb).trans h.c0, (World.cell?_of_block (w := w) (a := ⟨b, 1, none⟩) hb).trans h.c1, fun o => (World.frozen?_of_block (w := w) (a := ⟨b, o, none⟩) hb).trans (h.fz o), h.ne, h.hcap, h.big, fun j t ht => (h.tk j t ht).block hs hg⟩
theorem Cu.glt (h : Cu w b s g cap l k) (hl : 0 < l.length) : g < w.heap.size := (h.tk 0 l[0] (List.getElem?_eq_getElem hl)).lt
theorem Cu.below (h : Cu w b s g cap l k) (hB : Below w.heap.size w w') : Cu w' b s g cap l k := by
  by_cases hl : 0 < l.length
  · exact h.keep hB.size (hB.block b h.lt) (hB.block g (h.glt hl))
  · refine ⟨Nat.lt_of_lt_of_le h.lt hB.size, (hB.cell (p := ⟨b, 0, none⟩) h.lt).trans h.c0, (hB.cell (p := ⟨b, 1, none⟩) h.lt).trans h.c1, fun o => (hB.frozen (p := ⟨b, o, none⟩) h.lt).trans (h.fz o), h.ne, h.hcap, h.big, fun j t ht => ?_⟩
    have := (List.getElem?_eq_some_iff.1 ht).1
    omega
theorem Cu.plus (h : Cu w b s g cap l k) (x : Ext) : Cu (plus w x) b s g cap l k := h.below (below_plus w x)
theorem Cu.alloc (h : Cu w b s g cap l k) (o : Obj) : Cu (w.alloc o) b s g cap l k := h.below ((Below.refl _ w).alloc (Nat.le_refl _) o)
theorem Cu.put (h : Cu w b s g cap l k) (k' : Nat) : Cu (w.setCell ⟨b, 1, none⟩ (.slice (some ⟨g, k' * 6, none⟩) (l.length - k') (cap - k'))) b s g cap l k' := by
  have hz : (w.setCell ⟨b, 1, none⟩ (.slice (some ⟨g, k' * 6, none⟩) (l.length - k') (cap - k'))).heap.size = w.heap.size := by simp
  refine ⟨by rw [hz]; exact h.lt, ?_, World.cell?_setCell_same _ _ _ h.c1, fun o => by rw [World.frozen?_setCell]; exact h.fz o, h.ne, h.hcap, h.big, fun j t ht => (h.tk j t ht).block (Nat.le_of_eq hz.symm) (Below.heap_setCell _ _ _ _ h.ne)⟩
  rw [World.cell?_setCell_other _ _ _ _ (by simp)]; exact h.c0
end
theorem Cu.set {w : World} {b : Nat} {s : ByteArray} {g cap : Nat} {l : List Tok} {k : Nat} (h : Cu w b s g cap l k) {n : Nat} (hb : ¬ n = b) (hg : ¬ n = g) (i : Nat) (v : Value) : Cu (w.setCell ⟨n, i, none⟩ v) b s g cap l k :=
  h.keep (Nat.le_of_eq (by simp)) (Below.heap_setCell _ _ _ _ (fun e => hb e.symm)) (Below.heap_setCell _ _ _ _ (fun e => hg e.symm))
theorem grown_of_below {w W : World} (h : Below w.heap.size w W) (row : Option Nat) : w.grownBy W row := ⟨h.os, h.tape, h.output, h.size, fun k hk _ => h.block k hk⟩
theorem grown_new {w X : World} {row : Option Nat} (h : w.grownBy X row) {n : Nat} (hn : w.heap.size ≤ n) (i : Nat) (v : Value) : w.grownBy (X.setCell ⟨n, i, none⟩ v) row :=
  ⟨h.os, h.tape, h.output, by have := h.size; simp; omega, fun k hk hr => (Below.heap_setCell _ _ _ _ (by show k ≠ n; omega)).trans (h.block k hk hr)⟩
theorem grown_six {w X : World} {row : Option Nat} (h : w.grownBy X row) (a0 a1 a2 a3 a4 a5 : Value) : w.grownBy ((((((X.setCell ⟨w.heap.size, 0, none⟩ a0).setCell ⟨w.heap.size, 1, none⟩ a1).setCell ⟨w.heap.size, 2, none⟩ a2).setCell ⟨w.heap.size, 3, none⟩ a3).setCell ⟨w.heap.size, 4, none⟩ a4).setCell ⟨w.heap.size, 5, none⟩ a5) row :=
  grown_new (grown_new (grown_new (grown_new (grown_new (grown_new h (Nat.le_refl _) _ _) (Nat.le_refl _) _ _) (Nat.le_refl _) _ _) (Nat.le_refl _) _ _) (Nat.le_refl _) _ _) (Nat.le_refl _) _ _
def CuEnds {α : Type} (w : World) (b : Nat) (s : ByteArray) (g cap : Nat) (l : List Tok) (r : Rs α) (v : α → Value) (e : Ending) (w' : World) : Prop := match r with
  | .ok a k' => e = .returned (v a) ∧ w.grownBy w' (some b) ∧ Cu w' b s g cap l k'
  | .bad p E => e = gaveUp E (lineOf s p : Nat) (colOf s p : Nat) ∧ w.grownBy w' (some b)
abbrev tokA (t : Tok) : Value := .agg #[.int .u8 (t.kind : Int), .string t.s, .int .i64 t.w, .int .u64 (hi t.n), .int .u64 (lo t.n), .int .i64 (t.at_ : Int)]
theorem bytes_beq (a b : ByteArray) : (a.toList == b.toList) = decide (a = b) := by
  rw [list_beq, Lib.toList_data, Bool.eq_iff_iff, decide_eq_true_eq, decide_eq_true_eq]
  exact ⟨fun h => ByteArray.ext (Array.toList_inj.1 h), fun h => by rw [h]⟩
theorem tok_field0 (K : Int) (S : ByteArray) (D H L A : Int) (w : World) : (Instr.field 60 (.agg #[.int .u8 K, .string S, .int .i64 D, .int .u64 H, .int .u64 L, .int .i64 A]) 0).run Tryz.prog w = .ok (.int .u8 K) w := by kernel_rfl
theorem tok_field1 (K : Int) (S : ByteArray) (D H L A : Int) (w : World) : (Instr.field 60 (.agg #[.int .u8 K, .string S, .int .i64 D, .int .u64 H, .int .u64 L, .int .i64 A]) 1).run Tryz.prog w = .ok (.string S) w := by kernel_rfl
section
variable {w : World} {b : Nat} {s : ByteArray} {g cap : Nat} {l : List Tok} {k : Nat} {t : Tok}
set_option maxHeartbeats 1000000 in
theorem cur_next (h : Cu w b s g cap l k) (ht : l[k]? = some t) :
    Calls Tryz.prog 60 #[.pointer (some ⟨b, 0, none⟩)] w (Back w (tokA t)) := by
  have hk := (List.getElem?_eq_some_iff.1 ht).1
  have hX := h.alloc (.cells #[.int .u8 0, .string ⟨#[]⟩, .int .i64 0, .int .u64 0, .int .u64 0, .int .i64 0] 60)
  have c1 := hX.c1
  have T := hX.tk k t ht
  have t0 := T.c0
  have t1 := T.c1
  have t2 := T.c2
  have t3 := T.c3
  have t4 := T.c4
  have t5 := T.c5
  have hc := h.hcap
  have hb := h.big
  obtain ⟨n, hn⟩ : ∃ n, l.length - k = n := ⟨_, rfl⟩
  obtain ⟨c, hcc⟩ : ∃ c, cap - k = c := ⟨_, rfl⟩
  rw [hn, hcc] at c1
  have n1 : (0 : Int) < (n : Int) := by omega
  clear hX T h ht
  go_enter Tryz.func60, Tryz.ntmps60
  go_wp2
  obtain ⟨V, hV, hB, -, ca, -⟩ := box1 w #[.int .u8 (t.kind : Int), .string t.s, .int .i64 t.w, .int .u64 (hi t.n), .int .u64 (lo t.n), .int .i64 (t.at_ : Int)] 60
  rw [← hV]
  have r0 := ca 0 _ rfl ⟨#[], V.drawn⟩
  have r1 := ca 1 _ rfl ⟨#[], V.drawn⟩
  have r2 := ca 2 _ rfl ⟨#[], V.drawn⟩
  have r3 := ca 3 _ rfl ⟨#[], V.drawn⟩
  have r4 := ca 4 _ rfl ⟨#[], V.drawn⟩
  have r5 := ca 5 _ rfl ⟨#[], V.drawn⟩
  rw [plus_self] at r0 r1 r2 r3 r4 r5
  clear hV ca c1 t0 t1 t2 t3 t4 t5
  refine bodyPost_ret (v := tokA t) ?_ rfl ⟨rfl, plus_of_below hB⟩
  simp [results, Tryz.results60, go_sem, r0, r1, r2, r3, r4, r5]
set_option maxHeartbeats 1000000 in
theorem cur_atEnd (h : Cu w b s g cap l k) (ht : l[k]? = some t) :
    Calls Tryz.prog 43 #[.pointer (some ⟨b, 0, none⟩)] w (Back w (.bool (decide (t.kind = 0)))) := by
  have hN0 := cur_next h ht
  unfold tokA at hN0
  have q : ((t.kind : Int) == 0) = decide (t.kind = 0) := by rw [Bool.eq_iff_iff]; simp
  generalize decide (t.kind = 0) = B at q ⊢
  generalize (t.kind : Int) = K at q hN0
  have hN := Lib.hid hN0
  replace q := Lib.hid q
  have f0 := tok_field0
  clear h ht hN0
  go_enter Tryz.func43, Tryz.ntmps43
  go_wp2_with fail
  refine hN.out.mono ?_
  rintro e w' ⟨rfl, x, rfl⟩
  go_wp2
  go_ret
  exact ⟨by rw [← q.out]; rfl, x, rfl⟩
set_option maxHeartbeats 1000000 in
theorem cur_is (h : Cu w b s g cap l k) (ht : l[k]? = some t) (x : ByteArray) :
    Calls Tryz.prog 41 #[.pointer (some ⟨b, 0, none⟩), .string x] w (Back w (.bool (decide (t.s = x)))) := by
  have hN := Lib.hid (cur_next h ht)
  have f1 := tok_field1
  clear h ht
  go_enter Tryz.func41, Tryz.ntmps41
  go_wp2_with fail
  refine hN.out.mono ?_
  rintro e w' ⟨rfl, y, rfl⟩
  go_wp2
  go_ret
  exact ⟨by rw [← bytes_beq]; rfl, y, rfl⟩
set_option maxHeartbeats 1000000 in
theorem cur_take (h : Cu w b s g cap l k) (ht : l[k]? = some t) (hk2 : k + 1 < l.length) :
    Calls Tryz.prog 86 #[.pointer (some ⟨b, 0, none⟩)] w fun e w' => e = .returned (tokA t) ∧ w.grownBy w' (some b) ∧ Cu w' b s g cap l (k + 1) := by
  have hk := (List.getElem?_eq_some_iff.1 ht).1
  have hc := h.hcap
  have hb := h.big
  have hX := h.alloc (.cells #[.int .u8 0, .string ⟨#[]⟩, .int .i64 0, .int .u64 0, .int .u64 0, .int .i64 0] 60)
  have hN := Lib.hid (cur_next hX ht)
  have hX' := Lib.hid hX
  have hgw' : Hid (g < w.heap.size) := h.glt (by omega)
  obtain ⟨n, hn⟩ : ∃ n, l.length - k = n := ⟨_, rfl⟩
  obtain ⟨c, hcc⟩ : ∃ c, cap - k = c := ⟨_, rfl⟩
  have n1 : (1 : Int) ≤ (n : Int) := by omega
  have c1 : (1 : Int) ≤ (c : Int) := by omega
  have c2 : ¬ c = 1 := by omega
  have nc : (n : Int) ≤ (c : Int) := by omega
  clear hX
  go_enter Tryz.func86, Tryz.ntmps86
  go_wp2_with fail
  refine hN.out.mono ?_
  rintro e w' ⟨rfl, x, rfl⟩
  obtain ⟨V, hV⟩ : ∃ V, plus (w.alloc (.cells #[.int .u8 0, .string ⟨#[]⟩, .int .i64 0, .int .u64 0, .int .u64 0, .int .i64 0] 60)) x = V := ⟨_, rfl⟩
  have hXV := hX'.out.plus x
  rw [hV] at hXV ⊢
  have hwV : w.heap.size < V.heap.size := by rw [← hV]; exact Nat.lt_of_lt_of_le (by simp) (size_plus _ _)
  have hbw := h.lt
  have rr : ∀ i v, (#[.int .u8 0, .string ⟨#[]⟩, .int .i64 0, .int .u64 0, .int .u64 0, .int .i64 0] : Array Value)[i]? = some v → V.cell? ⟨w.heap.size, i, none⟩ = some v := fun i v hv => by
    rw [← hV]; exact plus_cell (by simp) ((cell_new w _ _ _ i rfl).trans hv) x
  have rf : ∀ o, V.frozen? ⟨w.heap.size, o, none⟩ = false := by rw [← hV]; exact plus_frozen (by simp) (fun o => frozen_new w _ _ _ o rfl) x
  have hBV : Below w.heap.size w V := by rw [← hV]; exact ((Below.refl _ w).alloc (Nat.le_refl _) _).trans ((below_plus _ x).mono (by simp))
  clear hV
  go_upto_region 2 with (fail)
  obtain ⟨U, hU, hB, hz, ca, fa⟩ := box1 V #[.int .u8 (t.kind : Int), .string t.s, .int .i64 t.w, .int .u64 (hi t.n), .int .u64 (lo t.n), .int .i64 (t.at_ : Int)] 60
  have hXU : Cu U b s g cap l k := hXV.below hB
  rw [← hU]
  have c1 := hXU.c1
  have fz := hXU.fz
  have q0 := ca 0 _ rfl ⟨#[], U.drawn⟩
  have q1 := ca 1 _ rfl ⟨#[], U.drawn⟩
  have q2 := ca 2 _ rfl ⟨#[], U.drawn⟩
  have q3 := ca 3 _ rfl ⟨#[], U.drawn⟩
  have q4 := ca 4 _ rfl ⟨#[], U.drawn⟩
  have q5 := ca 5 _ rfl ⟨#[], U.drawn⟩
  rw [plus_self] at q0 q1 q2 q3 q4 q5
  have r0 := (hB.cell (p := ⟨w.heap.size, 0, none⟩) hwV).trans (rr 0 _ rfl)
  have r1 := (hB.cell (p := ⟨w.heap.size, 1, none⟩) hwV).trans (rr 1 _ rfl)
  have r2 := (hB.cell (p := ⟨w.heap.size, 2, none⟩) hwV).trans (rr 2 _ rfl)
  have r3 := (hB.cell (p := ⟨w.heap.size, 3, none⟩) hwV).trans (rr 3 _ rfl)
  have r4 := (hB.cell (p := ⟨w.heap.size, 4, none⟩) hwV).trans (rr 4 _ rfl)
  have r5 := (hB.cell (p := ⟨w.heap.size, 5, none⟩) hwV).trans (rr 5 _ rfl)
  have rfU : ∀ o, U.frozen? ⟨w.heap.size, o, none⟩ = false := fun o => (hB.frozen (p := ⟨w.heap.size, o, none⟩) hwV).trans (rf o)
  have hne1 : ¬ V.heap.size = b := by omega
  have hne2 : ¬ b = V.heap.size := by omega
  have hne3 : ¬ w.heap.size = b := by omega
  have hne4 : ¬ b = w.heap.size := by omega
  rw [hn, hcc] at c1
  have hXU' := Lib.hid hXU
  have hBU := Lib.hid (hBV.trans (hB.mono (Nat.le_of_lt hwV)))
  clear hU ca fa rr rf hX' hXV hXU hB hBV h ht hN
  go_wp2
  refine bodyPost_ret (v := tokA t) ?_ rfl ⟨rfl, ?_, ?_⟩
  · simp [results, Tryz.results86, go_sem, r0, r1, r2, r3, r4, r5, hne3, hne4]
  · exact grown_six (grown_trans (grown_of_below hBU.out _) (grown_put _ _ _ _)) _ _ _ _ _ _
  · have hP := hXU'.out.put (k + 1)
    rw [show l.length - (k + 1) = n - 1 by omega, show cap - (k + 1) = c - 1 by omega, show (k + 1) * 6 = k * 6 + 6 by omega] at hP
    have hg := hXU'.out.glt (by omega)
    have hgw : g < w.heap.size := hgw'.out
    exact (((((hP.set hne3 (by omega) 0 _).set hne3 (by omega) 1 _).set hne3 (by omega) 2 _).set hne3 (by omega) 3 _).set hne3 (by omega) 4 _).set hne3 (by omega) 5 _
set_option maxHeartbeats 1000000 in
theorem cur_skip (h : Cu w b s g cap l k) (ht : l[k]? = some t) (x : ByteArray) (hx : t.s = x → k + 1 < l.length) :
    Calls Tryz.prog 66 #[.pointer (some ⟨b, 0, none⟩), .string x] w fun e w' => e = .returned (.bool (decide (t.s = x))) ∧ w.grownBy w' (some b) ∧ Cu w' b s g cap l (if t.s = x then k + 1 else k) := by
  have hI0 := cur_is h ht x
  by_cases hs : t.s = x
  · rw [decide_eq_true hs] at hI0 ⊢
    rw [if_pos hs]
    have hI := Lib.hid hI0
    have hT := Lib.hid (fun w h => cur_take (w := w) (b := b) (s := s) (g := g) (cap := cap) h ht (hx hs))
    have h' := Lib.hid h
    clear hI0 h ht hs hx
    go_enter Tryz.func66, Tryz.ntmps66
    go_wp2_with fail
    refine hI.out.mono ?_
    rintro e w' ⟨rfl, y, rfl⟩
    go_wp2_with fail
    refine (hT.out _ (h'.out.plus y)).mono ?_
    rintro e w' ⟨rfl, hg, hX⟩
    replace hg := Lib.hid hg
    replace hX := Lib.hid hX
    go_wp2
    go_ret
    exact ⟨rfl, grown_trans (grown_plus_any _ _ _) hg.out, hX.out⟩
  · rw [decide_eq_false hs] at hI0 ⊢
    rw [if_neg hs]
    have hI := Lib.hid hI0
    have h' := Lib.hid h
    clear hI0 h ht hs hx
    go_enter Tryz.func66, Tryz.ntmps66
    go_wp2_with fail
    refine hI.out.mono ?_
    rintro e w' ⟨rfl, y, rfl⟩
    go_wp2
    go_ret
    exact ⟨rfl, grown_plus_any _ _ _, h'.out.plus y⟩
set_option maxHeartbeats 1000000 in
theorem cur_needAt (h : Cu w b s g cap l k) (t : Tok) (e0 : Int) (he : ¬ e0 = 0) (hs : s.size ≤ 140737488355328) (ha : t.at_ ≤ s.size) :
    Calls Tryz.prog 64 #[.pointer (some ⟨b, 0, none⟩), tokA t, .bool false, .int .i64 e0] w (Gives w e0 (lineOf s t.at_ : Nat) (colOf s t.at_ : Nat)) := by
  have hF := text_fault s t.at_ e0 he hs (by omega) (by omega)
  rw [clampN_in t.at_ s.size ha] at hF
  obtain ⟨K, S, D, N, A⟩ := t
  simp only at hF ha
  unfold tokA
  simp only
  generalize lineOf s A = ll at hF ⊢
  generalize colOf s A = cc at hF ⊢
  have hF' := Lib.hid hF
  obtain ⟨W, hW, hB, hz, ca, fa⟩ := box1 w #[.int .u8 (K : Int), .string S, .int .i64 D, .int .u64 (hi N), .int .u64 (lo N), .int .i64 (A : Int)] 60
  have hX : Cu W b s g cap l k := hW ▸ h.alloc _
  have c0 := plus_cell hX.lt hX.c0
  have a5 := ca 5 _ rfl
  clear hF ca h hX ha
  go_enter Tryz.func64, Tryz.ntmps64
  go_wp2
  rw [← hW]
  clear hW
  refine wp_region_own_tail0 7 (by kernel_rfl) (by kernel_rfl) ?_
  simp only [List.take_succ_cons, List.take_zero, List.drop_succ_cons, List.drop_zero]
  repeat (go_big_quiet_step (fail))
  refine wpQuiet_nil ?_
  rintro _ ⟨y, rfl⟩
  go_wp2_with fail
  refine (hF'.out.at _ _).mono ?_
  rintro e w' ⟨rfl, x, rfl⟩
  go_wp2
  exact ⟨rfl, rfl, plus_of_below ((hB.trans ((below_plus W x).mono hB.size)))⟩
theorem cur_needAt_yes (t : Tok) (e0 : Int) (b : Nat) (w : World) :
    Calls Tryz.prog 64 #[.pointer (some ⟨b, 0, none⟩), tokA t, .bool true, .int .i64 e0] w (Back w (.tuple #[])) := by
  go_enter Tryz.func64, Tryz.ntmps64
  go_wp2
  refine bodyPost_ret (results_none rfl _ _ _) rfl ⟨rfl, ?_⟩
  exact plus_of_below ((Below.refl _ _).alloc (Nat.le_refl _) _)
end
end Go.Proofs.YtkffjjlmoojffaaGreatDoor
namespace Go.Proofs.YtkffjjlmoojffaaGreatDoor
open Go.RowKit
theorem one_word (s : ByteArray) (a e : Nat) (h1 : (isLet (byN s a) || isDig (byN s a)) = true) (h2 : isDig (byN s a) = false) (he : wEnd s a = e) (h16 : ¬ 16 < e - a) : oneR s a = (⟨1, s.extract a e, 0, 0, a⟩, 0) := by
  unfold oneR; rw [if_pos h1, if_neg (by rw [h2]; simp), he, if_neg h16]
theorem one_num (s : ByteArray) (a e : Nat) (h1 : (isLet (byN s a) || isDig (byN s a)) = true) (h2 : isDig (byN s a) = true) (he : wEnd s a = e) : oneR s a = (⟨2, s.extract a e, (numR (s.extract a e)).1, (numR (s.extract a e)).2.1, a⟩, (numR (s.extract a e)).2.2) := by
  unfold oneR; rw [if_pos h1, if_pos h2, he]
theorem one_mark (s : ByteArray) (a n : Nat) (h1 : (isLet (byN s a) || isDig (byN s a)) = false) (hn : markN s a = n) (h0 : ¬ n = 0) : oneR s a = (⟨3, s.extract a (a + n), 0, 0, a⟩, 0) := by
  unfold oneR; rw [if_neg (by rw [h1]; simp), hn, if_neg h0]
end Go.Proofs.YtkffjjlmoojffaaGreatDoor
