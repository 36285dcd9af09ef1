/-
  WHAT IS PROVED HERE: the law TextTurned is true of any text, in worlds in which the library's table of powers of ten holds what the library's text says.
-/
import Derived.Test.YtmkcnkbeoddgeaaDoorRows
import Derived.Test.YtmkcnkbeoddgeaaDoorTi
import Derived.WalkKit
import Derived.WalkSpells
import Derived.WalkLawsBesides
namespace Go.Proofs.YtmkcnkbeoddgeaaDoor
open Go.RowKit
/-- The world at a round's head: the last place. -/
structure LInv (w : World) (l c : Int) (wr : World) : Prop where
  below : Below w.heap.size w wr
  size : w.heap.size + 1 ≤ wr.heap.size
  c0 : wr.cell? ⟨w.heap.size, 0, none⟩ = some (.int .i64 l)
  c1 : wr.cell? ⟨w.heap.size, 1, none⟩ = some (.int .i64 c)
  fr : ∀ o, wr.frozen? ⟨w.heap.size, o, none⟩ = false
theorem LInv.start (w : World) (l c : Int) (T : TypeId) : LInv w l c (w.alloc (.cells #[.int .i64 l, .int .i64 c] T)) :=
  ⟨(Below.refl _ _).alloc (Nat.le_refl _) _, by simp, cell_new w _ T _ 0 rfl, cell_new w _ T _ 1 rfl, fun o => frozen_new w _ T _ o rfl⟩
theorem LInv.plus {w wr : World} {l c : Int} (h : LInv w l c wr) (x : Ext) : LInv w l c (plus wr x) :=
  ⟨h.below.trans ((below_plus wr x).mono h.below.size), Nat.le_trans h.size (size_plus wr x), (cell_plus wr x _ 0 (by have := h.size; omega)).trans h.c0, (cell_plus wr x _ 1 (by have := h.size; omega)).trans h.c1, fun o => (frozen_plus wr x _ o (by have := h.size; omega)).trans (h.fr o)⟩
theorem LInv.alloc {w wr : World} {l c : Int} (h : LInv w l c wr) (o : Obj) : LInv w l c (wr.alloc o) :=
  ⟨h.below.alloc h.below.size _, by have := h.size; simp; omega, (cell_old wr o _ 0 (by have := h.size; omega)).trans h.c0, (cell_old wr o _ 1 (by have := h.size; omega)).trans h.c1, fun i => (frozen_old wr o _ i (by have := h.size; omega)).trans (h.fr i)⟩
theorem LInv.put {w wr : World} {l c u v : Int} (l' c' : Int) (h : LInv w l c wr) (hu : l' = u) (hv : c' = v) : LInv w l' c' ((wr.setCell ⟨w.heap.size, 0, none⟩ (.int .i64 u)).setCell ⟨w.heap.size, 1, none⟩ (.int .i64 v)) := by
  subst hu hv
  refine ⟨(h.below.setCell (Nat.le_refl _) _).setCell (Nat.le_refl _) _, by have := h.size; simp [World.setCell]; omega, ?_, ?_, ?_⟩
  · rw [World.cell?_setCell_other _ _ _ _ (by simp)]
    exact World.cell?_setCell_same _ _ _ h.c0
  · refine World.cell?_setCell_same _ _ _ (u := .int .i64 c) ?_
    rw [World.cell?_setCell_other _ _ _ _ (by simp)]
    exact h.c1
  · intro o
    rw [World.frozen?_setCell, World.frozen?_setCell]; exact h.fr o
theorem LInv.tab {w wr : World} {l c : Int} (h : LInv w l c wr) (hT : Tab w) : Tab wr := by
  obtain ⟨x, rfl⟩ := plus_of_below h.below; exact tab_plus hT x
theorem abs_calls {P : Program} {f : FuncId} {args : Array Value} {R : Ending → World → Prop} {W : World} {T : World → Prop} (h : ∀ W, T W → Calls P f args W R) (hT : T W) : Calls P f args W R := h W hT
/-- The place behind which the next one must be. -/
def lastL (s : ByteArray) : Nat → Int
  | 0 => 0
  | k + 1 => (lineOf s k : Nat)
def lastC (s : ByteArray) : Nat → Int
  | 0 => 0
  | k + 1 => (colOf s k : Nat)
theorem last_rises (s : ByteArray) : ∀ k, lastL s k < (lineOf s k : Nat) ∨ lastL s k = (lineOf s k : Nat) ∧ lastC s k < (colOf s k : Nat)
  | 0 => by left; have := lineOf_pos s 0; show (0 : Int) < _; omega
  | k + 1 => by
    have := place_rises s k
    show ((lineOf s k : Nat) : Int) < _ ∨ ((lineOf s k : Nat) : Int) = _ ∧ ((colOf s k : Nat) : Int) < _
    omega
set_option maxHeartbeats 4000000 in
theorem turned_walk (s : ByteArray) : Pure' 4 #[.string s] (.bool true) := by
  intro w hT
  have hK := Lib.hid known_any
  have hT' := Lib.hid hT
  clear hT
  by_cases h400 : 400 < s.size
  · go_enter Tryd.func4, Tryd.ntmps4
    go_wp2_with fail
    refine (hK.out w hT'.out).mono ?_
    rintro r w' ⟨rfl, x, rfl⟩
    go_wp2
    go_ret
    exact ⟨rfl, x, rfl⟩
  · have hs : s.size ≤ 400 := by omega
    clear h400
    go_enter Tryd.func4, Tryd.ntmps4
    go_wp2
    go_loopw [15] (fun iv wr => ∃ k : Nat, k ≤ s.size + 1 ∧ iv = .int .i64 (k : Int) ∧ LInv w (lastL s k) (lastC s k) wr) (fun iv _ => s.size + 1 - (intOf iv).toNat)
    case atStart => exact ⟨0, by omega, rfl, LInv.start w _ _ _⟩
    case round =>
      obtain ⟨k, hk, rfl, hL⟩ := hrel
      by_cases hlt : k ≤ s.size
      · have hW := Lib.hid (where_at s k (lineOf s k) (colOf s k) (by omega) (by omega) (by omega) (by rw [clampN_in k s.size hlt]) (by rw [clampN_in k s.size hlt]))
        have hA := Lib.hid (text_at s (lineOf s k : Nat) (colOf s k : Nat) (.tuple #[.int .i64 (k : Int), .bool true]) (by omega) (.inl ⟨k, hlt, rfl, rfl, rfl⟩))
        have hR := last_rises s k
        have hN := Lib.hid (show lastL s (k + 1) = (lineOf s k : Nat) ∧ lastC s (k + 1) = (colOf s k : Nat) from ⟨rfl, rfl⟩)
        have hl := lineOf_le s k
        have hc := colOf_le s k
        generalize lastL s k = ll at hL hR
        generalize lastC s k = lc at hL hR
        generalize lineOf s k = pl at hW hA hR hN hl
        generalize colOf s k = pc at hW hA hR hN hc
        have hlt' := Lib.hid hlt
        have hL' := Lib.hid hL
        clear hL
        go_wp2_with fail
        refine (hW.out _).mono ?_
        rintro r w' ⟨rfl, x, rfl⟩
        have hX := hL'.out.plus x
        generalize plus wr x = V at hX ⊢
        clear hL' hW
        have hX := Lib.hid hX
        go_wp2_with fail
        obtain ⟨W, hW', hB, hs', ca, fa⟩ := box1 V #[.int .i64 (pl : Int), .int .i64 (pc : Int)] 23
        have hW := hX.out.alloc (.cells #[.int .i64 (pl : Int), .int .i64 (pc : Int)] 23)
        rw [← hW'] at hW ⊢
        have p0 := fun y => ca 0 (some (.int .i64 (pl : Int))) rfl y
        have p1 := fun y => ca 1 (some (.int .i64 (pc : Int))) rfl y
        have q0 := fun y => (hW.plus y).c0
        have q1 := fun y => (hW.plus y).c1
        have qf := fun y => (hW.plus y).fr
        have hne : ¬ V.heap.size = w.heap.size := by have := hX.out.size; omega
        have hW := Lib.hid hW
        clear hW' ca fa hB hs' hX
        rcases hR with hR | ⟨rfl, hR⟩
        · have hq : ((pl : Int) == ll) = false := by simp; omega
          refine (hA.out _).mono ?_
          rintro r w' ⟨rfl, y, rfl⟩
          go_wp2
          go_roundw
          case rel => exact ⟨k + 1, by have := hlt'.out; omega, by go_num, (hW.out.plus y).put _ _ hN.out.1 hN.out.2⟩
          case measure => simp [intOf]; have := hlt'.out; omega
        · refine (hA.out _).mono ?_
          rintro r w' ⟨rfl, y, rfl⟩
          go_wp2
          go_roundw
          case rel => exact ⟨k + 1, by have := hlt'.out; omega, by go_num, (hW.out.plus y).put _ _ hN.out.1 hN.out.2⟩
          case measure => simp [intOf]; have := hlt'.out; omega
      · have hk' : k = s.size + 1 := by omega
        subst hk'
        have e1 : lastL s (s.size + 1) = (lineOf s s.size : Nat) := rfl
        have e2 : lastC s (s.size + 1) = (colOf s s.size : Nat) := rfl
        rw [e1, e2] at hL
        have hW := Lib.hid (where_at s ((s.size : Int) + 5) (lineOf s s.size) (colOf s s.size) (by omega) (by omega) (by omega) (by rw [show clampN ((s.size : Int) + 5) s.size = s.size by unfold clampN; omega]) (by rw [show clampN ((s.size : Int) + 5) s.size = s.size by unfold clampN; omega]))
        have hM := Lib.hid (where_at s (-1) 1 1 (by omega) (by omega) (by omega) (by rw [show clampN (-1) s.size = 0 by unfold clampN; omega]; rfl) (by rw [show clampN (-1) s.size = 0 by unfold clampN; omega]; rfl))
        clear e1 e2
        generalize lineOf s s.size = pl at hL hW
        generalize colOf s s.size = pc at hL hW
        have heq : ∀ w, (binOp .eql 23 (pv pl pc) (pv pl pc)).run Tryd.prog w = .ok (.bool true) w := fun w => (eql_pv pl pc pl pc w).trans (by simp)
        have hTw := Lib.hid (hL.tab hT'.out)
        have hB := Lib.hid hL.below
        have q0 := fun y => (hL.plus y).c0
        have q1 := fun y => (hL.plus y).c1
        have kK := Lib.hid (fun y => hK.out.at wr hTw.out y)
        clear hL hlt hk hK
        go_wp2
        refine wp_region_own0 (by kernel_rfl) (by kernel_rfl) ?_
        repeat (go_big_quiet_step (first | (with_reducible exact hW.out.at _ _) | (with_reducible exact hM.out.at _ _) | (with_reducible exact kK.out _)))
        refine wpQuiet_nil ?_
        rintro _ ⟨y, rfl⟩
        go_wp2
        go_ret
        exact ⟨rfl, plus_of_below (hB.out.trans ((below_plus wr y).mono hB.out.size))⟩
end Go.Proofs.YtmkcnkbeoddgeaaDoor
