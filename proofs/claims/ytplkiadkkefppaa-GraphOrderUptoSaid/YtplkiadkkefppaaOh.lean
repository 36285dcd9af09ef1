/-
  WHAT IS PROVED HERE: what the literal in the landed reached does: it goes through the graph as dfs does.
-/
import Derived.Test.YtplkiadkkefppaaRows
import Derived.Test.YtplkiadkkefppaaOg
namespace Go.Proofs.Ytplkiadkkefppaa
open Go.RowKit
abbrev fvReach (b : Nat) : Value := .func (.func 29) #[] #[.pointer (some ⟨b + 2, 0, none⟩), .pointer (some ⟨b, 0, none⟩), .pointer (some ⟨b + 3, 0, none⟩)]
def bitA (S : List Bool) : Array Value := (S.map Value.bool).toArray
theorem bitA_set (S : List Bool) (k : Nat) : (bitA S).setIfInBounds k (.bool true) = bitA (S.set k true) := by
  apply Array.ext'
  simp [bitA, List.map_set]
theorem bitA_at (S : List Bool) (k : Nat) (x : Bool) (h : S[k]? = some x) : (bitA S)[k]? = some (.bool x) := by simp [bitA, h]
/-- While reached goes on. -/
structure RcI (V : World) (b gb n : Nat) (W : World) (S : List Bool) : Prop where
  below : Below b V W
  size : b + 4 ≤ W.heap.size
  gbox : W.cell? ⟨b, 0, none⟩ = some (.slice (some ⟨gb, 0, none⟩) n n)
  row : W.heap[b + 1]? = some (.cells (bitA S) 4 (0, 0))
  ibox : W.cell? ⟨b + 2, 0, none⟩ = some (.slice (some ⟨b + 1, 0, none⟩) n n)
  rbox : W.cell? ⟨b + 3, 0, none⟩ = some (fvReach b)
  len : S.length = n
theorem RcI.set {V : World} {b gb n : Nat} {W : World} {S : List Bool} (h : RcI V b gb n W S) (k : Nat) : RcI V b gb n (W.setCell ⟨b + 1, k, none⟩ (.bool true)) (S.set k true) := by
  have hs := h.size
  have ho := fun i (hi : i ≠ b + 1) => Below.heap_setCell W ⟨b + 1, k, none⟩ (.bool true) i hi
  exact ⟨h.below.setCell (by show b ≤ b + 1; omega) _, by simpa using hs, cell_block h.gbox (ho b (by omega)), by rw [heap_setCell_same W (b + 1) k _ _ _ h.row, bitA_set], cell_block h.ibox (ho (b + 2) (by omega)), cell_block h.rbox (ho (b + 3) (by omega)), by simpa using h.len⟩
theorem fold_take_succ {α β : Type} (f : β → α → β) (s : β) (l : List α) (j : Nat) (x : α) (h : l[j]? = some x) : (l.take (j + 1)).foldl f s = f ((l.take j).foldl f s) x := by
  rw [List.take_add_one, h]
  simp
theorem getD_of {S : List Bool} {k : Nat} {x d : Bool} (h : S[k]? = some x) : S.getD k d = x := by rw [List.getD_eq_getElem?_getD, h]; rfl
set_option maxRecDepth 100000 in
set_option maxHeartbeats 8000000 in
theorem reach_in (g : List (List Nat)) (n : Nat) (hg : Fits g) (hgn : g.length = n) (hls : ∀ k, (g.getD k []).length ≤ 1048576) (V : World) (b gb : Nat) (hb : V.heap.size = b) (hGr : Gr V gb n g) : ∀ (f : Nat) (S : List Bool) (k : Nat) (W : World), RcI V b gb n W S → falses S ≤ f → k < n →
    Calls Try.prog 29 #[.int .i64 (k : Int), .pointer (some ⟨b + 2, 0, none⟩), .pointer (some ⟨b, 0, none⟩), .pointer (some ⟨b + 3, 0, none⟩)] W fun e W' => e = .returned (.tuple #[]) ∧ RcI V b gb n W' (dfs g f S k) := by
  have stop : ∀ (S : List Bool) (k : Nat) (W : World) (T : List Bool), RcI V b gb n W S → S[k]? = some true → T = S → Calls Try.prog 29 #[.int .i64 (k : Int), .pointer (some ⟨b + 2, 0, none⟩), .pointer (some ⟨b, 0, none⟩), .pointer (some ⟨b + 3, 0, none⟩)] W fun e W' => e = .returned (.tuple #[]) ∧ RcI V b gb n W' T := by
    intro S k W T hI hk e
    subst e
    have hkn : k < n := by rw [← hI.len]; exact (List.getElem?_eq_some_iff.1 hk).1
    have f0 := hI.ibox
    have f1 := cell_heap hI.row k _ (bitA_at T k true hk)
    have hI' := Lib.hid hI
    clear hI hk hg hgn hls hb hGr
    go_enter Try.func29, Try.ntmps29
    go_wp2
    refine bodyPost_ret (results_none rfl _ _ _) rfl ?_
    exact ⟨rfl, hI'.out⟩
  intro f
  induction f with
  | zero =>
    intro S k W hI hf hk
    refine stop S k W _ hI ?_ rfl
    by_cases h : S.getD k true = true
    · exact on_of (hI.len ▸ hk) h
    · exact absurd (falses_pos (S := S) (n := k) (by simpa using h)) (by omega)
  | succ f ih =>
    intro S k W hI hf hk
    obtain ⟨z, hz⟩ : ∃ z, S[k]? = some z := ⟨_, List.getElem?_eq_getElem (by rw [hI.len]; exact hk)⟩
    cases z with
    | true => exact stop S k W _ hI hz (by unfold dfs; rw [if_pos (getD_of hz)])
    | false =>
    have h0 : S.getD k true = false := getD_of hz
    have h1 := falses_set h0
    obtain ⟨l, hl⟩ : ∃ l, g.getD k [] = l := ⟨_, rfl⟩
    have hgk : g[k]? = some l := by
      rw [← hl, List.getD_eq_getElem?_getD, List.getElem?_eq_getElem (by rw [hgn]; exact hk)]
      rfl
    obtain ⟨p, c, hrc, hrr⟩ := hGr.row hgk
    have hT : dfs g (f + 1) S k = l.foldl (dfs g f) (S.set k true) := by rw [← hl]; conv => lhs; unfold dfs; rw [if_neg (by rw [h0]; decide)]
    have hlow : ∀ x ∈ l, x < n := fun x hx => by rw [← hgn]; exact hg k x (by rw [hl]; exact hx)
    have hle : l.length ≤ 1048576 := hl ▸ hls k
    have hfew : ∀ j, falses ((l.take j).foldl (dfs g f) (S.set k true)) ≤ f := fun j => by
      have := (fold_way (dfs_way (N := n) (fun k m hm => hgn ▸ hg k m hm) f) (l.take j) (S.set k true) (by simpa using hI.len) (fun x hx => hlow x (List.mem_of_mem_take hx)) (by omega)).1.fewer
      omega
    have f0 := hI.ibox
    have f1 := cell_heap hI.row k _ (bitA_at S k false hz)
    have f2 := frozen_of_row W (b + 1) k _ _ hI.row
    have hI' := Lib.hid hI
    have ih' := Lib.hid ih
    have hT' := Lib.hid hT
    have hlow' := Lib.hid hlow
    have hfew' := Lib.hid hfew
    have hrc' := Lib.hid hrc
    have hb' := Lib.hid hb
    obtain ⟨m, hm⟩ : ∃ m, l.length = m := ⟨_, rfl⟩
    rw [hm] at hle hrc'
    have hm' := Lib.hid hm
    have hle' := Lib.hid hle
    have hrr' := Lib.hid hrr
    clear hI hz hg hgn hls hb hGr hf h0 h1 hl hgk hrc hrr hT hlow hfew ih stop hm hle
    go_enter Try.func29, Try.ntmps29
    go_upto_region 2 with (fail)
    have hJ := hI'.out.set k
    generalize W.setCell ⟨b + 1, k, none⟩ (.bool true) = W1 at hJ ⊢
    clear f0 f1 f2
    obtain ⟨zz, hzz⟩ := plus_of_below (by rw [hb'.out]; exact hJ.below : Below V.heap.size V W1)
    have f3 := hJ.gbox
    have f4 := cell_at hzz hrc'.out
    have hJ' := Lib.hid hJ
    clear hJ hzz
    go_wp2_with fail
    clear f3 f4
    go_loopw [6, 19] (fun _ iv wr => ∃ j : Nat, j ≤ m ∧ iv = .int .i64 (j : Int) ∧ Hid (RcI V b gb n wr ((l.take j).foldl (dfs g f) (S.set k true)))) (fun _ iv _ => m - (intOf iv).toNat)
    case atStart => exact ⟨0, Nat.zero_le _, rfl, hJ'⟩
    case round =>
      obtain ⟨j, hj, rfl, hK⟩ := hrel
      by_cases hlt : j < m
      · obtain ⟨x, hx⟩ : ∃ x, l[j]? = some x := ⟨l[j]'(by rw [hm'.out]; exact hlt), List.getElem?_eq_getElem _⟩
        obtain ⟨pa, rfl, hc⟩ := hrr'.out j x hx
        rw [Nat.mul_one] at hc
        obtain ⟨zz, hzz⟩ := plus_of_below (by rw [hb'.out]; exact hK.out.below : Below V.heap.size V wr)
        have d0 := (cells_up hzz hc).c0 _ rfl
        have d1 := hK.out.rbox
        have a6 := Lib.hid (wr_succ j m hlt hle'.out)
        have hstep := Lib.hid (fold_take_succ (dfs g f) (S.set k true) l j x hx)
        have hxl := Lib.hid (hlow'.out x (List.mem_of_getElem? hx))
        clear hx hc hzz
        go_wp2_with fail
        refine (ih'.out _ x wr hK.out (hfew'.out j) hxl.out).mono ?_
        rintro e W' ⟨rfl, hL⟩
        have hL' := Lib.hid hL
        clear hL d0 d1
        go_wp2
        go_roundw
        case rel => exact ⟨j + 1, hlt, congrArg (Value.int .i64) a6.out, Lib.hid (by rw [hstep.out]; exact hL'.out)⟩
        case measure => exact step_less j m hlt a6.out
      · obtain rfl : j = m := by omega
        clear hlt hj
        go_wp2
        go_end0
        refine ⟨rfl, ?_⟩
        have := hK.out
        rw [List.take_of_length_le (by rw [hm'.out]; exact Nat.le_refl _), ← hT'.out] at this
        exact this
end Go.Proofs.Ytplkiadkkefppaa
