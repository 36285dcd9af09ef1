/-
  WHAT IS PROVED HERE: the programs of the page's examples (law 9's states), in memory of their own.
-/
import Derived.Test.YtplkiadkkefppaaRows
import Derived.Test.YtplkiadkkefppaaOl
import Derived.Deep.RegionLaw
import Derived.BigRegion
namespace Go.Proofs.Ytplkiadkkefppaa
open Go.RowKit
def stS (a b : ByteArray) : Sa := ⟨a, ⟨none, 0, []⟩, b, ⟨none, 0, []⟩, ⟨none, 0, []⟩⟩
/-- A program of states, each to one. -/
def statesF : List ByteArray → List Sa
  | a :: b :: l => stS a b :: statesF l
  | _ => []
theorem state_info : (Try.prog.info? 59).map (fun i => (i.zero, i.size, i.bytes)) = some (some (.agg #[.string ⟨#[]⟩, .slice none 0 0, .string ⟨#[]⟩, .slice none 0 0, .slice none 0 0]), 5, 104) := by kernel_rfl
abbrev zeroP (v : Value) : Array Value := #[.slice none 0 0, .slice none 0 0, v, .slice none 0 0, .slice none 0 0, .slice none 0 0, .slice none 0 0]
/-- While states goes on. -/
structure StI (V : World) (b : Nat) (W : World) (v : Value) (L : List Sa) : Prop where
  below : Below b V W
  size : b + 2 ≤ W.heap.size
  rbox : W.heap[b]? = some (.cells (zeroP (.slice none 0 0)) 30 (0, 0))
  pbox : W.heap[b + 1]? = some (.cells (zeroP v) 30 (0, 0))
  own : W.ownsRow (b + 2) 59 5 v L.length ((L.map Sa.cells).flatten)
theorem StI.up {V W W' : World} {b : Nat} {v : Value} {L : List Sa} (h : StI V b W v L) (hB : Below W.heap.size W W') : StI V b W' v L := by
  have hs := h.size
  exact ⟨h.below.trans (hB.mono (by omega)), Nat.le_trans hs hB.size, (hB.block b (by omega)).trans h.rbox, (hB.block (b + 1) (by omega)).trans h.pbox, own_up h.own hB⟩
theorem StI.drew {V W : World} {b : Nat} {v : Value} {L : List Sa} (h : StI V b W v L) : StI V b W.drew v L := ⟨h.below.drew, h.size, h.rbox, h.pbox, h.own⟩
theorem sa_cells_len (x : Sa) : x.cells.length = 5 := rfl
theorem sa_cells_one (x : Sa) : ∀ u ∈ x.cells, u.oneCell' = true := by
  intro u hu
  simp only [Sa.cells, Sl.v, List.mem_cons, List.not_mem_nil, or_false] at hu
  rcases hu with rfl | rfl | rfl | rfl | rfl <;> rfl
theorem sts_row {w : World} {base : Nat} {v : Value} {L : List Sa} (h : w.ownsRow base 59 5 v L.length ((L.map Sa.cells).flatten)) : ∃ p c, v = .slice p L.length c ∧ RowAt w 5 Sa.cells p L := by
  by_cases hn : 0 < L.length
  · rcases h.2 with ⟨rfl, h0⟩ | ⟨g, cap, cur, rfl, hg, hh, _⟩
    · omega
    · exact ⟨_, cap, rfl, own_row h (fun y _ => rfl)⟩
  · obtain rfl : L = [] := List.length_eq_zero_iff.1 (by omega)
    rcases h.2 with ⟨rfl, _⟩ | ⟨g, cap, cur, rfl, _⟩
    · exact ⟨none, 0, rfl, fun i x hx => by simp at hx⟩
    · exact ⟨_, cap, rfl, fun i x hx => by simp at hx⟩
theorem own_cap {w : World} {base : Nat} {e : TypeId} {C : Nat} {p : Option Addr} {m c n : Nat} {xs : List Value} (h : w.ownsRow base e C (.slice p m c) n xs) : n ≤ c ∧ c ≤ maxLen ∧ m = n := by
  rcases h.2 with ⟨e, rfl⟩ | ⟨g, cap, cur, e, _, _, h1, h2, _⟩
  · injection e with e1 e2 e3; subst e2; subst e3; exact ⟨Nat.le_refl _, Nat.zero_le _, rfl⟩
  · injection e with e1 e2 e3; subst e2; subst e3; exact ⟨h1, h2, rfl⟩
theorem StI.put {V W w' : World} {b : Nat} {v v' : Value} {L L' : List Sa} {o : Obj} (h : StI V b W v L) (hg : (W.alloc o).grownBy w' v.ownBlock) (hn : w'.ownsRow (b + 2) 59 5 v' L'.length ((L'.map Sa.cells).flatten)) : StI V b (w'.setCell ⟨b + 1, 2, none⟩ v') v' L' := by
  have hs := h.size
  have hr := fun k (e : v.ownBlock = some k) => (h.own.lt k e).1
  have hsz : W.heap.size + 1 ≤ w'.heap.size := by have := hg.size; simpa using this
  have hb := fun k (hk : k < b + 2) => (hg.block k (by simp; omega) (fun e => by have := hr k e.symm; omega)).trans (Below.heap_alloc W o k (by omega))
  refine ⟨((h.below.alloc (by omega) o).grown hg (by simp; omega) (fun k e => by have := hr k e; omega)).setCell (by show b ≤ b + 1; omega) _, by simp; omega, ?_, ?_, ownsRow_setCell_below hn (by show b + 1 < b + 2; omega) _⟩
  · exact (Below.heap_setCell _ _ _ _ (by show b ≠ b + 1; omega)).trans ((hb b (by omega)).trans h.rbox)
  · rw [heap_setCell_same w' (b + 1) 2 _ _ _ ((hb (b + 1) (by omega)).trans h.pbox)]
    rfl
/-- The states behind k rounds. -/
def stsK (l : List ByteArray) (k : Nat) : List Sa := (List.range k).map fun i => stS (l.getD (2 * i) ⟨#[]⟩) (l.getD (2 * i + 1) ⟨#[]⟩)
theorem stsK_len (l : List ByteArray) (k : Nat) : (stsK l k).length = k := by simp [stsK]
theorem stsK_next (l : List ByteArray) (k : Nat) : stsK l (k + 1) = stsK l k ++ [stS (l.getD (2 * k) ⟨#[]⟩) (l.getD (2 * k + 1) ⟨#[]⟩)] := by simp [stsK, List.range_succ]
theorem stsK_all : ∀ (n : Nat) (l : List ByteArray), l.length ≤ 2 * n + 1 → 2 * n ≤ l.length → stsK l n = statesF l
  | 0, l, h, _ => by
    match l, h with
    | [], _ => rfl
    | [_], _ => rfl
  | n + 1, l, h, h2 => by
    match l, h, h2 with
    | a :: c :: l, h, h2 =>
      simp only [List.length_cons] at h h2
      have := stsK_all n l (by omega) (by omega)
      rw [statesF, ← this]
      unfold stsK
      rw [List.range_succ_eq_map, List.map_cons, List.map_map]
      rfl
theorem StI.box {V W w' : World} {b : Nat} {v : Value} {L : List Sa} {o : Obj} (h : StI V b W v L) (hg : (W.alloc o).grownBy w' v.ownBlock) : w'.heap[b + 1]? = some (.cells (zeroP v) 30 (0, 0)) := by
  have hs := h.size
  exact (hg.block (b + 1) (by simp; omega) (not_own h.own (by omega)).symm).trans ((Below.heap_alloc W o (b + 1) (by omega)).trans h.pbox)
/-- The result's box, being filled. -/
structure EndI (V : World) (b : Nat) (X : World) (cs : Array Value) (v : Value) (L : List Sa) : Prop where
  heap : X.heap[b]? = some (.cells cs 30 (0, 0))
  own : X.ownsRow (b + 2) 59 5 v L.length ((L.map Sa.cells).flatten)
  below : Below b V X
theorem EndI.set {V : World} {b : Nat} {X : World} {cs : Array Value} {v : Value} {L : List Sa} (h : EndI V b X cs v L) (i : Nat) (u : Value) (cs' : Array Value) (e : cs.setIfInBounds i u = cs') : EndI V b (X.setCell ⟨b, i, none⟩ u) cs' v L :=
  ⟨by rw [heap_setCell_same X b i cs _ u h.heap, e], ownsRow_setCell_below h.own (show b < b + 2 by omega) u, h.below.setCell (show b ≤ b from Nat.le_refl b) u⟩
theorem EndI.row {V : World} {b : Nat} {X : World} {cs : Array Value} {vp : Option Addr} {n vc : Nat} {L : List Sa} (h : EndI V b X cs (.slice vp n vc) L) : RowAt X 5 Sa.cells vp L := by
  obtain ⟨p, c, e, hr⟩ := sts_row h.own
  injection e with e1 _ _
  rw [e1]
  exact hr
theorem st_end {V W : World} {b : Nat} {vp : Option Addr} {n vc : Nat} {L : List Sa} (h : StI V b W (.slice vp n vc) L) :
    EndI V b (((((((W.setCell ⟨b, 0, none⟩ (.slice none 0 0)).setCell ⟨b, 1, none⟩ (.slice none 0 0)).setCell ⟨b, 2, none⟩ (.slice vp n vc)).setCell ⟨b, 3, none⟩ (.slice none 0 0)).setCell ⟨b, 4, none⟩ (.slice none 0 0)).setCell ⟨b, 5, none⟩ (.slice none 0 0)).setCell ⟨b, 6, none⟩ (.slice none 0 0)) (zeroP (.slice vp n vc)) (.slice vp n vc) L := by
  have h0 : EndI V b W (zeroP (.slice none 0 0)) (.slice vp n vc) L := ⟨h.rbox, h.own, h.below⟩
  have h1 := h0.set 0 (.slice none 0 0) (zeroP (.slice none 0 0)) rfl
  have h2 := h1.set 1 (.slice none 0 0) (zeroP (.slice none 0 0)) rfl
  have h3 := h2.set 2 (.slice vp n vc) (zeroP (.slice vp n vc)) rfl
  have h4 := h3.set 3 (.slice none 0 0) (zeroP (.slice vp n vc)) rfl
  have h5 := h4.set 4 (.slice none 0 0) (zeroP (.slice vp n vc)) rfl
  have h6 := h5.set 5 (.slice none 0 0) (zeroP (.slice vp n vc)) rfl
  exact h6.set 6 (.slice none 0 0) (zeroP (.slice vp n vc)) rfl
theorem own_snoc {w : World} {base vn : Nat} {v : Value} {L : List Sa} {x : Sa} (hn : L.length = vn) (h : w.ownsRow base 59 5 v (vn + 1) ((L.map Sa.cells).flatten ++ x.cells)) : w.ownsRow base 59 5 v (L ++ [x]).length (((L ++ [x]).map Sa.cells).flatten) := by
  rw [List.length_append, List.map_append, List.flatten_append, hn]
  simpa using h
theorem st_start (V : World) : ∃ W, (V.alloc (.cells (zeroP (.slice none 0 0)) 30)).alloc (.cells (zeroP (.slice none 0 0)) 30) = W ∧ StI V V.heap.size W (.slice none 0 0) [] := by
  have s1 : (V.alloc (.cells (zeroP (.slice none 0 0)) 30)).heap.size = V.heap.size + 1 := by simp
  refine ⟨_, rfl, ((Below.refl _ V).alloc (Nat.le_refl _) _).alloc (by omega) _, by rw [size_alloc2]; exact Nat.le_refl _, ?_, ?_, World.ownsRow_nil _ _ _ _⟩
  · rw [Below.heap_alloc _ _ _ (by omega)]; exact heap_alloc_new V _
  · rw [← s1]; exact heap_alloc_new _ _
set_option maxRecDepth 100000 in
set_option maxHeartbeats 16000000 in
theorem states_in (V : World) (sp : Option Addr) (sc : Nat) (l : List ByteArray) (hrow : RowAt V 1 strCells sp l) (hl : l.length ≤ 1000) :
    Calls Try.prog 12 #[.slice sp l.length sc] V fun e W => ∃ p c, e = .returned (.agg (zeroP (.slice p (statesF l).length c))) ∧ RowAt W 5 Sa.cells p (statesF l) ∧ (statesF l).length ≤ c ∧ c ≤ maxLen ∧ Below V.heap.size V W := by
  obtain ⟨m, hm⟩ : ∃ m, l.length = m := ⟨_, rfl⟩
  obtain ⟨b, hb⟩ : ∃ b, V.heap.size = b := ⟨_, rfl⟩
  rw [hm] at hl ⊢
  have hm' := Lib.hid hm
  have hb' := Lib.hid hb
  have hl' := Lib.hid hl
  have hrow' := Lib.hid hrow
  clear hm hb hl hrow
  go_enter Try.func12, Try.ntmps12
  go_wp2_with fail
  obtain ⟨W, hW, hI⟩ := st_start V
  rw [hW]
  rw [hb'.out] at hI ⊢
  have hI' := Lib.hid hI
  clear hW hI
  go_loopw [4] (fun iv wr => ∃ i k : Nat, Hid (i = 2 * k ∧ i ≤ m) ∧ iv = .int .i64 (i : Int) ∧ ∃ v, Hid (StI V b wr v (stsK l k))) (fun iv _ => m - (intOf iv).toNat)
  case atStart => exact ⟨0, 0, Lib.hid ⟨rfl, Nat.zero_le _⟩, rfl, _, hI'⟩
  case round =>
    obtain ⟨i, k, hik, rfl, v, hK⟩ := hrel
    have w1 : wrap64 ((i : Int) + 1) = ((i + 1 : Nat) : Int) := by
      have := hik.out.2
      have := hl'.out
      rw [wr_in _ (by omega)]
      rfl
    by_cases hlt : i + 1 < m
    · obtain ⟨x, hx⟩ : ∃ x, l[i]? = some x := ⟨l[i]'(by rw [hm'.out]; omega), List.getElem?_eq_getElem _⟩
      obtain ⟨y, hy⟩ : ∃ y, l[i + 1]? = some y := ⟨l[i + 1]'(by rw [hm'.out]; omega), List.getElem?_eq_getElem _⟩
      obtain ⟨pa, rfl, hc⟩ := hrow'.out i x hx
      obtain ⟨pb, hpb, hd⟩ := hrow'.out (i + 1) y hy
      obtain rfl : pa = pb := by simpa using hpb
      rw [Nat.mul_one] at hc hd
      obtain ⟨zz, hzz⟩ := plus_of_below (by rw [hb'.out]; exact hK.out.below : Below V.heap.size V wr)
      have hc := cells_up hzz hc
      have hd := cells_up hzz hd
      obtain ⟨vp, vc, rfl, _⟩ := sts_row hK.out.own
      have hsl := stsK_len l k
      obtain ⟨vn, hvn⟩ : ∃ vn, (stsK l k).length = vn := ⟨_, rfl⟩
      rw [hvn] at hK
      have d0 := hc.c0 _ rfl
      have e0 : wr.cell? ⟨pa.block, pa.off + (i + 1), none⟩ = some (.string y) := hd.c0 _ rfl
      have f0 : wr.cell? ⟨b + 1, 2, none⟩ = some (.slice vp vn vc) := cell_heap hK.out.pbox 2 _ rfl
      have d1 := fun o => cell_alloc d0 o
      have e1 := fun o => cell_alloc e0 o
      have f1 := fun o => cell_alloc f0 o
      have hnext : Hid (stsK l (k + 1) = stsK l k ++ [stS x y]) := Lib.hid (by
        rw [stsK_next, ← hik.out.1, List.getD_eq_getElem?_getD, List.getD_eq_getElem?_getD, hx, hy]; rfl)
      have hvn' := Lib.hid hvn
      have a7 : Hid (wrap64 ((i : Int) + 2) = ((i + 2 : Nat) : Int)) := Lib.hid (by have := hl'.out; rw [wr_in _ (by omega)]; rfl)
      have hvb : Hid (vn ≤ 1000) := Lib.hid (by have := hl'.out; have := hik.out.1; omega)
      have hl1 : (i : Int) + 1 < (m : Int) := by omega
      have hl2 : i < m := by omega
      clear hx hy hpb hc hd hzz hsl hvn
      have hD := Lib.hid hK.out.drew
      have hown : Hid (∀ o, (wr.drew.alloc o).ownsRow (b + 2) 59 5 (.slice vp vn vc) vn (((stsK l k).map Sa.cells).flatten)) := Lib.hid fun o => by
        have := own_up hD.out.own ((Below.refl _ _).alloc (Nat.le_refl _) o)
        rwa [hvn'.out] at this
      obtain ⟨i0, hi0, hi1, hi2, hi3⟩ := info_parts state_info
      have hi0' := Lib.hid hi0
      have hi' := Lib.hid (And.intro hi1 (And.intro hi2 hi3))
      clear hi0 hi1 hi2 hi3
      go_wp2_with fail
      clear w1
      have k1 : IntKind.i64.wrap ((i : Int) + 1) = (i : Int) + 1 := by have := hl'.out; rw [IntKind.wrap_i64]; omega
      have k2 : (0 : Int) ≤ (i : Int) + 1 := by omega
      have k3 : ((i : Int) + 1).toNat = i + 1 := by omega
      go_region_law (go_loud (refine step_append_lies _ rfl (.tmp 13) (.tmp 24) 24 rfl (b + 2) 59 i0 _ 5 104 Try.underlying24 hi0'.out hi'.out.1 hi'.out.2.1 hi'.out.2.2 rfl (by decide) (.slice vp vn vc) vn _ (by simp [Act.eval]) (hown.out (.cells #[.string x, .slice none 0 0, .string y, .slice none 0 0, .slice none 0 0] 59)) ⟨wr.heap.size, 0, none⟩ 1 1 (stS x y).cells (by simp [Act.eval]) rfl (World.news_of_block (heap_alloc_new _ _)) (sa_cells_one _) (by decide) (by have := hvb.out; simp only [maxLen]; omega) (by have := hvb.out; omega) (by have := hD.out.size; simp at this ⊢; omega) _ rfl ?_; intro g cap w' h2 h3 _ _; have g1 := hD.out.box h3; have g2 := cell_heap g1 2 _ rfl; have g3 := frozen_of_row w' (b + 1) 2 _ _ g1; have h2' := Lib.hid h2; have h3' := Lib.hid h3; clear h2 h3 g1))
      all_goals
        clear k1 k2 k3
        go_wp2
        go_roundw
        case rel =>
          refine ⟨i + 2, k + 1, Lib.hid ⟨by have := hik.out.1; omega, by omega⟩, congrArg (Value.int .i64) a7.out, .slice (some ⟨g, 0, none⟩) (vn + 1) cap, Lib.hid ?_⟩
          rw [hnext.out]
          exact hD.out.put h3'.out (own_snoc hvn'.out h2'.out)
        case measure =>
          rw [a7.out]
          simp only [intOf, Int.toNat_natCast]
          omega
    · obtain ⟨vp, vc, rfl, hr⟩ := sts_row hK.out.own
      have hlast : Hid (stsK l k = statesF l) := Lib.hid (stsK_all k l (by have := hik.out; rw [hm'.out]; omega) (by have := hik.out; rw [hm'.out]; omega))
      rw [hlast.out] at hK hr
      have hc := own_cap hK.out.own
      have p0 := cell_heap hK.out.pbox 0 (.slice none 0 0) rfl
      have p1 := cell_heap hK.out.pbox 1 (.slice none 0 0) rfl
      have p2 : wr.cell? ⟨b + 1, 2, none⟩ = some (.slice vp (statesF l).length vc) := cell_heap hK.out.pbox 2 _ rfl
      have p3 := cell_heap hK.out.pbox 3 (.slice none 0 0) rfl
      have p4 := cell_heap hK.out.pbox 4 (.slice none 0 0) rfl
      have p5 := cell_heap hK.out.pbox 5 (.slice none 0 0) rfl
      have p6 := cell_heap hK.out.pbox 6 (.slice none 0 0) rfl
      have r0 := cell_heap hK.out.rbox 0 (.slice none 0 0) rfl
      have r1 := cell_heap hK.out.rbox 1 (.slice none 0 0) rfl
      have r2 := cell_heap hK.out.rbox 2 (.slice none 0 0) rfl
      have r3 := cell_heap hK.out.rbox 3 (.slice none 0 0) rfl
      have r4 := cell_heap hK.out.rbox 4 (.slice none 0 0) rfl
      have r5 := cell_heap hK.out.rbox 5 (.slice none 0 0) rfl
      have r6 := cell_heap hK.out.rbox 6 (.slice none 0 0) rfl
      have rf := fun j => frozen_of_row wr b j _ _ hK.out.rbox
      have hl1 : ¬ ((i : Int) + 1 < (m : Int)) := by omega
      have hr' := Lib.hid hr
      have hc' := Lib.hid hc
      clear hr hc hlt
      go_wp2
      have hE := st_end hK.out
      obtain ⟨X, hX⟩ : ∃ X, (((((((wr.setCell ⟨b, 0, none⟩ (.slice none 0 0)).setCell ⟨b, 1, none⟩ (.slice none 0 0)).setCell ⟨b, 2, none⟩ (.slice vp (statesF l).length vc)).setCell ⟨b, 3, none⟩ (.slice none 0 0)).setCell ⟨b, 4, none⟩ (.slice none 0 0)).setCell ⟨b, 5, none⟩ (.slice none 0 0)).setCell ⟨b, 6, none⟩ (.slice none 0 0)) = X := ⟨_, rfl⟩
      rw [hX] at hE ⊢
      clear hX
      have hcell : ∀ j u, (zeroP (.slice vp (statesF l).length vc))[j]? = some u → X.cell? ⟨b, j, none⟩ = some u := fun j u hu => cell_heap hE.heap j u hu
      have x0 := hcell 0 _ rfl
      have x1 := hcell 1 _ rfl
      have x2 := hcell 2 _ rfl
      have x3 := hcell 3 _ rfl
      have x4 := hcell 4 _ rfl
      have x5 := hcell 5 _ rfl
      have x6 := hcell 6 _ rfl
      refine bodyPost_ret (v := .agg (zeroP (.slice vp (statesF l).length vc))) (by simp [results, Try.results12, go_sem, x0, x1, x2, x3, x4, x5, x6]) rfl ?_
      exact ⟨vp, vc, rfl, hE.row, hc'.out.1, hc'.out.2.1, by rw [hb'.out]; exact hE.below⟩
end Go.Proofs.Ytplkiadkkefppaa
