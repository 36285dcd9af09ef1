/-
  WHAT IS PROVED HERE: what the landed edges hands back, of any program: whom each state goes to, in memory of its own.
-/
import Derived.Test.YtplkiadkkefppaaRows
import Derived.Test.YtplkiadkkefppaaOf
import Derived.Laws.MakeOwn
namespace Go.Proofs.Ytplkiadkkefppaa
open Go.RowKit
def edgesF (sts : List Sa) : List (List Nat) := (List.range sts.length).map (nextF sts)
theorem edges_len (sts : List Sa) : (edgesF sts).length = sts.length := by simp [edgesF]
theorem edges_at (sts : List Sa) (k : Nat) (hk : k < sts.length) : (edgesF sts)[k]? = some (nextF sts k) := by
  unfold edgesF
  rw [List.getElem?_map, List.getElem?_range hk]
  rfl
theorem edges_getD (sts : List Sa) (k : Nat) : (edgesF sts).getD k [] = nextF sts k := by
  rw [List.getD_eq_getElem?_getD]
  by_cases hk : k < sts.length
  · rw [edges_at sts k hk]; rfl
  · rw [List.getElem?_eq_none (by rw [edges_len]; omega)]
    unfold nextF
    rw [List.getElem?_eq_none (by omega)]
    rfl
theorem edges_fits (sts : List Sa) : Fits (edgesF sts) := fun k m hm => by
  rw [edges_getD] at hm
  rw [edges_len]
  exact (next_goes sts k).low m hm
theorem slc_info : (Try.prog.info? 33).map (fun i => (i.zero, i.size, i.bytes)) = some (some (.slice none 0 0), 1, 24) := by kernel_rfl
theorem made_one (z : Value) (n : Nat) (hz : z.cells = #[z]) : madeCells z.cells (n * 1) = Array.replicate n z := by
  unfold madeCells
  rw [hz, Nat.mul_one]
  apply Array.ext
  · simp
  · intro i h1 h2
    simp [Nat.mod_one]
theorem make_slices (n : Nat) (hn : n ≤ 1048576) (w : World) : (Instr.makeSlice 48 (.int .i64 (n : Int)) (.int .i64 (n : Int))).run Try.prog w = .ok (.slice (some ⟨w.heap.size, 0, none⟩) n n) (w.alloc (.cells (Array.replicate n (.slice none 0 0)) 33)) := by
  obtain ⟨i0, hi0, hi1, hi2, hi3⟩ := info_parts slc_info
  have := run_make (P := Try.prog) w 48 33 i0 _ Try.underlying48 hi0 hi1 .i64 .i64 (n : Int) (n : Int) (by omega) (by omega) (by rw [hi3]; omega) (by omega)
  rw [hi2, Int.toNat_natCast, made_one _ _ rfl] at this
  exact this
/-- Block gb tells the rows of a graph. -/
def Gr (W : World) (gb n : Nat) (g : List (List Nat)) : Prop :=
  ∃ vs : Array Value, W.heap[gb]? = some (.cells vs 33 (0, 0)) ∧ vs.size = n ∧ ∀ (i : Nat) (l : List Nat), g[i]? = some l → ∃ x, vs[i]? = some x ∧ Nats W (gb + 1) x l
theorem Gr.lt {W : World} {gb n : Nat} {g : List (List Nat)} (h : Gr W gb n g) : gb < W.heap.size := by
  obtain ⟨vs, h1, _⟩ := h
  exact (Array.getElem?_eq_some_iff.1 h1).1
theorem Gr.up {W W' : World} {gb n : Nat} {g : List (List Nat)} (h : Gr W gb n g) (hB : Below W.heap.size W W') : Gr W' gb n g := by
  have hl := h.lt
  obtain ⟨vs, h1, h2, h3⟩ := h
  refine ⟨vs, (hB.block gb hl).trans h1, h2, fun i l hi => ?_⟩
  obtain ⟨x, hx, ho⟩ := h3 i l hi
  exact ⟨x, hx, own_up ho hB⟩
theorem Gr.cell {W : World} {gb n : Nat} {g : List (List Nat)} (h : Gr W gb n g) (k : Nat) (hk : k < n) : ∃ u, W.cell? ⟨gb, k, none⟩ = some u ∧ W.frozen? ⟨gb, k, none⟩ = false := by
  obtain ⟨vs, h1, h2, _⟩ := h
  exact ⟨vs[k]'(by omega), cell_heap h1 k _ (Array.getElem?_eq_getElem _), frozen_of_row W gb k vs _ h1⟩
theorem Gr.set {W : World} {gb n : Nat} {g : List (List Nat)} (h : Gr W gb n g) {x : Value} {l : List Nat} (hx : Nats W (gb + 1) x l) (hk : g.length < n) : Gr (W.setCell ⟨gb, g.length, none⟩ x) gb n (g ++ [l]) := by
  obtain ⟨vs, h1, h2, h3⟩ := h
  refine ⟨vs.setIfInBounds g.length x, heap_setCell_same W gb g.length vs _ x h1, by simpa using h2, fun i l' hi => ?_⟩
  by_cases e : i < g.length
  · rw [List.getElem?_append_left e] at hi
    obtain ⟨y, hy, ho⟩ := h3 i l' hi
    refine ⟨y, ?_, ownsRow_setCell_below ho (by show gb < gb + 1; omega) x⟩
    rw [Array.getElem?_setIfInBounds_ne (by omega)]
    exact hy
  · rw [List.getElem?_append_right (by omega)] at hi
    have e2 : i = g.length := by
      have := (List.getElem?_eq_some_iff.1 hi).1
      simp at this
      omega
    subst e2
    simp at hi
    subst hi
    refine ⟨x, ?_, ownsRow_setCell_below hx (by show gb < gb + 1; omega) x⟩
    rw [Array.getElem?_setIfInBounds_self_of_lt (by omega)]
/-- A row of the graph, as it is read. -/
theorem Gr.row {W : World} {gb n : Nat} {g : List (List Nat)} (h : Gr W gb n g) {k : Nat} {l : List Nat} (hk : g[k]? = some l) : ∃ p c, W.cell? ⟨gb, k, none⟩ = some (.slice p l.length c) ∧ RowAt W 1 natC p l := by
  obtain ⟨vs, h1, h2, h3⟩ := h
  obtain ⟨x, hx, ho⟩ := h3 k l hk
  obtain ⟨p, c, rfl, hr⟩ := nats_row ho
  exact ⟨p, c, cell_heap h1 k _ hx, hr⟩
/-- While edges goes on. -/
structure EdI (p : Pr) (V : World) (b : Nat) (W : World) (n : Nat) (g : List (List Nat)) : Prop where
  below : Below b V W
  size : b + 2 ≤ W.heap.size
  pbox : ∀ j u, p.cells[j]? = some u → W.cell? ⟨b, j, none⟩ = some u
  gr : Gr W (b + 1) n g
theorem EdI.next {p : Pr} {V W W' : World} {b n : Nat} {g : List (List Nat)} (h : EdI p V b W n g) (hB : Below W.heap.size W W') {x : Value} {l : List Nat} (hx : Nats W' W.heap.size x l) (hk : g.length < n) : EdI p V b (W'.setCell ⟨b + 1, g.length, none⟩ x) n (g ++ [l]) := by
  have hs := h.size
  refine ⟨(h.below.trans (hB.mono (by omega))).setCell (by show b ≤ b + 1; omega) _, by have := hB.size; simp; omega, fun j u hu => ?_, (h.gr.up hB).set (own_mono hx (by omega)) hk⟩
  refine cell_block (h.pbox j u hu) ?_
  rw [Below.heap_setCell _ _ _ _ (by show b ≠ b + 1; omega)]
  exact hB.block b (by omega)
theorem size_alloc2 (V : World) (x y : Obj) : ((V.alloc x).alloc y).heap.size = V.heap.size + 2 := by simp
theorem ed_start (p : Pr) (V : World) (cs : Array Value) (t : TypeId) (n : Nat) (h1 : cs.toList = p.cells) :
    ∃ W, ((V.alloc (.cells cs t)).alloc (.cells (Array.replicate n (.slice none 0 0)) 33)) = W ∧ EdI p V V.heap.size W n [] := by
  have s1 : (V.alloc (.cells cs t)).heap.size = V.heap.size + 1 := by simp
  refine ⟨_, rfl, ((Below.refl _ V).alloc (Nat.le_refl _) _).alloc (by omega) _, by rw [size_alloc2]; omega, fun j u hu => ?_, ⟨Array.replicate n (.slice none 0 0), ?_, by rw [Array.size_replicate], fun i l h => by rw [List.getElem?_nil] at h; cases h⟩⟩
  · exact cell_heap (by rw [Below.heap_alloc _ _ _ (by omega)]; exact heap_alloc_new V _) j u (by rw [← h1] at hu; simpa using hu)
  · rw [← s1]; exact heap_alloc_new _ _
set_option maxRecDepth 100000 in
set_option maxHeartbeats 8000000 in
theorem edges_in (p : Pr) (V : World) (hin : p.In V) (hz : p.sz ≤ 1048576) :
    Calls Try.prog 16 #[prV p] V fun e W => ∃ gb, e = .returned (.slice (some ⟨gb, 0, none⟩) p.states.l.length p.states.l.length) ∧ V.heap.size ≤ gb ∧ Gr W gb p.states.l.length (edgesF p.states.l) ∧ Below V.heap.size V W := by
  have hlen := (pr_len hz).2.2.1
  obtain ⟨b, hb⟩ : ∃ b, V.heap.size = b := ⟨_, rfl⟩
  obtain ⟨n, hn⟩ : ∃ n, p.states.l.length = n := ⟨_, rfl⟩
  rw [hn] at hlen ⊢
  have hmk := make_slices n hlen
  have h1' : Hid ((#[.slice p.headers.p p.headers.l.length p.headers.cap, .slice p.metas.p p.metas.l.length p.metas.cap, .slice p.states.p n p.states.cap, .slice p.actions.p p.actions.l.length p.actions.cap, .slice p.tables.p p.tables.l.length p.tables.cap, .slice p.control.p p.control.l.length p.control.cap, .slice p.emit.p p.emit.l.length p.emit.cap] : Array Value).toList = p.cells) := Lib.hid (by simp [Pr.cells, Sl.v, hn])
  have hin' := Lib.hid hin
  have hz' := Lib.hid hz
  have hb' := Lib.hid hb
  have hn' := Lib.hid hn
  have hlen' := Lib.hid hlen
  simp only [prV]
  rw [hn]
  clear hin hz hb hn hlen
  go_enter Try.func16, Try.ntmps16
  go_wp2_with fail
  obtain ⟨W, hW, hI⟩ := ed_start p V _ 30 n h1'.out
  rw [hW]
  rw [hb'.out] at hI ⊢
  have hI' := Lib.hid hI
  clear hW hI hmk
  go_loopw [4, 11] (fun _ iv wr => ∃ k : Nat, k ≤ n ∧ iv = .int .i64 (k : Int) ∧ Hid (EdI p V b wr n ((edgesF p.states.l).take k))) (fun _ iv _ => n - (intOf iv).toNat)
  case atStart => exact ⟨0, Nat.zero_le _, rfl, hI'⟩
  case round =>
    obtain ⟨k, hk, rfl, hJ⟩ := hrel
    by_cases hlt : k < n
    · have a6 := Lib.hid (wr_succ k n hlt hlen'.out)
      have hp := hJ.out.pbox
      have c0 := hp 0 _ rfl
      have c1 := hp 1 _ rfl
      have c2 := hp 2 _ rfl
      have c3 := hp 3 _ rfl
      have c4 := hp 4 _ rfl
      have c5 := hp 5 _ rfl
      have c6 := hp 6 _ rfl
      simp only [Sl.v] at c0 c1 c2 c3 c4 c5 c6
      rw [hn'.out] at c2
      clear hp
      go_wp2_with fail
      obtain ⟨z, hzz⟩ := plus_of_below (by rw [hb'.out]; exact hJ.out.below : Below V.heap.size V wr)
      have hcall := next_in p wr (hzz ▸ hin'.out.plus z) hz'.out k (by rw [hn'.out]; exact hlt)
      simp only [prV] at hcall
      rw [hn'.out] at hcall
      refine hcall.mono ?_
      rintro e W2 ⟨v, rfl, hv, hB⟩
      obtain ⟨u, hu, hf⟩ := (hJ.out.gr.up hB).cell k hlt
      obtain ⟨ap, an, ac, rfl⟩ := nats_sl hv
      have hv' := Lib.hid hv
      have hB' := Lib.hid hB
      clear hcall hzz hv hB c0 c1 c2 c3 c4 c5 c6
      go_wp2
      go_roundw
      case rel =>
        refine ⟨k + 1, hlt, congrArg (Value.int .i64) a6.out, Lib.hid ?_⟩
        have hlt2 : k < p.states.l.length := by rw [hn'.out]; exact hlt
        have hk2 : ((edgesF p.states.l).take k).length = k := by rw [List.length_take, edges_len]; omega
        have := hJ.out.next hB'.out hv'.out (by rw [hk2]; exact hlt)
        rw [hk2] at this
        rw [List.take_add_one, edges_at _ _ hlt2]
        exact this
      case measure => exact step_less k n hlt a6.out
    · obtain rfl : k = n := by omega
      clear hlt hk
      go_wp2
      go_ret
      refine ⟨b + 1, rfl, by rw [hb'.out]; omega, ?_, by rw [hb'.out]; exact hJ.out.below⟩
      have := hJ.out.gr
      rw [List.take_of_length_le (by rw [edges_len, hn'.out]; exact Nat.le_refl _)] at this
      exact this
end Go.Proofs.Ytplkiadkkefppaa
