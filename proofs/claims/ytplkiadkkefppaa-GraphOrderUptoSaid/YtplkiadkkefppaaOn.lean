/-
  WHAT IS PROVED HERE: the page's examples of layer 9 ('known'): true, in whatever world; Check of a program with a cycle.
-/
import Derived.Test.YtplkiadkkefppaaRows
import Derived.Test.YtplkiadkkefppaaOm
import Derived.Test.YtplkiadkkefppaaHP
namespace Go.Proofs.Ytplkiadkkefppaa
open Go.RowKit
theorem alloc_row {α : Type} (W : World) (C : Nat) (f : α → List Value) (l : List α) (cs : Array Value) (t : TypeId) (hcs : cs.toList = (l.map f).flatten) (hC : ∀ y ∈ l, (f y).length = C) : RowAt (W.alloc (.cells cs t)) C f (some ⟨W.heap.size, 0, none⟩) l := by
  intro i x hx
  refine ⟨_, rfl, fun j u hu => ?_⟩
  have hj : j < C := by have := (List.getElem?_eq_some_iff.1 hu).1; rw [hC x (List.mem_of_getElem? hx)] at this; exact this
  rw [Addr.add_lit, Addr.add_lit, Nat.zero_add]
  refine (cell_new W cs t _ _ rfl).trans ?_
  rw [← Array.getElem?_toList, hcs, flat_at f C l i j x hC hx hj, hu]
theorem sl_none {α : Type} (W : World) (C : Nat) (cells : α → List Value) (K : α → Prop) : Sl.In W C cells K ⟨none, 0, []⟩ :=
  ⟨Nat.le_refl _, Nat.zero_le _, fun i x h => by simp at h, fun x h => by cases h⟩
/-- A program of states alone. -/
def prQ (p : Option Addr) (c : Nat) (L : List Sa) : Pr := { headers := ⟨none, 0, []⟩, metas := ⟨none, 0, []⟩, states := ⟨p, c, L⟩, actions := ⟨none, 0, []⟩, tables := ⟨none, 0, []⟩, control := ⟨none, 0, []⟩, emit := ⟨none, 0, []⟩ }
theorem stS_in (W : World) (a b : ByteArray) (ha : a.size ≤ 100) (hb : b.size ≤ 100) : (stS a b).In W := ⟨by show a.size ≤ maxLen; simp only [maxLen]; omega, sl_none _ _ _ _, by show b.size ≤ maxLen; simp only [maxLen]; omega, sl_none _ _ _ _, sl_none _ _ _ _⟩
theorem prQ_in {W : World} {p : Option Addr} {c : Nat} {L : List Sa} (hr : RowAt W 5 Sa.cells p L) (h1 : L.length ≤ c) (h2 : c ≤ maxLen) (hk : ∀ x ∈ L, x.In W) : (prQ p c L).In W :=
  ⟨sl_none _ _ _ _, sl_none _ _ _ _, ⟨h1, h2, hr, hk⟩, sl_none _ _ _ _, sl_none _ _ _ _, sl_none _ _ _ _, sl_none _ _ _ _⟩
def tA : ByteArray := ⟨#[97]⟩
def tB : ByteArray := ⟨#[98]⟩
def tC : ByteArray := ⟨#[99]⟩
def tX : ByteArray := ⟨#[97, 99, 99, 101, 112, 116]⟩
def l6 : List ByteArray := [tA, tB, tB, tX, tC, tA]
def l4 : List ByteArray := [tA, tB, tB, tA]
theorem sz6 (p : Option Addr) (c : Nat) : (prQ p c (statesF l6)).sz = 14 := rfl
theorem sz4 (p : Option Addr) (c : Nat) : (prQ p c (statesF l4)).sz = 6 := rfl
theorem ex_order : orderF (edgesF (statesF l6)) = some [2, 0, 1] := by kernel_rfl
theorem ex_reached : reachedF (statesF l6) = [true, true, false] := by kernel_rfl
theorem ex_cycle : cycleF (edgesF (statesF l4)) = some 0 := by kernel_rfl
theorem kids6 (W : World) : ∀ x ∈ statesF l6, x.In W := by
  intro x hx
  simp only [l6, statesF, List.mem_cons, List.not_mem_nil, or_false] at hx
  rcases hx with rfl | rfl | rfl <;> exact stS_in _ _ _ (by decide) (by decide)
theorem kids4 (W : World) : ∀ x ∈ statesF l4, x.In W := by
  intro x hx
  simp only [l4, statesF, List.mem_cons, List.not_mem_nil, or_false] at hx
  rcases hx with rfl | rfl <;> exact stS_in _ _ _ (by decide) (by decide)
/-- What is ahead of a state. -/
def aheadP (p : Pr) (n : Nat) : Pr := { headers := p.headers, metas := p.metas, states := ⟨p.states.p, p.states.cap, p.states.l.take n⟩, actions := ⟨none, 0, []⟩, tables := ⟨none, 0, []⟩, control := ⟨none, 0, []⟩, emit := ⟨none, 0, []⟩ }
theorem ahead_in {p : Pr} {W : World} (h : p.In W) (n : Nat) : (aheadP p n).In W := by
  refine ⟨h.headers, h.metas, ⟨?_, h.states.cap, fun i x hx => ?_, fun x hx => h.states.kids x (List.mem_of_mem_take hx)⟩, sl_none _ _ _ _, sl_none _ _ _ _, sl_none _ _ _ _, sl_none _ _ _ _⟩
  · have := h.states.len
    simp only [aheadP, List.length_take]
    omega
  · have hx2 : p.states.l[i]? = some x := by
      simp only [aheadP] at hx
      rw [List.getElem?_take] at hx
      split at hx
      · exact hx
      · cases hx
    exact h.states.row i x hx2
theorem ahead_sz {p : Pr} (hz : p.sz ≤ 1048576) (n : Nat) : (aheadP p n).sz ≤ 1048576 := by
  have h2 : p.sz = p.headers.size Hr.sz + p.metas.size Fd.sz + p.states.size Sa.sz + p.actions.size Ac.sz + p.tables.size Ta.sz + p.control.size St.sz + p.emit.size strSize := rfl
  have h3 : (aheadP p n).sz = p.headers.size Hr.sz + p.metas.size Fd.sz + ((p.states.l.take n).map Sa.sz).sum + 0 + 0 + 0 + 0 := rfl
  have h4 : p.states.size Sa.sz = (p.states.l.map Sa.sz).sum := rfl
  have h5 := sum_take_le Sa.sz p.states.l n
  omega
set_option maxRecDepth 100000 in
set_option maxHeartbeats 8000000 in
theorem check_cyc (p : Pr) (V : World) (hin : p.In V) (hz : p.sz ≤ 1048576) (n : Nat) (hc : cycleF (edgesF p.states.l) = some n) :
    Calls Try.prog 13 #[prV p] V fun e W => e = .returned (.tuple #[.int .i64 (prI (aheadP p n) : Int), .int .i64 11]) ∧ Below V.heap.size V W := by
  have hC : ∀ W, (∃ z, W = plus V z) → Calls Try.prog 7 #[prV p] W fun e U => e = .returned (.tuple #[.int .i64 (n : Int), .bool true]) ∧ Below W.heap.size W U := fun W ⟨z, h⟩ => by
    have := cycle_call p W (h ▸ hin.plus z) hz
    rw [cycN, hc] at this
    exact this
  have hI : Kp Try.prog V 28 #[.agg (aheadP p n).cells.toArray] (.int .i64 (prI (aheadP p n) : Int)) := ast_items (aheadP p n) V (ahead_in hin n) (ahead_sz hz n)
  have hnl : n < p.states.l.length := by
    unfold cycleF at hc
    have := List.mem_of_find?_eq_some hc
    rw [edges_len] at this
    simpa using this
  have hcap := hin.states.len
  obtain ⟨T, hT⟩ : ∃ T, (prI (aheadP p n) : Int) = T := ⟨_, rfl⟩
  rw [hT] at hI ⊢
  have hcells : (aheadP p n).cells.toArray = #[.slice p.headers.p p.headers.l.length p.headers.cap, .slice p.metas.p p.metas.l.length p.metas.cap, .slice p.states.p n p.states.cap, .slice none 0 0, .slice none 0 0, .slice none 0 0, .slice none 0 0] := by
    simp only [aheadP, Pr.cells, Sl.v, List.length_take, Nat.min_eq_left (Nat.le_of_lt hnl), List.length_nil]
  rw [hcells] at hI
  obtain ⟨N, hN⟩ : ∃ N, p.states.l.length = N := ⟨_, rfl⟩
  simp only [prV] at hC ⊢
  rw [hN] at hnl hcap
  simp only [hN] at hC ⊢
  obtain ⟨sp, hsp⟩ : ∃ sp, p.states.p = some sp := by
    obtain ⟨x, hx⟩ : ∃ x, p.states.l[0]? = some x := ⟨_, List.getElem?_eq_getElem (by omega)⟩
    obtain ⟨a, ha, _⟩ := hin.states.row 0 x hx
    exact ⟨a, ha⟩
  simp only [hsp] at hC hI ⊢
  obtain ⟨spb, spo, sps⟩ := sp
  have hC' := Lib.hid hC
  have hI' := Lib.hid hI
  clear hC hI hin hz hc hT hcells hN hsp
  go_enter Try.func13, Try.ntmps13
  go_wp2_with fail
  refine (hC'.out _ (alloc1_plus V _)).mono ?_
  rintro e U ⟨rfl, hB⟩
  obtain ⟨b, hb⟩ : ∃ b, V.heap.size = b := ⟨_, rfl⟩
  have hbx := (hB.block b (by simp; omega)).trans (show (V.alloc _).heap[b]? = some _ by rw [← hb]; exact heap_alloc_new V _)
  have c0 : U.cell? ⟨b, 0, none⟩ = some (.slice p.headers.p p.headers.l.length p.headers.cap) := cell_heap hbx 0 _ rfl
  have c1 : U.cell? ⟨b, 1, none⟩ = some (.slice p.metas.p p.metas.l.length p.metas.cap) := cell_heap hbx 1 _ rfl
  have c2 : U.cell? ⟨b, 2, none⟩ = some (.slice (some ⟨spb, spo, sps⟩) N p.states.cap) := cell_heap hbx 2 _ rfl
  have d0 := fun o => cell_alloc c0 o
  have d1 := fun o => cell_alloc c1 o
  have d2 := fun o => cell_alloc c2 o
  simp only [hb] at hbx ⊢
  have hBV : Below b V U := hb ▸ ((Below.refl _ V).alloc (Nat.le_refl _) _).trans (hB.mono (by simp))
  have hBV' := Lib.hid hBV
  have hb' := Lib.hid hb
  have hcap2 : n ≤ p.states.cap := by omega
  clear hC' hbx hB hBV hb
  go_wp2_with fail
  go_region
  all_goals
    go_wp2_with fail
    obtain ⟨zz, hzz⟩ := plus_of_below (show Below V.heap.size V ((U.alloc (.cells #[.slice p.headers.p p.headers.l.length p.headers.cap, .slice p.metas.p p.metas.l.length p.metas.cap, .slice (some ⟨spb, spo, sps⟩) n p.states.cap, .slice none 0 0, .slice none 0 0, .slice none 0 0, .slice none 0 0] 30)).drew) by rw [hb'.out]; exact (hBV'.out.alloc (by have := hBV'.out.size; have := hb'.out; omega) _).drew)
    have q := hI'.out zz
    rw [← hzz] at q
    clear hI'
    refine q.mono ?_
    rintro e X ⟨rfl, x, hX⟩
    have hXB : Below V.heap.size V X := by
      rw [hX, hzz, plus_plus]
      exact below_plus _ _
    have hXB' := Lib.hid hXB
    clear q hX hXB hzz
    go_wp2
    go_ret2
    exact ⟨rfl, hXB'.out⟩
/-- A call of states, with what it makes as a program. -/
theorem states_call (W : World) (l : List ByteArray) (cs : Array Value) (t : TypeId) (n : Nat) (hn : l.length = n) (hcs : cs.toList = (l.map strCells).flatten) (hl : l.length ≤ 1000) (hk : ∀ W, ∀ x ∈ statesF l, x.In W) :
    Calls Try.prog 12 #[.slice (some ⟨W.heap.size, 0, none⟩) n n] (W.alloc (.cells cs t)) fun e U => ∃ p c, e = .returned (prV (prQ p c (statesF l))) ∧ (prQ p c (statesF l)).In U ∧ Below W.heap.size W U := by
  have := states_in (W.alloc (.cells cs t)) (some ⟨W.heap.size, 0, none⟩) n l (alloc_row W 1 strCells l cs t hcs (fun _ _ => rfl)) hl
  rw [hn] at this
  refine this.mono ?_
  rintro e U ⟨p, c, rfl, hr, h1, h2, hB⟩
  exact ⟨p, c, rfl, prQ_in hr h1 h2 (hk U), ((Below.refl _ W).alloc (Nat.le_refl _) _).trans (hB.mono (by simp))⟩
set_option maxRecDepth 100000 in
set_option maxHeartbeats 8000000 in
theorem law_known9 (V : World) : Calls Try.prog 5 #[] V fun e w' => e = .returned (.bool true) ∧ Below V.heap.size V w' := by
  go_enter Try.func5, Try.ntmps5
  go_wp2_with fail
  refine (states_call V l6 _ _ 6 rfl rfl (by decide) kids6).mono ?_
  rintro e U1 ⟨p1, c1, rfl, hin1, hB1⟩
  have hin1' := Lib.hid hin1
  have hB1' := Lib.hid hB1
  clear hin1 hB1
  go_wp2_with fail
  have q1 := order_call (prQ p1 c1 (statesF l6)) U1 hin1'.out (by rw [sz6]; decide)
  rw [show (prQ p1 c1 (statesF l6)).states.l = statesF l6 from rfl, ex_order] at q1
  refine q1.mono ?_
  rintro e U2 ⟨⟨v, rfl, hv⟩, hB2⟩
  obtain ⟨ap, ac, rfl, hr2⟩ := nats_row hv
  have hB2' := Lib.hid (hB1'.out.trans (hB2.mono hB1'.out.size))
  have hr2' := Lib.hid hr2
  clear q1 hv hB2 hr2 hin1' hB1'
  simp only [List.length_cons, List.length_nil, Nat.zero_add, Nat.reduceAdd]
  go_wp2_with fail
  refine (states_call U2 l4 _ _ 4 rfl rfl (by decide) kids4).mono ?_
  rintro e U3 ⟨p3, c3, rfl, hin3, hB3⟩
  have q3 := check_cyc (prQ p3 c3 (statesF l4)) U3 hin3 (by rw [sz4]; decide) 0 ex_cycle
  rw [show (prI (aheadP (prQ p3 c3 (statesF l4)) 0) : Int) = 0 from rfl] at q3
  have q3' := Lib.hid q3
  have hB3' := Lib.hid hB3
  clear q3 hin3 hB3
  go_wp2_with fail
  refine q3'.out.mono ?_
  rintro e U4 ⟨rfl, hB4⟩
  have hB24 := Lib.hid (hB3'.out.trans (hB4.mono hB3'.out.size))
  clear q3' hB4 hB3'
  go_wp2_with fail
  obtain ⟨zz, hzz⟩ := plus_of_below (hB24.out.trans (((Below.refl _ U4).alloc (Nat.le_refl _) (.cells #[.int .i64 2, .int .i64 0, .int .i64 1] 3)).mono hB24.out.size))
  have q5 := calls_self (ints_equal ap (some ⟨U4.heap.size, 0, none⟩) ac 3 [2, 0, 1] [2, 0, 1] (U4.alloc (.cells #[.int .i64 2, .int .i64 0, .int .i64 1] 3)) (hzz ▸ hr2'.out.plus zz) (alloc_row U4 1 natC [2, 0, 1] _ _ rfl (fun _ _ => rfl)) (by decide))
  simp only [List.length_cons, List.length_nil, Nat.zero_add, Nat.reduceAdd] at q5
  refine q5.mono ?_
  rintro e U5 ⟨rfl, x5, h5⟩
  have hB5 : Below V.heap.size V U5 := by
    have h := hB2'.out.trans (hB24.out.mono hB2'.out.size)
    rw [h5]
    exact (h.alloc h.size _).trans ((below_plus _ _).mono (by have := h.size; simp; omega))
  have hB5' := Lib.hid hB5
  clear q5 h5 hB5 hzz hr2' hB24 hB2'
  go_wp2_with fail
  refine (states_call U5 l6 _ _ 6 rfl rfl (by decide) kids6).mono ?_
  rintro e U6 ⟨p6, c6, rfl, hin6, hB6⟩
  have q6 := reached_call (prQ p6 c6 (statesF l6)) U6 hin6 (by rw [sz6]; decide)
  rw [show (prQ p6 c6 (statesF l6)).states.l = statesF l6 from rfl, ex_reached] at q6
  have q6' := Lib.hid q6
  have hB6' := Lib.hid (hB5'.out.trans (hB6.mono hB5'.out.size))
  clear q6 hin6 hB6 hB5'
  go_wp2_with fail
  refine q6'.out.mono ?_
  rintro e U7 ⟨v, rfl, ⟨bp, bc, rfl, hr7⟩, -, hB7⟩
  have hB7' := Lib.hid (hB6'.out.trans (hB7.mono hB6'.out.size))
  have hr7' := Lib.hid hr7
  clear q6' hr7 hB7 hB6'
  simp only [List.length_cons, List.length_nil, Nat.zero_add, Nat.reduceAdd]
  go_wp2_with fail
  obtain ⟨zz, hzz⟩ := plus_of_below ((Below.refl _ U7).alloc (Nat.le_refl _) (.cells #[.bool true, .bool true, .bool false] 4))
  have q8 := calls_self (bits_equal bp (some ⟨U7.heap.size, 0, none⟩) bc 3 [true, true, false] [true, true, false] (U7.alloc (.cells #[.bool true, .bool true, .bool false] 4)) (hzz ▸ hr7'.out.plus zz) (alloc_row U7 1 bitC [true, true, false] _ _ rfl (fun _ _ => rfl)) (by decide))
  simp only [List.length_cons, List.length_nil, Nat.zero_add, Nat.reduceAdd] at q8
  refine q8.mono ?_
  rintro e U8 ⟨rfl, x8, h8⟩
  have hB8 : Below V.heap.size V U8 := by
    rw [h8]
    exact (hB7'.out.alloc hB7'.out.size _).trans ((below_plus _ _).mono (by have := hB7'.out.size; simp; omega))
  have hB8' := Lib.hid hB8
  clear q8 h8 hB8 hzz hr7' hB7'
  go_wp2
  go_ret
  exact ⟨rfl, hB8'.out⟩
end Go.Proofs.Ytplkiadkkefppaa
