/-
  WHAT IS PROVED HERE: GraphOrder's own walk, of any program of bulk at most 1048576.
-/
import Derived.Test.YtplkiadkkefppaaRows
import Derived.Test.YtplkiadkkefppaaOn
namespace Go.Proofs.Ytplkiadkkefppaa
open Go.RowKit
/-- The places, behind i of them. -/
def atW (o : List Nat) (n : Nat) : Nat → List (Option Int)
  | 0 => List.replicate n none
  | i + 1 => (atW o n i).set (o.getD i 0) (some ((i : Int) + 1))
theorem atW_len (o : List Nat) (n : Nat) : ∀ i, (atW o n i).length = n
  | 0 => by simp [atW]
  | i + 1 => by rw [atW, List.length_set, atW_len o n i]
theorem atW_none (o : List Nat) (n s : Nat) : ∀ i, (∀ j, j < i → o.getD j 0 ≠ s) → (atW o n i).getD s none = none
  | 0, _ => by
    rw [List.getD_eq_getElem?_getD, atW, List.getElem?_replicate]
    split <;> rfl
  | i + 1, h => by
    rw [List.getD_eq_getElem?_getD, atW, List.getElem?_set_ne (h i (by omega)), ← List.getD_eq_getElem?_getD]
    exact atW_none o n s i fun j hj => h j (by omega)
theorem atW_some (o : List Nat) (n s k : Nat) (hs : s < n) (hk : o.getD k 0 = s) (hd : ∀ j, o.getD j 0 = s → j < o.length → j = k) : ∀ i, k < i → i ≤ o.length → (atW o n i).getD s none = some ((k : Int) + 1)
  | 0, h, _ => absurd h (by omega)
  | i + 1, h, hl => by
    by_cases e : i = k
    · subst e
      rw [List.getD_eq_getElem?_getD, atW, hk, List.getElem?_set_self (by rw [atW_len]; exact hs)]
      rfl
    · rw [List.getD_eq_getElem?_getD, atW, List.getElem?_set_ne (fun q => e (hd i q (by omega))), ← List.getD_eq_getElem?_getD]
      exact atW_some o n s k hs hk hd i (by omega) (by omega)
theorem nodup_at {o : List Nat} (hd : o.Nodup) {j k : Nat} (hj : j < o.length) (hk : k < o.length) (h : o.getD j 0 = o.getD k 0) : j = k := by
  rw [List.getD_eq_getElem?_getD, List.getD_eq_getElem?_getD, List.getElem?_eq_getElem hj, List.getElem?_eq_getElem hk] at h
  have h2 : o[j] = o[k] := h
  rcases Nat.lt_trichotomy j k with q | q | q
  · exact absurd h2 (List.pairwise_iff_getElem.1 hd j k hj hk q)
  · exact q
  · exact absurd h2.symm (List.pairwise_iff_getElem.1 hd k j hk hj q)
/-- In the order each state is ahead of those it goes to. -/
theorem at_less {g : List (List Nat)} {o : List Nat} (h : IsOrd g o) {s k : Nat} (hs : s < g.length) (hk : k ∈ g.getD s []) (hkn : k < g.length) :
    ∃ a c : Nat, a < c ∧ (atW o g.length g.length).getD s none = some ((a : Int) + 1) ∧ (atW o g.length g.length).getD k none = some ((c : Int) + 1) := by
  obtain ⟨c, hc, ec⟩ := List.mem_iff_getElem.1 (nodup_all h.nodup h.low h.len hkn)
  have h1 := h.ahead c k (by rw [List.getElem?_eq_getElem hc, ec]) s hk
  obtain ⟨a, ha, ea⟩ := List.mem_iff_getElem.1 h1
  have hac : a < c := by simp at ha; omega
  have ea2 : o[a]'(by omega) = s := by rw [← ea]; simp
  have gd : ∀ i (hi : i < o.length), o.getD i 0 = o[i] := fun i hi => by rw [List.getD_eq_getElem?_getD, List.getElem?_eq_getElem hi]; rfl
  have un : ∀ i (hi : i < o.length), ∀ j, o.getD j 0 = o[i] → j < o.length → j = i := fun i hi j e hj => nodup_at h.nodup hj hi (e.trans (gd i hi).symm)
  have hl := h.len
  refine ⟨a, c, hac, atW_some o _ s a hs (by rw [gd a (by omega), ea2]) (fun j e hj => un a (by omega) j (by rw [e, ea2]) hj) _ (by omega) (by omega), atW_some o _ k c hkn (by rw [gd c hc, ec]) (fun j e hj => un c hc j (by rw [e, ec]) hj) _ (by omega) (by omega)⟩
theorem MapI.up {w w' : World} {b : Nat} {W : List (Option Int)} (h : MapI w b W) (hB : Below w.heap.size w w') : MapI w' b W := by
  have hlt := h.lt
  obtain ⟨es, clock, hb, r⟩ := h
  exact ⟨es, clock, (hB.block b hlt).trans hb, r⟩
abbrev prA (p : Pr) (n : Nat) : Array Value := #[.slice p.headers.p p.headers.l.length p.headers.cap, .slice p.metas.p p.metas.l.length p.metas.cap, .slice p.states.p n p.states.cap, .slice p.actions.p p.actions.l.length p.actions.cap, .slice p.tables.p p.tables.l.length p.tables.cap, .slice p.control.p p.control.l.length p.control.cap, .slice p.emit.p p.emit.l.length p.emit.cap]
/-- The program's box, in a world later than V. -/
structure LawI (V : World) (b : Nat) (p : Pr) (n : Nat) (W : World) : Prop where
  below : Below b V W
  box : W.heap[b]? = some (.cells (prA p n) 30 (0, 0))
theorem LawI.up {V W W' : World} {b : Nat} {p : Pr} {n : Nat} (h : LawI V b p n W) (hB : Below W.heap.size W W') : LawI V b p n W' := by
  have hlt := (Array.getElem?_eq_some_iff.1 h.box).1
  exact ⟨h.below.trans (hB.mono (by omega)), (hB.block b hlt).trans h.box⟩
theorem LawI.lt {V W : World} {b : Nat} {p : Pr} {n : Nat} (h : LawI V b p n W) : b < W.heap.size := (Array.getElem?_eq_some_iff.1 h.box).1
theorem LawI.cells {V W : World} {b : Nat} {p : Pr} {n : Nat} (h : LawI V b p n W) (j : Nat) (u : Value) (hj : (prA p n)[j]? = some u) : W.cell? ⟨b, j, none⟩ = some u := cell_heap h.box j u hj
theorem law_start (V : World) (p : Pr) (n : Nat) : ∃ W, V.alloc (.cells (prA p n) 30) = W ∧ LawI V V.heap.size p n W :=
  ⟨_, rfl, (Below.refl _ V).alloc (Nat.le_refl _) _, heap_alloc_new V _⟩
set_option maxRecDepth 100000 in
set_option maxHeartbeats 8000000 in
theorem order_great (p : Pr) (V : World) (hin : p.In V) (hz : p.sz ≤ 1048576) (hg : greatP p = true) : Calls Try.prog 3 #[prV p] V fun e W => e = .returned (.bool true) ∧ Below V.heap.size V W := by
  have q := law_great p V hin hz
  rw [hg] at q
  obtain ⟨n, hn⟩ : ∃ n, p.states.l.length = n := ⟨_, rfl⟩
  simp only [prV, hn] at q ⊢
  have q' := Lib.hid q
  clear hin hz hg q hn
  go_enter Try.func3, Try.ntmps3
  go_wp2_with fail
  obtain ⟨W, hW, hI⟩ := law_start V p n
  rw [hW]
  obtain ⟨zz, hzz⟩ := plus_of_below hI.below
  have q2 := q'.out zz
  rw [← hzz] at q2
  refine q2.mono ?_
  rintro e U ⟨rfl, x, hU⟩
  have hI2 : LawI V V.heap.size p n U := hI.up (by rw [hU]; exact below_plus _ _)
  have hI2' := Lib.hid hI2
  clear hW hI hzz q2 q' hU hI2
  go_wp2_with fail
  refine (law_known9 U).mono ?_
  rintro e X ⟨rfl, hB⟩
  have hB' := Lib.hid (hI2'.out.below.trans (hB.mono hI2'.out.below.size))
  clear hB
  go_wp2
  go_ret
  exact ⟨rfl, hB'.out⟩
/-- What the callees hand back at later worlds. -/
theorem later {V W : World} {b n : Nat} {p : Pr} (h : LawI V b p n W) (hb : V.heap.size = b) : ∃ z, W = plus V z := plus_of_below (hb ▸ h.below)
set_option maxRecDepth 100000 in
set_option maxHeartbeats 8000000 in
theorem order_cycle (p : Pr) (V : World) (hin : p.In V) (hz : p.sz ≤ 1048576) (hg : greatP p = false) (ho : orderF (edgesF p.states.l) = none) : Calls Try.prog 3 #[prV p] V fun e W => e = .returned (.bool true) ∧ Below V.heap.size V W := by
  have q := law_great p V hin hz
  rw [hg] at q
  have hC : ∀ W, (∃ z, W = plus V z) → Calls Try.prog 7 #[prV p] W fun e U => e = .returned (.tuple #[.int .i64 (cycN (edgesF p.states.l)), .bool true]) ∧ Below W.heap.size W U := fun W ⟨z, h⟩ => by
    have h1 := cycle_call p W (h ▸ hin.plus z) hz
    have h2 := order_is (edges_fits p.states.l)
    rw [ho] at h2
    rw [h2] at h1
    exact h1
  have hO : ∀ W, (∃ z, W = plus V z) → Calls Try.prog 6 #[prV p] W fun e U => e = .returned (.tuple #[.slice none 0 0, .int .i64 11]) ∧ Below W.heap.size W U := fun W ⟨z, h⟩ => by
    have h1 := order_call p W (h ▸ hin.plus z) hz
    rw [ho] at h1
    exact h1
  obtain ⟨n, hn⟩ : ∃ n, p.states.l.length = n := ⟨_, rfl⟩
  simp only [prV, hn] at q hC hO ⊢
  obtain ⟨C, hCC⟩ : ∃ C, cycN (edgesF p.states.l) = C := ⟨_, rfl⟩
  simp only [hCC] at hC
  obtain ⟨b, hb⟩ : ∃ b, V.heap.size = b := ⟨_, rfl⟩
  have q' := Lib.hid q
  have hC' := Lib.hid hC
  have hO' := Lib.hid hO
  have hb' := Lib.hid hb
  clear hin hz hg ho q hn hC hO hCC hb
  go_enter Try.func3, Try.ntmps3
  go_wp2_with fail
  obtain ⟨W, hW, hI⟩ := law_start V p n
  rw [hW]
  rw [hb'.out] at hI ⊢
  obtain ⟨zz, hzz⟩ := later hI hb'.out
  have q2 := q'.out zz
  rw [← hzz] at q2
  refine q2.mono ?_
  rintro e U ⟨rfl, x, hU⟩
  have hI2 : LawI V b p n U := hI.up (by rw [hU]; exact below_plus _ _)
  have c0 := hI2.cells 0 _ rfl
  have c1 := hI2.cells 1 _ rfl
  have c2 := hI2.cells 2 _ rfl
  have c3 := hI2.cells 3 _ rfl
  have c4 := hI2.cells 4 _ rfl
  have c5 := hI2.cells 5 _ rfl
  have c6 := hI2.cells 6 _ rfl
  have hI2' := Lib.hid hI2
  clear hW hI hzz q2 q' hU hI2
  go_wp2_with fail
  refine (hO'.out U (later hI2'.out hb'.out)).mono ?_
  rintro e U2 ⟨rfl, hB2⟩
  have hI3 := hI2'.out.up hB2
  clear c0 c1 c2 c3 c4 c5 c6 hO'
  have c0 := hI3.cells 0 _ rfl
  have c1 := hI3.cells 1 _ rfl
  have c2 := hI3.cells 2 _ rfl
  have c3 := hI3.cells 3 _ rfl
  have c4 := hI3.cells 4 _ rfl
  have c5 := hI3.cells 5 _ rfl
  have c6 := hI3.cells 6 _ rfl
  have hI3' := Lib.hid hI3
  clear hI3 hB2 hI2'
  go_wp2_with fail
  refine (hC'.out U2 (later hI3'.out hb'.out)).mono ?_
  rintro e U3 ⟨rfl, hB3⟩
  have hI4' := Lib.hid (hI3'.out.up hB3)
  clear c0 c1 c2 c3 c4 c5 c6 hC' hB3 hI3'
  go_wp2_with fail
  refine (law_known9 U3).mono ?_
  rintro e X ⟨rfl, hB⟩
  have hB' := Lib.hid (hI4'.out.up hB).below
  clear hB
  go_wp2
  go_ret
  exact ⟨rfl, by rw [hb'.out]; exact hB'.out⟩
end Go.Proofs.Ytplkiadkkefppaa
