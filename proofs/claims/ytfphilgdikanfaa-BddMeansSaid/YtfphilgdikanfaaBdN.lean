/-
  WHAT IS PROVED HERE: what the landed Holds, At, Len, Full of a store hand back, and New.
-/
import Derived.Test.YtfphilgdikanfaaBdM
namespace Go.Proofs.Ytfphilgdikanfaa
open Go.RowKit
set_option maxRecDepth 100000 in
set_option maxHeartbeats 8000000 in
theorem st_Holds {W : World} {bs : Nat} {L : BdL} {cap : Nat} {full : Bool} {R : List Bd} (h : StAt W bs L cap full R) (a : Int) (p : Option Addr) (l : List Bool) (c : Nat) (hl : BdBits W p l) (hn : l.length ≤ 1048576) :
    BdPure Try.prog W 9 #[.pointer (some ⟨bs, 0, none⟩), .int .i64 a, .slice p l.length c] (.bool (bdEv R (bdF l) (bdKnown R a))) := by
  intro y0
  have hT := Lib.hid (st_there h)
  have hK := bd_known h.nodes a
  have hpos : 0 < R.length := by have := h.nodes.ok.two; omega
  have hH := bd_holds h.nodes (bdKnown R a) (bdKnown_lt hpos a) p l c hl hn
  generalize bdEv R (bdF l) (bdKnown R a) = E at hH ⊢
  generalize bdKnown R a = k at hK hH
  generalize l.length = n at hH ⊢
  have hK' := Lib.hid hK
  have hH' := Lib.hid hH
  clear h hl hn hK hH hpos
  go_enter Try.func9, Try.ntmps9
  go_wp2_with (first | (go_at_call 25; with_reducible refine (hT.out _).mono ?_; rintro r w' ⟨rfl, x, rfl⟩) | (go_at_call 27; with_reducible refine (hK'.out _).mono ?_; rintro r w' ⟨rfl, x, rfl⟩) | (go_at_call 26; with_reducible refine (hH'.out _).mono ?_; rintro r w' ⟨rfl, x, rfl⟩))
  go_ret
  exact ⟨rfl, _, rfl⟩
set_option maxRecDepth 100000 in
set_option maxHeartbeats 8000000 in
theorem st_Len {W : World} {bs : Nat} {L : BdL} {cap : Nat} {full : Bool} {R : List Bd} (h : StAt W bs L cap full R) :
    BdPure Try.prog W 10 #[.pointer (some ⟨bs, 0, none⟩)] (.int .i64 ((R.length - 2 : Nat) : Int)) := by
  intro y0
  have hT := Lib.hid (st_there h)
  have hK := bd_len h.nodes
  generalize R.length - 2 = n at hK ⊢
  have hK' := Lib.hid hK
  clear h hK
  go_enter Try.func10, Try.ntmps10
  go_wp2_with (first | (go_at_call 25; with_reducible refine (hT.out _).mono ?_; rintro r w' ⟨rfl, x, rfl⟩) | (go_at_call 28; with_reducible refine (hK'.out _).mono ?_; rintro r w' ⟨rfl, x, rfl⟩))
  go_ret
  exact ⟨rfl, _, rfl⟩
set_option maxRecDepth 100000 in
set_option maxHeartbeats 8000000 in
theorem st_Full {W : World} {bs : Nat} {L : BdL} {cap : Nat} {full : Bool} {R : List Bd} (h : StAt W bs L cap full R) :
    BdPure Try.prog W 12 #[.pointer (some ⟨bs, 0, none⟩)] (.bool full) := by
  intro y0
  have hT := Lib.hid (st_there h)
  obtain ⟨cc, g1, -⟩ := h.nodes.head
  have c1 := fun y => bd_cell (bd_heap_plus W y g1) 1 _ rfl
  clear h g1
  go_enter Try.func12, Try.ntmps12
  go_wp2_with (first | (go_at_call 25; with_reducible refine (hT.out _).mono ?_; rintro r w' ⟨rfl, x, rfl⟩))
  go_ret
  exact ⟨rfl, _, rfl⟩
/-- A node, and that it is there. -/
def bdAtV (R : List Bd) (a : Nat) : Value := match R[a]? with | some n => if 1 < a then .tuple #[.agg #[.int .i64 (n.v : Int), .int .i64 (n.lo : Int), .int .i64 (n.hi : Int)], .bool true] else .tuple #[.agg #[.int .i64 0, .int .i64 0, .int .i64 0], .bool false] | none => .tuple #[.agg #[.int .i64 0, .int .i64 0, .int .i64 0], .bool false]
theorem bd_set3 {V : World} {n : Nat} {t : TypeId} {a b c : Value} (h : V.heap[n]? = some (.cells #[a, b, c] t (0, 0))) (u v w : Value) :
    (((V.setCell ⟨n, 0, none⟩ u).setCell ⟨n, 1, none⟩ v).setCell ⟨n, 2, none⟩ w).heap[n]? = some (.cells #[u, v, w] t (0, 0)) := by
  have h1 := heap_setCell_same V n 0 #[a, b, c] t u h
  have h2 := heap_setCell_same _ n 1 _ t v h1
  exact heap_setCell_same _ n 2 _ t w h2
set_option maxRecDepth 100000 in
set_option maxHeartbeats 8000000 in
theorem st_At {W : World} {bs : Nat} {L : BdL} {cap : Nat} {full : Bool} {R : List Bd} (h : StAt W bs L cap full R) (a : Int) :
    BdPure Try.prog W 11 #[.pointer (some ⟨bs, 0, none⟩), .int .i64 a] (bdAtV R (bdKnown R a)) := by
  intro y0
  have h0 := h.plus y0
  obtain ⟨U, hU⟩ : ∃ U, plus W y0 = U := ⟨_, rfl⟩
  have hUW : Hid (∃ z, U = plus W z) := Lib.hid ⟨y0, hU.symm⟩
  rw [hU] at h0 ⊢
  clear hU h
  obtain ⟨X, hX, hXB, hXh, hXs⟩ := bd_box U #[.int .i64 0, .int .i64 0, .int .i64 0] 39
  have hA := h0.below hXB
  have hT := Lib.hid (st_there hA)
  have hK := bd_known hA.nodes a
  obtain ⟨cc, g1, -⟩ := hA.nodes.head
  have c2 := fun y => bd_cell (bd_heap_plus X y g1) 2 _ rfl
  have r0 := fun y => bd_cell (bd_heap_plus X y hXh) 0 _ rfl
  have r1 := fun y => bd_cell (bd_heap_plus X y hXh) 1 _ rfl
  have r2 := fun y => bd_cell (bd_heap_plus X y hXh) 2 _ rfl
  have fz := fun y => bd_free (bd_heap_plus X y hXh)
  have hsm := hA.nodes.small
  have hroom := hA.nodes.room
  obtain ⟨b, hb⟩ : ∃ b, U.heap.size = b := ⟨_, rfl⟩
  rw [hb] at r0 r1 r2 fz hXh
  have hb' := Lib.hid hb
  have hX' := Lib.hid hX
  have hXB' := Lib.hid hXB
  have hXh' := Lib.hid hXh
  have fin : ∀ (y : Ext) (u v w : Value), ∃ Z, (((plus X y).setCell ⟨b, 0, none⟩ u).setCell ⟨b, 1, none⟩ v).setCell ⟨b, 2, none⟩ w = Z ∧ Z.cell? ⟨b, 0, none⟩ = some u ∧ Z.cell? ⟨b, 1, none⟩ = some v ∧ Z.cell? ⟨b, 2, none⟩ = some w ∧ ∃ x, Z = plus W x := fun y u v w => by
    have e := bd_set3 (bd_heap_plus X y hXh'.out) u v w
    refine ⟨_, rfl, bd_cell e 0 _ rfl, bd_cell e 1 _ rfl, bd_cell e 2 _ rfl, ?_⟩
    obtain ⟨z, hz⟩ := hUW.out
    have hB : Below W.heap.size W X := by
      have := hXB'.out
      rw [hz] at this
      exact (below_plus W z).trans (this.mono (size_plus W z))
    have hbW : W.heap.size ≤ b := by rw [← hb'.out, hz]; exact size_plus W z
    exact plus_of_below ((((hB.trans ((below_plus X y).mono hB.size)).setCell hbW _).setCell hbW _).setCell hbW _)
  have fin' := Lib.hid fin
  by_cases q : bdKnown R a ≤ 1
  · have hv : bdAtV R (bdKnown R a) = .tuple #[.agg #[.int .i64 0, .int .i64 0, .int .i64 0], .bool false] := by
      unfold bdAtV
      split
      · rw [if_neg (by omega)]
      · rfl
    rw [hv]
    have qb : decide ((bdKnown R a : Int) ≤ 1) = true := decide_eq_true (by omega)
    generalize bdKnown R a = k at hK qb
    have hK' := Lib.hid hK
    clear hX hXB hXh hXs hA hK g1 c2 fin hv q h0 hb
    go_enter Try.func11, Try.ntmps11
    go_wp2_with fail
    rw [hX'.out, hb'.out, ← plus_self X]
    go_wp2_with (first | (go_at_call 25; with_reducible refine (hT.out _).mono ?_; rintro r w' ⟨rfl, x, rfl⟩) | (go_at_call 27; with_reducible refine (hK'.out _).mono ?_; rintro r w' ⟨rfl, x, rfl⟩))
    obtain ⟨Z, hZ, z0, z1, z2, hZW⟩ := fin'.out _ (.int .i64 0) (.int .i64 0) (.int .i64 0)
    rw [hZ]
    exact bodyPost_ret (v := .tuple #[.agg #[.int .i64 0, .int .i64 0, .int .i64 0], .bool false]) (by simp [results, Try.results11, go_sem, z0, z1, z2]) rfl ⟨rfl, hZW⟩
  · obtain ⟨k, hk⟩ : ∃ k, bdKnown R a = k := ⟨_, rfl⟩
    rw [hk] at q hK ⊢
    obtain ⟨hkR, rfl⟩ : k < R.length ∧ a = (k : Int) := by
      unfold bdKnown at hk
      split at hk <;> omega
    obtain ⟨⟨nv, nl, nh⟩, hnd⟩ : ∃ nd, R[k]? = some nd := ⟨_, List.getElem?_eq_getElem hkR⟩
    have hv : bdAtV R k = .tuple #[.agg #[.int .i64 (nv : Int), .int .i64 (nl : Int), .int .i64 (nh : Int)], .bool true] := by
      unfold bdAtV
      rw [hnd]
      simp only
      rw [if_pos (by omega)]
    rw [hv]
    have qb : decide ((k : Int) ≤ 1) = false := decide_eq_false (by omega)
    obtain ⟨f1, f2, f3⟩ := hA.nodes.fits hnd
    have s0 := fun y => (BdAt.row (hA.nodes.plus y) hnd).1
    have s1 := fun y => (BdAt.row (hA.nodes.plus y) hnd).2.1
    have s2 := fun y => (BdAt.row (hA.nodes.plus y) hnd).2.2
    simp only at s0 s1 s2 f1 f2 f3
    obtain ⟨N, hN⟩ : ∃ N, R.length = N := ⟨_, rfl⟩
    rw [hN] at hkR c2 hroom
    have hbX : ∀ y, b < (plus X y).heap.size := fun y => Nat.lt_of_lt_of_le (Array.getElem?_eq_some_iff.1 hXh).1 (size_plus X y)
    have t0 := fun y o => (cell_old (plus X y) o b 0 (hbX y)).trans (r0 y)
    have t1 := fun y o => (cell_old (plus X y) o b 1 (hbX y)).trans (r1 y)
    have t2 := fun y o => (cell_old (plus X y) o b 2 (hbX y)).trans (r2 y)
    have tz := fun y o j => (frozen_old (plus X y) o b j (hbX y)).trans (fz y j)
    have hK' := Lib.hid hK
    clear hX hXB hXh hXs hA hK g1 fin hv q h0 hb hnd hN hk hbX r0 r1 r2 fz
    go_enter Try.func11, Try.ntmps11
    go_wp2_with fail
    rw [hX'.out, hb'.out, ← plus_self X]
    go_wp2_with (first | (go_at_call 25; with_reducible refine (hT.out _).mono ?_; rintro r w' ⟨rfl, x, rfl⟩) | (go_at_call 27; with_reducible refine (hK'.out _).mono ?_; rintro r w' ⟨rfl, x, rfl⟩))
    obtain ⟨x2, hx2⟩ := bd_alloc_plus (V := plus X x) (W := X) ⟨x, rfl⟩ (.cells #[.int .i32 (nv : Int), .int .i32 (nl : Int), .int .i32 (nh : Int)] 58)
    rw [hx2]
    obtain ⟨Z, hZ, z0, z1, z2, hZW⟩ := fin'.out x2 (.int .i64 (nv : Int)) (.int .i64 (nl : Int)) (.int .i64 (nh : Int))
    rw [hZ]
    exact bodyPost_ret (v := .tuple #[.agg #[.int .i64 (nv : Int), .int .i64 (nl : Int), .int .i64 (nh : Int)], .bool true]) (by simp [results, Try.results11, go_sem, z0, z1, z2]) rfl ⟨rfl, hZW⟩
/-- What New makes. -/
theorem bdPlaces_0 (k : Bd) : bdPlaces bd0 k = none := by
  unfold bdPlaces
  split
  · rfl
  · next q =>
    cases e : bdFind bd0 k with
    | none => rfl
    | some i =>
      have h := bdFind_some e
      match i with
      | 0 => cases h; exact absurd rfl q
      | 1 => cases h; exact absurd rfl q
      | i + 2 => simp [bd0] at h
theorem bd_new_at (W : World) (cap : Nat) (h2 : 2 ≤ cap) (hc : cap ≤ 1048576) : ∃ Z, (((W.alloc (.cells #[.int .i32 64, .int .i32 0, .int .i32 0, .int .i32 64, .int .i32 1, .int .i32 1] 58)).alloc (.map #[] 0)).alloc (.map #[] 0)).alloc (.cells #[.int .i64 (cap : Int), .bool false, .slice (some ⟨W.heap.size, 0, none⟩) 2 2, .map (some (W.heap.size + 1)), .map (some (W.heap.size + 1 + 1))] 63) = Z ∧
    BdAt Z ⟨W.heap.size + 1 + 1 + 1, W.heap.size, W.heap.size + 1, W.heap.size + 1 + 1⟩ cap false bd0 ∧ Below W.heap.size W Z := by
  have s1 : (W.alloc (.cells #[.int .i32 64, .int .i32 0, .int .i32 0, .int .i32 64, .int .i32 1, .int .i32 1] 58)).heap.size = W.heap.size + 1 := by simp
  have s2 : ((W.alloc (.cells #[.int .i32 64, .int .i32 0, .int .i32 0, .int .i32 64, .int .i32 1, .int .i32 1] 58)).alloc (.map #[] 0)).heap.size = W.heap.size + 1 + 1 := by simp
  have s3 : (((W.alloc (.cells #[.int .i32 64, .int .i32 0, .int .i32 0, .int .i32 64, .int .i32 1, .int .i32 1] 58)).alloc (.map #[] 0)).alloc (.map #[] 0)).heap.size = W.heap.size + 1 + 1 + 1 := by simp
  obtain ⟨A, hA⟩ : ∃ A, W.alloc (.cells #[.int .i32 64, .int .i32 0, .int .i32 0, .int .i32 64, .int .i32 1, .int .i32 1] 58) = A := ⟨_, rfl⟩
  have hA0 : A.heap[W.heap.size]? = some (.cells #[.int .i32 64, .int .i32 0, .int .i32 0, .int .i32 64, .int .i32 1, .int .i32 1] 58 (0, 0)) := by rw [← hA]; exact heap_alloc_new _ _
  rw [hA] at s1 s2 s3 ⊢
  obtain ⟨B, hB⟩ : ∃ B, A.alloc (.map #[] 0) = B := ⟨_, rfl⟩
  have hB0 : MapG B (W.heap.size + 1) bdKey bdNum (fun _ => none) := by rw [← hB, ← s1]; exact MapG.made A bdKey bdNum
  rw [hB] at s2 s3 ⊢
  obtain ⟨C, hC⟩ : ∃ C, B.alloc (.map #[] 0) = C := ⟨_, rfl⟩
  have hC0 : MapG C (W.heap.size + 1 + 1) bdKey bdNum (fun _ => none) := by rw [← hC, ← s2]; exact MapG.made B bdKey bdNum
  rw [hC] at s3 ⊢
  obtain ⟨D, hD⟩ : ∃ D, C.alloc (.cells #[.int .i64 (cap : Int), .bool false, .slice (some ⟨W.heap.size, 0, none⟩) 2 2, .map (some (W.heap.size + 1)), .map (some (W.heap.size + 1 + 1))] 63) = D := ⟨_, rfl⟩
  have hD0 : D.heap[W.heap.size + 1 + 1 + 1]? = some (.cells #[.int .i64 (cap : Int), .bool false, .slice (some ⟨W.heap.size, 0, none⟩) 2 2, .map (some (W.heap.size + 1)), .map (some (W.heap.size + 1 + 1))] 63 (0, 0)) := by rw [← hD, ← s3]; exact heap_alloc_new _ _
  have up : ∀ k, k < W.heap.size + 1 → D.heap[k]? = A.heap[k]? := fun k hk => by
    rw [← hD, Below.heap_alloc _ _ _ (by omega), ← hC, Below.heap_alloc _ _ _ (by omega), ← hB, Below.heap_alloc _ _ _ (by omega)]
  have upB : ∀ k, k < W.heap.size + 1 + 1 → D.heap[k]? = B.heap[k]? := fun k hk => by
    rw [← hD, Below.heap_alloc _ _ _ (by omega), ← hC, Below.heap_alloc _ _ _ (by omega)]
  have upC : ∀ k, k < W.heap.size + 1 + 1 + 1 → D.heap[k]? = C.heap[k]? := fun k hk => by rw [← hD, Below.heap_alloc _ _ _ (by omega)]
  refine ⟨D, hD, ⟨⟨2, hD0, rfl, .inr ⟨W.heap.size, 2, _, rfl, Nat.zero_le _, (up _ (by omega)).trans hA0, by decide, by decide, rfl, rfl⟩⟩, ?_, ⟨fun _ => none, hC0.of_heap (upC _ (by omega)), fun k n e => by cases e⟩, bdOk_0, by show 2 ≤ cap + 2; omega, hc, by show W.heap.size + 1 ≠ W.heap.size + 1 + 1; omega⟩, ?_⟩
  · exact (hB0.of_heap (upB _ (by show W.heap.size + 1 < _; omega))).eqv fun k => (bdPlaces_0 k).symm
  · rw [← hD, ← hC, ← hB, ← hA]
    exact ((((Below.refl _ W).alloc (Nat.le_refl _) _).alloc (by rw [hA]; omega) _).alloc (by rw [hA, hB]; omega) _).alloc (by rw [hA, hB, hC]; omega) _
set_option maxRecDepth 100000 in
set_option maxHeartbeats 8000000 in
theorem bd_newNodes (W : World) (cap : Nat) (h2 : 2 ≤ cap) (hc : cap ≤ 1048576) :
    Calls Try.prog 22 #[.int .i64 (cap : Int)] W fun e w' => ∃ L, e = .returned (.pointer (some ⟨L.bn, 0, none⟩)) ∧ BdAt w' L cap false bd0 ∧ Below W.heap.size W w' ∧ ∀ k, L.has k → W.heap.size ≤ k := by
  have hmm := @run_makeMap Try.prog
  obtain ⟨Z, hZ, hAt, hB⟩ := bd_new_at W cap h2 hc
  have hZ' := Lib.hid hZ
  have hAt' := Lib.hid hAt
  have hB' := Lib.hid hB
  clear hZ hAt hB
  go_enter Try.func22, Try.ntmps22
  go_wp2
  go_ret
  refine ⟨⟨W.heap.size + 1 + 1 + 1, W.heap.size, W.heap.size + 1, W.heap.size + 1 + 1⟩, rfl, ?_, ?_, fun k hk => ?_⟩
  · have := hAt'.out
    rw [← hZ'.out] at this
    exact this
  · have := hB'.out
    rw [← hZ'.out] at this
    exact this
  · rcases hk with rfl | rfl | rfl | rfl
    · show W.heap.size ≤ W.heap.size + 1 + 1 + 1; omega
    · exact Nat.le_refl _
    · show W.heap.size ≤ W.heap.size + 1; omega
    · show W.heap.size ≤ W.heap.size + 1 + 1; omega
/-- What New hands back: a store without nodes, in memory of its own. -/
def NewEnds (W : World) (cap : Nat) (e : Ending) (w' : World) : Prop := ∃ bs L, e = .returned (.tuple #[.pointer (some ⟨bs, 0, none⟩), .int .i64 0]) ∧ StAt w' bs L cap false bd0 ∧ Below W.heap.size W w' ∧ W.heap.size ≤ bs ∧ ∀ k, L.has k → W.heap.size ≤ k
set_option maxRecDepth 100000 in
set_option maxHeartbeats 8000000 in
theorem st_New (W : World) (cap : Nat) (h2 : 2 ≤ cap) (hc : cap ≤ 1048576) : Calls Try.prog 5 #[.int .i64 (cap : Int)] W (NewEnds W cap) := by
  have hN := Lib.hid (bd_newNodes W cap h2 hc)
  have q1 : decide ((cap : Int) < 2) = false := decide_eq_false (by omega)
  have q2 : decide (1048576 < (cap : Int)) = false := decide_eq_false (by omega)
  clear h2 hc
  go_enter Try.func5, Try.ntmps5
  go_wp2_with fail
  refine hN.out.mono ?_
  rintro e w1 ⟨L, rfl, hA, hB, hL⟩
  have hA' := Lib.hid hA
  have hB' := Lib.hid hB
  have hL' := Lib.hid hL
  clear hA hB hL hN
  go_wp2
  go_ret2
  obtain ⟨X, hX, hXB, hXh, hXs⟩ := bd_box w1 #[.pointer (some ⟨L.bn, 0, none⟩)] 45
  rw [hX]
  exact ⟨w1.heap.size, L, rfl, ⟨hXh, hA'.out.below hXB⟩, hB'.out.trans (hXB.mono hB'.out.size), hB'.out.size, hL'.out⟩
end Go.Proofs.Ytfphilgdikanfaa
