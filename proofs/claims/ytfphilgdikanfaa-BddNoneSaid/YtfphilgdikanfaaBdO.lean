/-
  WHAT IS PROVED HERE: what the calls of a store that is not there, or was not made, hand back: nothing.
-/
import Derived.Test.YtfphilgdikanfaaBdN
namespace Go.Proofs.Ytfphilgdikanfaa
open Go.RowKit
/-- A store that is not there, or was not made. -/
def NoneAt (W : World) (v : Value) : Prop := v = .pointer none ∨ ∃ bs, v = .pointer (some ⟨bs, 0, none⟩) ∧ W.cell? ⟨bs, 0, none⟩ = some (.pointer none)
theorem NoneAt.below {W Z : World} {v : Value} (h : NoneAt W v) (hB : Below W.heap.size W Z) : NoneAt Z v := by
  rcases h with h | ⟨bs, h1, h2⟩
  · exact .inl h
  · exact .inr ⟨bs, h1, (hB.cell (p := ⟨bs, 0, none⟩) (lt_of_cell h2)).trans h2⟩
theorem NoneAt.plus {W : World} {v : Value} (h : NoneAt W v) (y : Ext) : NoneAt (plus W y) v := h.below (below_plus W y)
theorem NoneAt.ptr {W : World} {v : Value} (h : NoneAt W v) : ∃ p, v = .pointer p := by
  rcases h with rfl | ⟨bs, rfl, _⟩
  · exact ⟨_, rfl⟩
  · exact ⟨_, rfl⟩
set_option maxRecDepth 100000 in
set_option maxHeartbeats 8000000 in
theorem nn_there {W : World} {v : Value} (h : NoneAt W v) : BdPure Try.prog W 25 #[v] (.pointer none) := by
  intro y0
  have h' := h.plus y0
  obtain ⟨V, hV⟩ : ∃ V, plus W y0 = V := ⟨_, rfl⟩
  have hVW : Hid (∃ z, V = plus W z) := Lib.hid ⟨y0, hV.symm⟩
  rw [hV] at h' ⊢
  clear hV h
  rcases h' with rfl | ⟨bs, rfl, h⟩
  · go_enter Try.func25, Try.ntmps25
    go_wp2
    go_ret
    exact ⟨rfl, hVW.out⟩
  · go_enter Try.func25, Try.ntmps25
    go_wp2
    go_ret
    exact ⟨rfl, hVW.out⟩
set_option maxRecDepth 100000 in
set_option maxHeartbeats 8000000 in
theorem nn_made {W : World} {v : Value} (h : NoneAt W v) (G : FuncId) (capt : Array Value) : BdPure Try.prog W 30 #[v, .func (.func G) #[] capt] (.int .i64 0) := by
  intro y0
  have h0 := h.plus y0
  obtain ⟨U, hU⟩ : ∃ U, plus W y0 = U := ⟨_, rfl⟩
  have hUW : Hid (∃ z, U = plus W z) := Lib.hid ⟨y0, hU.symm⟩
  rw [hU] at h0 ⊢
  clear hU h
  obtain ⟨X, hX, hXB, hXh, hXs⟩ := bd_box U #[.int .i64 0] 3
  have hT := nn_there (h0.below hXB)
  obtain ⟨p, rfl⟩ := h0.ptr
  have b0 := fun y => bd_cell (bd_heap_plus X y hXh) 0 _ rfl
  have fz := fun y => bd_free (bd_heap_plus X y hXh)
  have hX' := Lib.hid hX
  have hXB' := Lib.hid hXB
  have hXs' := Lib.hid hXs
  have hT' := Lib.hid hT
  clear h0 hX hXB hXh hXs hT
  go_enter_defers Try.func30, Try.ntmps30
  go_wp2_with fail
  rw [hX'.out, ← plus_self X]
  refine (hT'.out _).mono ?_
  rintro e w' ⟨rfl, x, rfl⟩
  have hE : Hid (∃ z, (plus X x).setCell ⟨U.heap.size, 0, none⟩ (.int .i64 0) = plus W z) := Lib.hid (by
    obtain ⟨z, rfl⟩ := hUW.out
    have hB : Below W.heap.size W X := (below_plus W z).trans (hXB'.out.mono (size_plus W z))
    exact plus_of_below ((hB.trans ((below_plus X x).mono hB.size)).setCell (size_plus W z) _))
  have p0 : ((plus X x).setCell ⟨U.heap.size, 0, none⟩ (.int .i64 0)).cell? ⟨U.heap.size, 0, none⟩ = some (.int .i64 0) := World.cell?_setCell_same _ _ _ (b0 x)
  have p0' := Lib.hid p0
  clear p0
  go_wp2
  have p0 := p0'.out
  simp [bodyPostD, Leaves, settle, results, Try.results30, go_sem, p0]
  exact hE.out
set_option maxRecDepth 100000 in
set_option maxHeartbeats 8000000 in
theorem nn_Var {W : World} {v : Value} (h : NoneAt W v) (v0 : Int) : BdPure Try.prog W 14 #[v, .int .i64 v0] (.int .i64 0) := by
  intro y0
  have hmf : ∀ (fn : Fn) (first cap : Array Value) (w : World), (Instr.makeFunc fn first cap).run Try.prog w = .ok (.func fn first cap) w := fun _ _ _ _ => rfl
  have hI := Lib.hid (fun Z (hZ : Below W.heap.size W Z) G capt => nn_made (h.below hZ) G capt)
  clear h
  go_enter Try.func14, Try.ntmps14
  go_wp2_with fail
  have hB := ((below_plus W y0).alloc (size_plus W y0) (.cells #[.int .i64 v0] 3))
  obtain ⟨z, hz⟩ := plus_of_below hB
  rw [hz]
  refine (hI.out W (Below.refl _ _) _ _ _).mono ?_
  rintro r w' ⟨rfl, x, rfl⟩
  clear hz hB
  go_wp2
  go_ret
  exact ⟨rfl, _, rfl⟩
set_option maxRecDepth 100000 in
set_option maxHeartbeats 8000000 in
theorem nn_Ite {W : World} {v : Value} (h : NoneAt W v) (c : Int) (a : Int) (b : Int) : BdPure Try.prog W 15 #[v, .int .i64 c, .int .i64 a, .int .i64 b] (.int .i64 0) := by
  intro y0
  have hmf : ∀ (fn : Fn) (first cap : Array Value) (w : World), (Instr.makeFunc fn first cap).run Try.prog w = .ok (.func fn first cap) w := fun _ _ _ _ => rfl
  have hI := Lib.hid (fun Z (hZ : Below W.heap.size W Z) G capt => nn_made (h.below hZ) G capt)
  clear h
  go_enter Try.func15, Try.ntmps15
  go_wp2_with fail
  have hB := ((((below_plus W y0).alloc (size_plus W y0) (.cells #[.int .i64 c] 3)).alloc (by have := size_plus W y0; simp; omega) (.cells #[.int .i64 a] 3)).alloc (by have := size_plus W y0; simp; omega) (.cells #[.int .i64 b] 3))
  obtain ⟨z, hz⟩ := plus_of_below hB
  rw [hz]
  refine (hI.out W (Below.refl _ _) _ _ _).mono ?_
  rintro r w' ⟨rfl, x, rfl⟩
  clear hz hB
  go_wp2
  go_ret
  exact ⟨rfl, _, rfl⟩
set_option maxRecDepth 100000 in
set_option maxHeartbeats 8000000 in
theorem nn_Under {W : World} {v : Value} (h : NoneAt W v) (a : Int) (u : Int) (on : Bool) : BdPure Try.prog W 20 #[v, .int .i64 a, .int .i64 u, .bool on] (.int .i64 0) := by
  intro y0
  have hmf : ∀ (fn : Fn) (first cap : Array Value) (w : World), (Instr.makeFunc fn first cap).run Try.prog w = .ok (.func fn first cap) w := fun _ _ _ _ => rfl
  have hI := Lib.hid (fun Z (hZ : Below W.heap.size W Z) G capt => nn_made (h.below hZ) G capt)
  clear h
  go_enter Try.func20, Try.ntmps20
  go_wp2_with fail
  have hB := ((((below_plus W y0).alloc (size_plus W y0) (.cells #[.int .i64 a] 3)).alloc (by have := size_plus W y0; simp; omega) (.cells #[.int .i64 u] 3)).alloc (by have := size_plus W y0; simp; omega) (.cells #[.bool on] 4))
  obtain ⟨z, hz⟩ := plus_of_below hB
  rw [hz]
  refine (hI.out W (Below.refl _ _) _ _ _).mono ?_
  rintro r w' ⟨rfl, x, rfl⟩
  clear hz hB
  go_wp2
  go_ret
  exact ⟨rfl, _, rfl⟩
set_option maxRecDepth 100000 in
set_option maxHeartbeats 8000000 in
theorem nn_Not {W : World} {v : Value} (h : NoneAt W v) (a : Int) : BdPure Try.prog W 16 #[v, .int .i64 a] (.int .i64 0) := by
  intro y0
  have hI := Lib.hid (nn_Ite h a 0 1)
  clear h
  go_enter Try.func16, Try.ntmps16
  go_wp2_with (first | (go_at_call 15; with_reducible refine (hI.out _).mono ?_; rintro r w' ⟨rfl, x, rfl⟩))
  go_ret
  exact ⟨rfl, _, rfl⟩
set_option maxRecDepth 100000 in
set_option maxHeartbeats 8000000 in
theorem nn_And {W : World} {v : Value} (h : NoneAt W v) (a : Int) (b : Int) : BdPure Try.prog W 17 #[v, .int .i64 a, .int .i64 b] (.int .i64 0) := by
  intro y0
  have hI := Lib.hid (nn_Ite h a b 0)
  clear h
  go_enter Try.func17, Try.ntmps17
  go_wp2_with (first | (go_at_call 15; with_reducible refine (hI.out _).mono ?_; rintro r w' ⟨rfl, x, rfl⟩))
  go_ret
  exact ⟨rfl, _, rfl⟩
set_option maxRecDepth 100000 in
set_option maxHeartbeats 8000000 in
theorem nn_Or {W : World} {v : Value} (h : NoneAt W v) (a : Int) (b : Int) : BdPure Try.prog W 18 #[v, .int .i64 a, .int .i64 b] (.int .i64 0) := by
  intro y0
  have hI := Lib.hid (nn_Ite h a 1 b)
  clear h
  go_enter Try.func18, Try.ntmps18
  go_wp2_with (first | (go_at_call 15; with_reducible refine (hI.out _).mono ?_; rintro r w' ⟨rfl, x, rfl⟩))
  go_ret
  exact ⟨rfl, _, rfl⟩
set_option maxRecDepth 100000 in
set_option maxHeartbeats 8000000 in
theorem nn_Xor {W : World} {v : Value} (h : NoneAt W v) (a b : Int) : BdPure Try.prog W 19 #[v, .int .i64 a, .int .i64 b] (.int .i64 0) := by
  intro y0
  have hN := Lib.hid (nn_Not h b)
  have hI := Lib.hid (nn_Ite h a 0 b)
  clear h
  go_enter Try.func19, Try.ntmps19
  go_wp2_with (first | (go_at_call 16; with_reducible refine (hN.out _).mono ?_; rintro r w' ⟨rfl, x, rfl⟩) | (go_at_call 15; with_reducible refine (hI.out _).mono ?_; rintro r w' ⟨rfl, x, rfl⟩))
  go_ret
  exact ⟨rfl, _, rfl⟩
set_option maxRecDepth 100000 in
set_option maxHeartbeats 8000000 in
theorem nn_Len {W : World} {v : Value} (h : NoneAt W v)  : BdPure Try.prog W 10 #[v] (.int .i64 0) := by
  intro y0
  have hI := Lib.hid (nn_there h)
  clear h
  go_enter Try.func10, Try.ntmps10
  go_wp2_with (first | (go_at_call 25; with_reducible refine (hI.out _).mono ?_; rintro r w' ⟨rfl, x, rfl⟩))
  go_ret
  exact ⟨rfl, _, rfl⟩
set_option maxRecDepth 100000 in
set_option maxHeartbeats 8000000 in
theorem nn_Size {W : World} {v : Value} (h : NoneAt W v) (a : Int) : BdPure Try.prog W 21 #[v, .int .i64 a] (.int .i64 0) := by
  intro y0
  have hI := Lib.hid (nn_there h)
  clear h
  go_enter Try.func21, Try.ntmps21
  go_wp2_with (first | (go_at_call 25; with_reducible refine (hI.out _).mono ?_; rintro r w' ⟨rfl, x, rfl⟩))
  go_ret
  exact ⟨rfl, _, rfl⟩
set_option maxRecDepth 100000 in
set_option maxHeartbeats 8000000 in
theorem nn_Full {W : World} {v : Value} (h : NoneAt W v)  : BdPure Try.prog W 12 #[v] (.bool true) := by
  intro y0
  have hI := Lib.hid (nn_there h)
  clear h
  go_enter Try.func12, Try.ntmps12
  go_wp2_with (first | (go_at_call 25; with_reducible refine (hI.out _).mono ?_; rintro r w' ⟨rfl, x, rfl⟩))
  go_ret
  exact ⟨rfl, _, rfl⟩
set_option maxRecDepth 100000 in
set_option maxHeartbeats 8000000 in
theorem nn_Holds {W : World} {v : Value} (h : NoneAt W v) (a : Int) (p : Option Addr) (n c : Nat) : BdPure Try.prog W 9 #[v, .int .i64 a, .slice p n c] (.bool false) := by
  intro y0
  have hI := Lib.hid (nn_there h)
  clear h
  go_enter Try.func9, Try.ntmps9
  go_wp2_with (first | (go_at_call 25; with_reducible refine (hI.out _).mono ?_; rintro r w' ⟨rfl, x, rfl⟩))
  go_ret
  exact ⟨rfl, _, rfl⟩
set_option maxRecDepth 100000 in
set_option maxHeartbeats 8000000 in
theorem nn_Least {W : World} {v : Value} (h : NoneAt W v) (a b : Int) : BdPure Try.prog W 13 #[v, .int .i64 a, .int .i64 b] (.tuple #[.slice none 0 0, .bool false]) := by
  intro y0
  have hI := Lib.hid (nn_there h)
  clear h
  go_enter Try.func13, Try.ntmps13
  go_wp2_with (first | (go_at_call 25; with_reducible refine (hI.out _).mono ?_; rintro r w' ⟨rfl, x, rfl⟩))
  go_ret2
  exact ⟨rfl, _, rfl⟩
set_option maxRecDepth 100000 in
set_option maxHeartbeats 8000000 in
theorem nn_At {W : World} {v : Value} (h : NoneAt W v) (a : Int) : BdPure Try.prog W 11 #[v, .int .i64 a] (.tuple #[.agg #[.int .i64 0, .int .i64 0, .int .i64 0], .bool false]) := by
  intro y0
  have h0 := h.plus y0
  obtain ⟨U, hU⟩ : ∃ U, plus W y0 = U := ⟨_, rfl⟩
  have hUW : Hid (∃ z, U = plus W z) := Lib.hid ⟨y0, hU.symm⟩
  rw [hU] at h0 ⊢
  clear hU h
  obtain ⟨X, hX, hXB, hXh, hXs⟩ := bd_box U #[.int .i64 0, .int .i64 0, .int .i64 0] 39
  have hT := nn_there (h0.below hXB)
  obtain ⟨p, rfl⟩ := h0.ptr
  have r0 := fun y => bd_cell (bd_heap_plus X y hXh) 0 _ rfl
  have r1 := fun y => bd_cell (bd_heap_plus X y hXh) 1 _ rfl
  have r2 := fun y => bd_cell (bd_heap_plus X y hXh) 2 _ rfl
  have fz := fun y => bd_free (bd_heap_plus X y hXh)
  obtain ⟨b, hb⟩ : ∃ b, U.heap.size = b := ⟨_, rfl⟩
  rw [hb] at r0 r1 r2 fz hXh
  have hb' := Lib.hid hb
  have hX' := Lib.hid hX
  have hXB' := Lib.hid hXB
  have hXh' := Lib.hid hXh
  have hT' := Lib.hid hT
  have fin : ∀ (y : Ext) (u v w : Value), ∃ Z, (((plus X y).setCell ⟨b, 0, none⟩ u).setCell ⟨b, 1, none⟩ v).setCell ⟨b, 2, none⟩ w = Z ∧ Z.cell? ⟨b, 0, none⟩ = some u ∧ Z.cell? ⟨b, 1, none⟩ = some v ∧ Z.cell? ⟨b, 2, none⟩ = some w ∧ ∃ x, Z = plus W x := fun y u v w => by
    have e := bd_set3 (bd_heap_plus X y hXh'.out) u v w
    refine ⟨_, rfl, bd_cell e 0 _ rfl, bd_cell e 1 _ rfl, bd_cell e 2 _ rfl, ?_⟩
    obtain ⟨z, hz⟩ := hUW.out
    have hB : Below W.heap.size W X := by
      have := hXB'.out
      rw [hz] at this
      exact (below_plus W z).trans (this.mono (size_plus W z))
    have hbW : W.heap.size ≤ b := by rw [← hb'.out, hz]; exact size_plus W z
    exact plus_of_below ((((hB.trans ((below_plus X y).mono hB.size)).setCell hbW _).setCell hbW _).setCell hbW _)
  have fin' := Lib.hid fin
  clear hX hXB hXh hXs fin h0 hb hT
  go_enter Try.func11, Try.ntmps11
  go_wp2_with fail
  rw [hX'.out, hb'.out, ← plus_self X]
  go_wp2_with (first | (go_at_call 25; with_reducible refine (hT'.out _).mono ?_; rintro r w' ⟨rfl, x, rfl⟩))
  obtain ⟨Z, hZ, z0, z1, z2, hZW⟩ := fin'.out _ (.int .i64 0) (.int .i64 0) (.int .i64 0)
  rw [hZ]
  exact bodyPost_ret (v := .tuple #[.agg #[.int .i64 0, .int .i64 0, .int .i64 0], .bool false]) (by simp [results, Try.results11, go_sem, z0, z1, z2]) rfl ⟨rfl, hZW⟩
end Go.Proofs.Ytfphilgdikanfaa
