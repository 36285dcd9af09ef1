/-
  WHAT IS PROVED HERE: the law MatchTells is true of any two patterns, two numbers, any length and any width, in whatever world. No condition but that the halves are of 64 bits. Written by gen/mw.py.
-/
import Derived.Test.YtjfkkikbcmglnaaMe
import Derived.Test.YtjfkkikbcmglnaaMt
import Derived.Test.YtjfkkikbcmglnaaMv
namespace Go.Proofs.Ytjfkkikbcmglnaa
open Go.RowKit
/-- Blocks whose cells are known. -/
def Kn11 (W : World) (l : List (Nat × List Value)) : Prop := ∀ b cs, (b, cs) ∈ l → b < W.heap.size ∧ ∀ j v, cs[j]? = some v → W.cell? ⟨b, j, none⟩ = some v
theorem Kn11.go {W V : World} {l : List (Nat × List Value)} (h : Kn11 W l) (g : Below W.heap.size W V) : Kn11 V l := fun b cs hm =>
  ⟨Nat.lt_of_lt_of_le (h b cs hm).1 g.size, fun j v hj => (g.cell (p := ⟨b, j, none⟩) (h b cs hm).1).trans ((h b cs hm).2 j v hj)⟩
theorem Kn11.new {W : World} {l : List (Nat × List Value)} (h : Kn11 W l) (cs : Array Value) (T : TypeId) : Kn11 (W.alloc (.cells cs T)) ((W.heap.size, cs.toList) :: l) := fun b ds hm => by
  rcases List.mem_cons.1 hm with e | hm
  · cases e
    exact ⟨by simp, fun j v hj => (cell_new W cs T _ j rfl).trans (by rw [← Array.getElem?_toList]; exact hj)⟩
  · exact h.go ((Below.refl _ W).alloc (Nat.le_refl _) _) b ds hm
theorem Kn11.nil (W : World) : Kn11 W [] := fun _ _ h => by cases h
theorem Kn11.cell {W : World} {l : List (Nat × List Value)} (h : Kn11 W l) {b : Nat} {cs : List Value} (hm : (b, cs) ∈ l) (y : Ext) {j : Nat} {v : Value} (hj : cs[j]? = some v) : (plus W y).cell? ⟨b, j, none⟩ = some v :=
  (h.go (below_plus W y) b cs hm).2 j v hj
theorem eq_pv_self (a b : Nat) (w : World) : (binOp .eql 26 (pv a b) (pv a b)).run Try.prog w = .ok (.bool true) w := by rw [eql_pv]; simp
theorem neq_b_self (b : Bool) (w : World) : (binOp .neq 4 (.bool b) (.bool b)).run Try.prog w = .ok (.bool false) w := by cases b <;> go_simp
theorem eq_b_self (b : Bool) (w : World) : (binOp .eql 4 (.bool b) (.bool b)).run Try.prog w = .ok (.bool true) w := by cases b <;> go_simp
set_option maxRecDepth 100000 in
set_option maxHeartbeats 16000000 in
theorem tells11 (a m b o n k : Nat) (len x : Int) (ha : a < B128) (hm : m < B128) (hb : b < B128) (ho : o < B128) (hn : n < B128) (hk : k < B128) : Pure Try.prog 3 #[pv a m, pv b o, nv n, nv k, .int .i64 len, .int .i64 x] (.bool true) := by
  intro w
  have P0 := m_may a m x ha hm
  have R0 := ref_may a m x ha hm
  have P1 := m_agrees a m n hm hn
  have R1 := ref_agrees a m n ha hm hn
  have P2 := m_within a m b o x ha hm hb ho
  have R2 := ref_within a m b o x ha hm hb ho
  have P3 := m_meet a m b o x ha hm hb ho
  have R3 := ref_meet a m b o x ha hm hb ho
  have P4 := m_exact n x hn
  have R4 := ref_exact n x hn
  unfold preT at P4 R4
  have P5 := m_prefix n len x hn
  have R5 := ref_prefix n len x hn
  unfold preT at P5 R5
  have P6 := m_masked n k x hn hk
  have R6 := ref_masked n k x hn hk
  unfold maskT at P6 R6
  have P7 := m_length a m x ha hm
  have R7 := ref_length a m x ha hm
  unfold lenT at P7 R7
  have P8 := m_ahead x len len x
  have R8 := ref_ahead x len len x
  have PK := known11
  clear ha hm hb ho hn hk
  generalize mayB a m x = Y0 at P0 R0
  generalize agrB a m n = Y1 at P1 R1
  generalize withinB a m b o x = Y2 at P2 R2
  generalize meetB a m b o x = Y3 at P3 R3
  generalize preV n x x = v4 at P4 R4
  generalize preM n x x = m4 at P4 R4
  generalize preE n x x = e4 at P4 R4
  generalize preV n len x = v5 at P5 R5
  generalize preM n len x = m5 at P5 R5
  generalize preE n len x = e5 at P5 R5
  generalize maskV n k x = v6 at P6 R6
  generalize maskM n k x = m6 at P6 R6
  generalize maskE n k x = e6 at P6 R6
  generalize lenL a m x = L at P7 R7
  generalize lenB a m x = LB at P7 R7
  generalize aheadB x len len x = AH at P8 R8
  have p0 := Lib.hid P0
  have r0 := Lib.hid R0
  have p1 := Lib.hid P1
  have r1 := Lib.hid R1
  have p2 := Lib.hid P2
  have r2 := Lib.hid R2
  have p3 := Lib.hid P3
  have r3 := Lib.hid R3
  have p4 := Lib.hid P4
  have r4 := Lib.hid R4
  have p5 := Lib.hid P5
  have r5 := Lib.hid R5
  have p6 := Lib.hid P6
  have r6 := Lib.hid R6
  have p7 := Lib.hid P7
  have r7 := Lib.hid R7
  have p8 := Lib.hid P8
  have r8 := Lib.hid R8
  have pk := Lib.hid PK
  have eqP := eq_pv_self
  have nB := neq_b_self
  have eB := eq_b_self
  clear P0 R0 P1 R1 P2 R2 P3 R3 P4 R4 P5 R5 P6 R6 P7 R7 P8 R8 PK
  go_enter Try.func3, Try.ntmps3
  go_upto_region 1 with (fail)
  have hK0 := ((((Kn11.nil w).new #[.int .u64 (hi a), .int .u64 (lo a), .int .u64 (hi m), .int .u64 (lo m)] 26).new #[.int .u64 (hi b), .int .u64 (lo b), .int .u64 (hi o), .int .u64 (lo o)] 26).new #[.int .u64 (hi n), .int .u64 (lo n)] 24).new #[.int .u64 (hi k), .int .u64 (lo k)] 24
  have hB0 : Below w.heap.size w ((((w.alloc (.cells #[.int .u64 (hi a), .int .u64 (lo a), .int .u64 (hi m), .int .u64 (lo m)] 26)).alloc (.cells #[.int .u64 (hi b), .int .u64 (lo b), .int .u64 (hi o), .int .u64 (lo o)] 26)).alloc (.cells #[.int .u64 (hi n), .int .u64 (lo n)] 24)).alloc (.cells #[.int .u64 (hi k), .int .u64 (lo k)] 24)) := ((((Below.refl _ w).alloc (Nat.le_refl _) _).alloc (by simp) _).alloc (by simp; omega) _).alloc (by simp; omega) _
  simp only [World.size_alloc] at hK0
  obtain ⟨W, hW⟩ : ∃ W, ((((w.alloc (.cells #[.int .u64 (hi a), .int .u64 (lo a), .int .u64 (hi m), .int .u64 (lo m)] 26)).alloc (.cells #[.int .u64 (hi b), .int .u64 (lo b), .int .u64 (hi o), .int .u64 (lo o)] 26)).alloc (.cells #[.int .u64 (hi n), .int .u64 (lo n)] 24)).alloc (.cells #[.int .u64 (hi k), .int .u64 (lo k)] 24)) = W := ⟨_, rfl⟩
  rw [hW] at hK0 hB0 ⊢
  rw [← plus_self W]
  clear hW
  replace hK0 : Kn11 W [(w.heap.size + 1 + 1 + 1, [.int .u64 (hi k), .int .u64 (lo k)]), (w.heap.size + 1 + 1, [.int .u64 (hi n), .int .u64 (lo n)]), (w.heap.size + 1, [.int .u64 (hi b), .int .u64 (lo b), .int .u64 (hi o), .int .u64 (lo o)]), (w.heap.size, [.int .u64 (hi a), .int .u64 (lo a), .int .u64 (hi m), .int .u64 (lo m)])] := hK0
  have fa0 := fun y => hK0.cell (b := w.heap.size) (cs := [.int .u64 (hi a), .int .u64 (lo a), .int .u64 (hi m), .int .u64 (lo m)]) (by simp) y (j := 0) (v := .int .u64 (hi a)) rfl
  have fa1 := fun y => hK0.cell (b := w.heap.size) (cs := [.int .u64 (hi a), .int .u64 (lo a), .int .u64 (hi m), .int .u64 (lo m)]) (by simp) y (j := 1) (v := .int .u64 (lo a)) rfl
  have fa2 := fun y => hK0.cell (b := w.heap.size) (cs := [.int .u64 (hi a), .int .u64 (lo a), .int .u64 (hi m), .int .u64 (lo m)]) (by simp) y (j := 2) (v := .int .u64 (hi m)) rfl
  have fa3 := fun y => hK0.cell (b := w.heap.size) (cs := [.int .u64 (hi a), .int .u64 (lo a), .int .u64 (hi m), .int .u64 (lo m)]) (by simp) y (j := 3) (v := .int .u64 (lo m)) rfl
  have fb0 := fun y => hK0.cell (b := w.heap.size + 1) (cs := [.int .u64 (hi b), .int .u64 (lo b), .int .u64 (hi o), .int .u64 (lo o)]) (by simp) y (j := 0) (v := .int .u64 (hi b)) rfl
  have fb1 := fun y => hK0.cell (b := w.heap.size + 1) (cs := [.int .u64 (hi b), .int .u64 (lo b), .int .u64 (hi o), .int .u64 (lo o)]) (by simp) y (j := 1) (v := .int .u64 (lo b)) rfl
  have fb2 := fun y => hK0.cell (b := w.heap.size + 1) (cs := [.int .u64 (hi b), .int .u64 (lo b), .int .u64 (hi o), .int .u64 (lo o)]) (by simp) y (j := 2) (v := .int .u64 (hi o)) rfl
  have fb3 := fun y => hK0.cell (b := w.heap.size + 1) (cs := [.int .u64 (hi b), .int .u64 (lo b), .int .u64 (hi o), .int .u64 (lo o)]) (by simp) y (j := 3) (v := .int .u64 (lo o)) rfl
  have fn0 := fun y => hK0.cell (b := w.heap.size + 1 + 1) (cs := [.int .u64 (hi n), .int .u64 (lo n)]) (by simp) y (j := 0) (v := .int .u64 (hi n)) rfl
  have fn1 := fun y => hK0.cell (b := w.heap.size + 1 + 1) (cs := [.int .u64 (hi n), .int .u64 (lo n)]) (by simp) y (j := 1) (v := .int .u64 (lo n)) rfl
  have fk0 := fun y => hK0.cell (b := w.heap.size + 1 + 1 + 1) (cs := [.int .u64 (hi k), .int .u64 (lo k)]) (by simp) y (j := 0) (v := .int .u64 (hi k)) rfl
  have fk1 := fun y => hK0.cell (b := w.heap.size + 1 + 1 + 1) (cs := [.int .u64 (hi k), .int .u64 (lo k)]) (by simp) y (j := 1) (v := .int .u64 (lo k)) rfl
  have hK0' := Lib.hid hK0
  have hB0' := Lib.hid hB0
  clear hK0 hB0
  refine wp_region_own (by kernel_rfl) (by kernel_rfl) ?_
  repeat (go_big_quiet_step (first | (with_reducible exact p0.out.at _ _) | (with_reducible exact r0.out.at _ _) | (with_reducible exact p1.out.at _ _) | (with_reducible exact r1.out.at _ _) | (with_reducible exact p2.out.at _ _) | (with_reducible exact r2.out.at _ _) | (with_reducible exact p3.out.at _ _) | (with_reducible exact r3.out.at _ _)))
  refine wpQuiet_nil ?_
  rintro _ ⟨y0, rfl⟩
  clear p0 r0 p1 r1 p2 r2 p3 r3
  have qq := Lib.hid (fun y => p4.out.at W y)
  clear p4
  go_upto_region 4 with (with_reducible refine (qq.out _).mono ?_; rintro r w' ⟨rfl, y1, rfl⟩)
  have hKn := (hK0'.out.go (below_plus W y1)).new #[.int .u64 (hi v4), .int .u64 (lo v4), .int .u64 (hi m4), .int .u64 (lo m4)] 26
  have hBn : Below w.heap.size w ((plus W y1).alloc (.cells #[.int .u64 (hi v4), .int .u64 (lo v4), .int .u64 (hi m4), .int .u64 (lo m4)] 26)) := (hB0'.out.trans ((below_plus W y1).mono hB0'.out.size)).alloc (Nat.le_trans hB0'.out.size (size_plus _ _)) _
  obtain ⟨U1, hU⟩ : ∃ U, (plus W y1).alloc (.cells #[.int .u64 (hi v4), .int .u64 (lo v4), .int .u64 (hi m4), .int .u64 (lo m4)] 26) = U := ⟨_, rfl⟩
  rw [hU] at hKn hBn ⊢
  rw [← plus_self U1]
  clear hU qq fa0 fa1 fa2 fa3 fb0 fb1 fb2 fb3 fn0 fn1 fk0 fk1
  obtain ⟨c1, hc⟩ : ∃ c, (plus W y1).heap.size = c := ⟨_, rfl⟩
  rw [hc] at hKn ⊢
  clear hc
  replace hKn : Kn11 U1 ((c1, [.int .u64 (hi v4), .int .u64 (lo v4), .int .u64 (hi m4), .int .u64 (lo m4)]) :: ([(w.heap.size + 1 + 1 + 1, [.int .u64 (hi k), .int .u64 (lo k)]), (w.heap.size + 1 + 1, [.int .u64 (hi n), .int .u64 (lo n)]), (w.heap.size + 1, [.int .u64 (hi b), .int .u64 (lo b), .int .u64 (hi o), .int .u64 (lo o)]), (w.heap.size, [.int .u64 (hi a), .int .u64 (lo a), .int .u64 (hi m), .int .u64 (lo m)])])) := hKn
  have fa0 := fun y => hKn.cell (b := w.heap.size) (cs := [.int .u64 (hi a), .int .u64 (lo a), .int .u64 (hi m), .int .u64 (lo m)]) (by simp) y (j := 0) (v := .int .u64 (hi a)) rfl
  have fa1 := fun y => hKn.cell (b := w.heap.size) (cs := [.int .u64 (hi a), .int .u64 (lo a), .int .u64 (hi m), .int .u64 (lo m)]) (by simp) y (j := 1) (v := .int .u64 (lo a)) rfl
  have fa2 := fun y => hKn.cell (b := w.heap.size) (cs := [.int .u64 (hi a), .int .u64 (lo a), .int .u64 (hi m), .int .u64 (lo m)]) (by simp) y (j := 2) (v := .int .u64 (hi m)) rfl
  have fa3 := fun y => hKn.cell (b := w.heap.size) (cs := [.int .u64 (hi a), .int .u64 (lo a), .int .u64 (hi m), .int .u64 (lo m)]) (by simp) y (j := 3) (v := .int .u64 (lo m)) rfl
  have fb0 := fun y => hKn.cell (b := w.heap.size + 1) (cs := [.int .u64 (hi b), .int .u64 (lo b), .int .u64 (hi o), .int .u64 (lo o)]) (by simp) y (j := 0) (v := .int .u64 (hi b)) rfl
  have fb1 := fun y => hKn.cell (b := w.heap.size + 1) (cs := [.int .u64 (hi b), .int .u64 (lo b), .int .u64 (hi o), .int .u64 (lo o)]) (by simp) y (j := 1) (v := .int .u64 (lo b)) rfl
  have fb2 := fun y => hKn.cell (b := w.heap.size + 1) (cs := [.int .u64 (hi b), .int .u64 (lo b), .int .u64 (hi o), .int .u64 (lo o)]) (by simp) y (j := 2) (v := .int .u64 (hi o)) rfl
  have fb3 := fun y => hKn.cell (b := w.heap.size + 1) (cs := [.int .u64 (hi b), .int .u64 (lo b), .int .u64 (hi o), .int .u64 (lo o)]) (by simp) y (j := 3) (v := .int .u64 (lo o)) rfl
  have fn0 := fun y => hKn.cell (b := w.heap.size + 1 + 1) (cs := [.int .u64 (hi n), .int .u64 (lo n)]) (by simp) y (j := 0) (v := .int .u64 (hi n)) rfl
  have fn1 := fun y => hKn.cell (b := w.heap.size + 1 + 1) (cs := [.int .u64 (hi n), .int .u64 (lo n)]) (by simp) y (j := 1) (v := .int .u64 (lo n)) rfl
  have fk0 := fun y => hKn.cell (b := w.heap.size + 1 + 1 + 1) (cs := [.int .u64 (hi k), .int .u64 (lo k)]) (by simp) y (j := 0) (v := .int .u64 (hi k)) rfl
  have fk1 := fun y => hKn.cell (b := w.heap.size + 1 + 1 + 1) (cs := [.int .u64 (hi k), .int .u64 (lo k)]) (by simp) y (j := 1) (v := .int .u64 (lo k)) rfl
  have fx10 := fun y => hKn.cell (b := c1) (cs := [.int .u64 (hi v4), .int .u64 (lo v4), .int .u64 (hi m4), .int .u64 (lo m4)]) (by simp) y (j := 0) (v := .int .u64 (hi v4)) rfl
  have fx11 := fun y => hKn.cell (b := c1) (cs := [.int .u64 (hi v4), .int .u64 (lo v4), .int .u64 (hi m4), .int .u64 (lo m4)]) (by simp) y (j := 1) (v := .int .u64 (lo v4)) rfl
  have fx12 := fun y => hKn.cell (b := c1) (cs := [.int .u64 (hi v4), .int .u64 (lo v4), .int .u64 (hi m4), .int .u64 (lo m4)]) (by simp) y (j := 2) (v := .int .u64 (hi m4)) rfl
  have fx13 := fun y => hKn.cell (b := c1) (cs := [.int .u64 (hi v4), .int .u64 (lo v4), .int .u64 (hi m4), .int .u64 (lo m4)]) (by simp) y (j := 3) (v := .int .u64 (lo m4)) rfl
  have hK1 := Lib.hid hKn
  have hB1 := Lib.hid hBn
  clear hKn hBn hK0' hB0'
  have qq := Lib.hid (fun y => r4.out.at U1 y)
  clear r4
  go_upto_region 5 with (with_reducible refine (qq.out _).mono ?_; rintro r w' ⟨rfl, y2, rfl⟩)
  have hKn := (hK1.out.go (below_plus U1 y2)).new #[.int .u64 (hi v4), .int .u64 (lo v4), .int .u64 (hi m4), .int .u64 (lo m4)] 26
  have hBn : Below w.heap.size w ((plus U1 y2).alloc (.cells #[.int .u64 (hi v4), .int .u64 (lo v4), .int .u64 (hi m4), .int .u64 (lo m4)] 26)) := (hB1.out.trans ((below_plus U1 y2).mono hB1.out.size)).alloc (Nat.le_trans hB1.out.size (size_plus _ _)) _
  obtain ⟨U2, hU⟩ : ∃ U, (plus U1 y2).alloc (.cells #[.int .u64 (hi v4), .int .u64 (lo v4), .int .u64 (hi m4), .int .u64 (lo m4)] 26) = U := ⟨_, rfl⟩
  rw [hU] at hKn hBn ⊢
  rw [← plus_self U2]
  clear hU qq fa0 fa1 fa2 fa3 fb0 fb1 fb2 fb3 fn0 fn1 fk0 fk1 fx10 fx11 fx12 fx13
  obtain ⟨c2, hc⟩ : ∃ c, (plus U1 y2).heap.size = c := ⟨_, rfl⟩
  rw [hc] at hKn ⊢
  clear hc
  replace hKn : Kn11 U2 ((c2, [.int .u64 (hi v4), .int .u64 (lo v4), .int .u64 (hi m4), .int .u64 (lo m4)]) :: (c1, [.int .u64 (hi v4), .int .u64 (lo v4), .int .u64 (hi m4), .int .u64 (lo m4)]) :: ([(w.heap.size + 1 + 1 + 1, [.int .u64 (hi k), .int .u64 (lo k)]), (w.heap.size + 1 + 1, [.int .u64 (hi n), .int .u64 (lo n)]), (w.heap.size + 1, [.int .u64 (hi b), .int .u64 (lo b), .int .u64 (hi o), .int .u64 (lo o)]), (w.heap.size, [.int .u64 (hi a), .int .u64 (lo a), .int .u64 (hi m), .int .u64 (lo m)])])) := hKn
  have fa0 := fun y => hKn.cell (b := w.heap.size) (cs := [.int .u64 (hi a), .int .u64 (lo a), .int .u64 (hi m), .int .u64 (lo m)]) (by simp) y (j := 0) (v := .int .u64 (hi a)) rfl
  have fa1 := fun y => hKn.cell (b := w.heap.size) (cs := [.int .u64 (hi a), .int .u64 (lo a), .int .u64 (hi m), .int .u64 (lo m)]) (by simp) y (j := 1) (v := .int .u64 (lo a)) rfl
  have fa2 := fun y => hKn.cell (b := w.heap.size) (cs := [.int .u64 (hi a), .int .u64 (lo a), .int .u64 (hi m), .int .u64 (lo m)]) (by simp) y (j := 2) (v := .int .u64 (hi m)) rfl
  have fa3 := fun y => hKn.cell (b := w.heap.size) (cs := [.int .u64 (hi a), .int .u64 (lo a), .int .u64 (hi m), .int .u64 (lo m)]) (by simp) y (j := 3) (v := .int .u64 (lo m)) rfl
  have fb0 := fun y => hKn.cell (b := w.heap.size + 1) (cs := [.int .u64 (hi b), .int .u64 (lo b), .int .u64 (hi o), .int .u64 (lo o)]) (by simp) y (j := 0) (v := .int .u64 (hi b)) rfl
  have fb1 := fun y => hKn.cell (b := w.heap.size + 1) (cs := [.int .u64 (hi b), .int .u64 (lo b), .int .u64 (hi o), .int .u64 (lo o)]) (by simp) y (j := 1) (v := .int .u64 (lo b)) rfl
  have fb2 := fun y => hKn.cell (b := w.heap.size + 1) (cs := [.int .u64 (hi b), .int .u64 (lo b), .int .u64 (hi o), .int .u64 (lo o)]) (by simp) y (j := 2) (v := .int .u64 (hi o)) rfl
  have fb3 := fun y => hKn.cell (b := w.heap.size + 1) (cs := [.int .u64 (hi b), .int .u64 (lo b), .int .u64 (hi o), .int .u64 (lo o)]) (by simp) y (j := 3) (v := .int .u64 (lo o)) rfl
  have fn0 := fun y => hKn.cell (b := w.heap.size + 1 + 1) (cs := [.int .u64 (hi n), .int .u64 (lo n)]) (by simp) y (j := 0) (v := .int .u64 (hi n)) rfl
  have fn1 := fun y => hKn.cell (b := w.heap.size + 1 + 1) (cs := [.int .u64 (hi n), .int .u64 (lo n)]) (by simp) y (j := 1) (v := .int .u64 (lo n)) rfl
  have fk0 := fun y => hKn.cell (b := w.heap.size + 1 + 1 + 1) (cs := [.int .u64 (hi k), .int .u64 (lo k)]) (by simp) y (j := 0) (v := .int .u64 (hi k)) rfl
  have fk1 := fun y => hKn.cell (b := w.heap.size + 1 + 1 + 1) (cs := [.int .u64 (hi k), .int .u64 (lo k)]) (by simp) y (j := 1) (v := .int .u64 (lo k)) rfl
  have fx10 := fun y => hKn.cell (b := c1) (cs := [.int .u64 (hi v4), .int .u64 (lo v4), .int .u64 (hi m4), .int .u64 (lo m4)]) (by simp) y (j := 0) (v := .int .u64 (hi v4)) rfl
  have fx11 := fun y => hKn.cell (b := c1) (cs := [.int .u64 (hi v4), .int .u64 (lo v4), .int .u64 (hi m4), .int .u64 (lo m4)]) (by simp) y (j := 1) (v := .int .u64 (lo v4)) rfl
  have fx12 := fun y => hKn.cell (b := c1) (cs := [.int .u64 (hi v4), .int .u64 (lo v4), .int .u64 (hi m4), .int .u64 (lo m4)]) (by simp) y (j := 2) (v := .int .u64 (hi m4)) rfl
  have fx13 := fun y => hKn.cell (b := c1) (cs := [.int .u64 (hi v4), .int .u64 (lo v4), .int .u64 (hi m4), .int .u64 (lo m4)]) (by simp) y (j := 3) (v := .int .u64 (lo m4)) rfl
  have fx20 := fun y => hKn.cell (b := c2) (cs := [.int .u64 (hi v4), .int .u64 (lo v4), .int .u64 (hi m4), .int .u64 (lo m4)]) (by simp) y (j := 0) (v := .int .u64 (hi v4)) rfl
  have fx21 := fun y => hKn.cell (b := c2) (cs := [.int .u64 (hi v4), .int .u64 (lo v4), .int .u64 (hi m4), .int .u64 (lo m4)]) (by simp) y (j := 1) (v := .int .u64 (lo v4)) rfl
  have fx22 := fun y => hKn.cell (b := c2) (cs := [.int .u64 (hi v4), .int .u64 (lo v4), .int .u64 (hi m4), .int .u64 (lo m4)]) (by simp) y (j := 2) (v := .int .u64 (hi m4)) rfl
  have fx23 := fun y => hKn.cell (b := c2) (cs := [.int .u64 (hi v4), .int .u64 (lo v4), .int .u64 (hi m4), .int .u64 (lo m4)]) (by simp) y (j := 3) (v := .int .u64 (lo m4)) rfl
  have hK2 := Lib.hid hKn
  have hB2 := Lib.hid hBn
  clear hKn hBn hK1 hB1
  have qq := Lib.hid (fun y => p5.out.at U2 y)
  clear p5
  go_upto_region 6 with (with_reducible refine (qq.out _).mono ?_; rintro r w' ⟨rfl, y3, rfl⟩)
  have hKn := (hK2.out.go (below_plus U2 y3)).new #[.int .u64 (hi v5), .int .u64 (lo v5), .int .u64 (hi m5), .int .u64 (lo m5)] 26
  have hBn : Below w.heap.size w ((plus U2 y3).alloc (.cells #[.int .u64 (hi v5), .int .u64 (lo v5), .int .u64 (hi m5), .int .u64 (lo m5)] 26)) := (hB2.out.trans ((below_plus U2 y3).mono hB2.out.size)).alloc (Nat.le_trans hB2.out.size (size_plus _ _)) _
  obtain ⟨U3, hU⟩ : ∃ U, (plus U2 y3).alloc (.cells #[.int .u64 (hi v5), .int .u64 (lo v5), .int .u64 (hi m5), .int .u64 (lo m5)] 26) = U := ⟨_, rfl⟩
  rw [hU] at hKn hBn ⊢
  rw [← plus_self U3]
  clear hU qq fa0 fa1 fa2 fa3 fb0 fb1 fb2 fb3 fn0 fn1 fk0 fk1 fx10 fx11 fx12 fx13 fx20 fx21 fx22 fx23
  obtain ⟨c3, hc⟩ : ∃ c, (plus U2 y3).heap.size = c := ⟨_, rfl⟩
  rw [hc] at hKn ⊢
  clear hc
  replace hKn : Kn11 U3 ((c3, [.int .u64 (hi v5), .int .u64 (lo v5), .int .u64 (hi m5), .int .u64 (lo m5)]) :: (c2, [.int .u64 (hi v4), .int .u64 (lo v4), .int .u64 (hi m4), .int .u64 (lo m4)]) :: (c1, [.int .u64 (hi v4), .int .u64 (lo v4), .int .u64 (hi m4), .int .u64 (lo m4)]) :: ([(w.heap.size + 1 + 1 + 1, [.int .u64 (hi k), .int .u64 (lo k)]), (w.heap.size + 1 + 1, [.int .u64 (hi n), .int .u64 (lo n)]), (w.heap.size + 1, [.int .u64 (hi b), .int .u64 (lo b), .int .u64 (hi o), .int .u64 (lo o)]), (w.heap.size, [.int .u64 (hi a), .int .u64 (lo a), .int .u64 (hi m), .int .u64 (lo m)])])) := hKn
  have fa0 := fun y => hKn.cell (b := w.heap.size) (cs := [.int .u64 (hi a), .int .u64 (lo a), .int .u64 (hi m), .int .u64 (lo m)]) (by simp) y (j := 0) (v := .int .u64 (hi a)) rfl
  have fa1 := fun y => hKn.cell (b := w.heap.size) (cs := [.int .u64 (hi a), .int .u64 (lo a), .int .u64 (hi m), .int .u64 (lo m)]) (by simp) y (j := 1) (v := .int .u64 (lo a)) rfl
  have fa2 := fun y => hKn.cell (b := w.heap.size) (cs := [.int .u64 (hi a), .int .u64 (lo a), .int .u64 (hi m), .int .u64 (lo m)]) (by simp) y (j := 2) (v := .int .u64 (hi m)) rfl
  have fa3 := fun y => hKn.cell (b := w.heap.size) (cs := [.int .u64 (hi a), .int .u64 (lo a), .int .u64 (hi m), .int .u64 (lo m)]) (by simp) y (j := 3) (v := .int .u64 (lo m)) rfl
  have fb0 := fun y => hKn.cell (b := w.heap.size + 1) (cs := [.int .u64 (hi b), .int .u64 (lo b), .int .u64 (hi o), .int .u64 (lo o)]) (by simp) y (j := 0) (v := .int .u64 (hi b)) rfl
  have fb1 := fun y => hKn.cell (b := w.heap.size + 1) (cs := [.int .u64 (hi b), .int .u64 (lo b), .int .u64 (hi o), .int .u64 (lo o)]) (by simp) y (j := 1) (v := .int .u64 (lo b)) rfl
  have fb2 := fun y => hKn.cell (b := w.heap.size + 1) (cs := [.int .u64 (hi b), .int .u64 (lo b), .int .u64 (hi o), .int .u64 (lo o)]) (by simp) y (j := 2) (v := .int .u64 (hi o)) rfl
  have fb3 := fun y => hKn.cell (b := w.heap.size + 1) (cs := [.int .u64 (hi b), .int .u64 (lo b), .int .u64 (hi o), .int .u64 (lo o)]) (by simp) y (j := 3) (v := .int .u64 (lo o)) rfl
  have fn0 := fun y => hKn.cell (b := w.heap.size + 1 + 1) (cs := [.int .u64 (hi n), .int .u64 (lo n)]) (by simp) y (j := 0) (v := .int .u64 (hi n)) rfl
  have fn1 := fun y => hKn.cell (b := w.heap.size + 1 + 1) (cs := [.int .u64 (hi n), .int .u64 (lo n)]) (by simp) y (j := 1) (v := .int .u64 (lo n)) rfl
  have fk0 := fun y => hKn.cell (b := w.heap.size + 1 + 1 + 1) (cs := [.int .u64 (hi k), .int .u64 (lo k)]) (by simp) y (j := 0) (v := .int .u64 (hi k)) rfl
  have fk1 := fun y => hKn.cell (b := w.heap.size + 1 + 1 + 1) (cs := [.int .u64 (hi k), .int .u64 (lo k)]) (by simp) y (j := 1) (v := .int .u64 (lo k)) rfl
  have fx10 := fun y => hKn.cell (b := c1) (cs := [.int .u64 (hi v4), .int .u64 (lo v4), .int .u64 (hi m4), .int .u64 (lo m4)]) (by simp) y (j := 0) (v := .int .u64 (hi v4)) rfl
  have fx11 := fun y => hKn.cell (b := c1) (cs := [.int .u64 (hi v4), .int .u64 (lo v4), .int .u64 (hi m4), .int .u64 (lo m4)]) (by simp) y (j := 1) (v := .int .u64 (lo v4)) rfl
  have fx12 := fun y => hKn.cell (b := c1) (cs := [.int .u64 (hi v4), .int .u64 (lo v4), .int .u64 (hi m4), .int .u64 (lo m4)]) (by simp) y (j := 2) (v := .int .u64 (hi m4)) rfl
  have fx13 := fun y => hKn.cell (b := c1) (cs := [.int .u64 (hi v4), .int .u64 (lo v4), .int .u64 (hi m4), .int .u64 (lo m4)]) (by simp) y (j := 3) (v := .int .u64 (lo m4)) rfl
  have fx20 := fun y => hKn.cell (b := c2) (cs := [.int .u64 (hi v4), .int .u64 (lo v4), .int .u64 (hi m4), .int .u64 (lo m4)]) (by simp) y (j := 0) (v := .int .u64 (hi v4)) rfl
  have fx21 := fun y => hKn.cell (b := c2) (cs := [.int .u64 (hi v4), .int .u64 (lo v4), .int .u64 (hi m4), .int .u64 (lo m4)]) (by simp) y (j := 1) (v := .int .u64 (lo v4)) rfl
  have fx22 := fun y => hKn.cell (b := c2) (cs := [.int .u64 (hi v4), .int .u64 (lo v4), .int .u64 (hi m4), .int .u64 (lo m4)]) (by simp) y (j := 2) (v := .int .u64 (hi m4)) rfl
  have fx23 := fun y => hKn.cell (b := c2) (cs := [.int .u64 (hi v4), .int .u64 (lo v4), .int .u64 (hi m4), .int .u64 (lo m4)]) (by simp) y (j := 3) (v := .int .u64 (lo m4)) rfl
  have fx30 := fun y => hKn.cell (b := c3) (cs := [.int .u64 (hi v5), .int .u64 (lo v5), .int .u64 (hi m5), .int .u64 (lo m5)]) (by simp) y (j := 0) (v := .int .u64 (hi v5)) rfl
  have fx31 := fun y => hKn.cell (b := c3) (cs := [.int .u64 (hi v5), .int .u64 (lo v5), .int .u64 (hi m5), .int .u64 (lo m5)]) (by simp) y (j := 1) (v := .int .u64 (lo v5)) rfl
  have fx32 := fun y => hKn.cell (b := c3) (cs := [.int .u64 (hi v5), .int .u64 (lo v5), .int .u64 (hi m5), .int .u64 (lo m5)]) (by simp) y (j := 2) (v := .int .u64 (hi m5)) rfl
  have fx33 := fun y => hKn.cell (b := c3) (cs := [.int .u64 (hi v5), .int .u64 (lo v5), .int .u64 (hi m5), .int .u64 (lo m5)]) (by simp) y (j := 3) (v := .int .u64 (lo m5)) rfl
  have hK3 := Lib.hid hKn
  have hB3 := Lib.hid hBn
  clear hKn hBn hK2 hB2
  have qq := Lib.hid (fun y => r5.out.at U3 y)
  clear r5
  go_upto_region 7 with (with_reducible refine (qq.out _).mono ?_; rintro r w' ⟨rfl, y4, rfl⟩)
  have hKn := (hK3.out.go (below_plus U3 y4)).new #[.int .u64 (hi v5), .int .u64 (lo v5), .int .u64 (hi m5), .int .u64 (lo m5)] 26
  have hBn : Below w.heap.size w ((plus U3 y4).alloc (.cells #[.int .u64 (hi v5), .int .u64 (lo v5), .int .u64 (hi m5), .int .u64 (lo m5)] 26)) := (hB3.out.trans ((below_plus U3 y4).mono hB3.out.size)).alloc (Nat.le_trans hB3.out.size (size_plus _ _)) _
  obtain ⟨U4, hU⟩ : ∃ U, (plus U3 y4).alloc (.cells #[.int .u64 (hi v5), .int .u64 (lo v5), .int .u64 (hi m5), .int .u64 (lo m5)] 26) = U := ⟨_, rfl⟩
  rw [hU] at hKn hBn ⊢
  rw [← plus_self U4]
  clear hU qq fa0 fa1 fa2 fa3 fb0 fb1 fb2 fb3 fn0 fn1 fk0 fk1 fx10 fx11 fx12 fx13 fx20 fx21 fx22 fx23 fx30 fx31 fx32 fx33
  obtain ⟨c4, hc⟩ : ∃ c, (plus U3 y4).heap.size = c := ⟨_, rfl⟩
  rw [hc] at hKn ⊢
  clear hc
  replace hKn : Kn11 U4 ((c4, [.int .u64 (hi v5), .int .u64 (lo v5), .int .u64 (hi m5), .int .u64 (lo m5)]) :: (c3, [.int .u64 (hi v5), .int .u64 (lo v5), .int .u64 (hi m5), .int .u64 (lo m5)]) :: (c2, [.int .u64 (hi v4), .int .u64 (lo v4), .int .u64 (hi m4), .int .u64 (lo m4)]) :: (c1, [.int .u64 (hi v4), .int .u64 (lo v4), .int .u64 (hi m4), .int .u64 (lo m4)]) :: ([(w.heap.size + 1 + 1 + 1, [.int .u64 (hi k), .int .u64 (lo k)]), (w.heap.size + 1 + 1, [.int .u64 (hi n), .int .u64 (lo n)]), (w.heap.size + 1, [.int .u64 (hi b), .int .u64 (lo b), .int .u64 (hi o), .int .u64 (lo o)]), (w.heap.size, [.int .u64 (hi a), .int .u64 (lo a), .int .u64 (hi m), .int .u64 (lo m)])])) := hKn
  have fa0 := fun y => hKn.cell (b := w.heap.size) (cs := [.int .u64 (hi a), .int .u64 (lo a), .int .u64 (hi m), .int .u64 (lo m)]) (by simp) y (j := 0) (v := .int .u64 (hi a)) rfl
  have fa1 := fun y => hKn.cell (b := w.heap.size) (cs := [.int .u64 (hi a), .int .u64 (lo a), .int .u64 (hi m), .int .u64 (lo m)]) (by simp) y (j := 1) (v := .int .u64 (lo a)) rfl
  have fa2 := fun y => hKn.cell (b := w.heap.size) (cs := [.int .u64 (hi a), .int .u64 (lo a), .int .u64 (hi m), .int .u64 (lo m)]) (by simp) y (j := 2) (v := .int .u64 (hi m)) rfl
  have fa3 := fun y => hKn.cell (b := w.heap.size) (cs := [.int .u64 (hi a), .int .u64 (lo a), .int .u64 (hi m), .int .u64 (lo m)]) (by simp) y (j := 3) (v := .int .u64 (lo m)) rfl
  have fb0 := fun y => hKn.cell (b := w.heap.size + 1) (cs := [.int .u64 (hi b), .int .u64 (lo b), .int .u64 (hi o), .int .u64 (lo o)]) (by simp) y (j := 0) (v := .int .u64 (hi b)) rfl
  have fb1 := fun y => hKn.cell (b := w.heap.size + 1) (cs := [.int .u64 (hi b), .int .u64 (lo b), .int .u64 (hi o), .int .u64 (lo o)]) (by simp) y (j := 1) (v := .int .u64 (lo b)) rfl
  have fb2 := fun y => hKn.cell (b := w.heap.size + 1) (cs := [.int .u64 (hi b), .int .u64 (lo b), .int .u64 (hi o), .int .u64 (lo o)]) (by simp) y (j := 2) (v := .int .u64 (hi o)) rfl
  have fb3 := fun y => hKn.cell (b := w.heap.size + 1) (cs := [.int .u64 (hi b), .int .u64 (lo b), .int .u64 (hi o), .int .u64 (lo o)]) (by simp) y (j := 3) (v := .int .u64 (lo o)) rfl
  have fn0 := fun y => hKn.cell (b := w.heap.size + 1 + 1) (cs := [.int .u64 (hi n), .int .u64 (lo n)]) (by simp) y (j := 0) (v := .int .u64 (hi n)) rfl
  have fn1 := fun y => hKn.cell (b := w.heap.size + 1 + 1) (cs := [.int .u64 (hi n), .int .u64 (lo n)]) (by simp) y (j := 1) (v := .int .u64 (lo n)) rfl
  have fk0 := fun y => hKn.cell (b := w.heap.size + 1 + 1 + 1) (cs := [.int .u64 (hi k), .int .u64 (lo k)]) (by simp) y (j := 0) (v := .int .u64 (hi k)) rfl
  have fk1 := fun y => hKn.cell (b := w.heap.size + 1 + 1 + 1) (cs := [.int .u64 (hi k), .int .u64 (lo k)]) (by simp) y (j := 1) (v := .int .u64 (lo k)) rfl
  have fx10 := fun y => hKn.cell (b := c1) (cs := [.int .u64 (hi v4), .int .u64 (lo v4), .int .u64 (hi m4), .int .u64 (lo m4)]) (by simp) y (j := 0) (v := .int .u64 (hi v4)) rfl
  have fx11 := fun y => hKn.cell (b := c1) (cs := [.int .u64 (hi v4), .int .u64 (lo v4), .int .u64 (hi m4), .int .u64 (lo m4)]) (by simp) y (j := 1) (v := .int .u64 (lo v4)) rfl
  have fx12 := fun y => hKn.cell (b := c1) (cs := [.int .u64 (hi v4), .int .u64 (lo v4), .int .u64 (hi m4), .int .u64 (lo m4)]) (by simp) y (j := 2) (v := .int .u64 (hi m4)) rfl
  have fx13 := fun y => hKn.cell (b := c1) (cs := [.int .u64 (hi v4), .int .u64 (lo v4), .int .u64 (hi m4), .int .u64 (lo m4)]) (by simp) y (j := 3) (v := .int .u64 (lo m4)) rfl
  have fx20 := fun y => hKn.cell (b := c2) (cs := [.int .u64 (hi v4), .int .u64 (lo v4), .int .u64 (hi m4), .int .u64 (lo m4)]) (by simp) y (j := 0) (v := .int .u64 (hi v4)) rfl
  have fx21 := fun y => hKn.cell (b := c2) (cs := [.int .u64 (hi v4), .int .u64 (lo v4), .int .u64 (hi m4), .int .u64 (lo m4)]) (by simp) y (j := 1) (v := .int .u64 (lo v4)) rfl
  have fx22 := fun y => hKn.cell (b := c2) (cs := [.int .u64 (hi v4), .int .u64 (lo v4), .int .u64 (hi m4), .int .u64 (lo m4)]) (by simp) y (j := 2) (v := .int .u64 (hi m4)) rfl
  have fx23 := fun y => hKn.cell (b := c2) (cs := [.int .u64 (hi v4), .int .u64 (lo v4), .int .u64 (hi m4), .int .u64 (lo m4)]) (by simp) y (j := 3) (v := .int .u64 (lo m4)) rfl
  have fx30 := fun y => hKn.cell (b := c3) (cs := [.int .u64 (hi v5), .int .u64 (lo v5), .int .u64 (hi m5), .int .u64 (lo m5)]) (by simp) y (j := 0) (v := .int .u64 (hi v5)) rfl
  have fx31 := fun y => hKn.cell (b := c3) (cs := [.int .u64 (hi v5), .int .u64 (lo v5), .int .u64 (hi m5), .int .u64 (lo m5)]) (by simp) y (j := 1) (v := .int .u64 (lo v5)) rfl
  have fx32 := fun y => hKn.cell (b := c3) (cs := [.int .u64 (hi v5), .int .u64 (lo v5), .int .u64 (hi m5), .int .u64 (lo m5)]) (by simp) y (j := 2) (v := .int .u64 (hi m5)) rfl
  have fx33 := fun y => hKn.cell (b := c3) (cs := [.int .u64 (hi v5), .int .u64 (lo v5), .int .u64 (hi m5), .int .u64 (lo m5)]) (by simp) y (j := 3) (v := .int .u64 (lo m5)) rfl
  have fx40 := fun y => hKn.cell (b := c4) (cs := [.int .u64 (hi v5), .int .u64 (lo v5), .int .u64 (hi m5), .int .u64 (lo m5)]) (by simp) y (j := 0) (v := .int .u64 (hi v5)) rfl
  have fx41 := fun y => hKn.cell (b := c4) (cs := [.int .u64 (hi v5), .int .u64 (lo v5), .int .u64 (hi m5), .int .u64 (lo m5)]) (by simp) y (j := 1) (v := .int .u64 (lo v5)) rfl
  have fx42 := fun y => hKn.cell (b := c4) (cs := [.int .u64 (hi v5), .int .u64 (lo v5), .int .u64 (hi m5), .int .u64 (lo m5)]) (by simp) y (j := 2) (v := .int .u64 (hi m5)) rfl
  have fx43 := fun y => hKn.cell (b := c4) (cs := [.int .u64 (hi v5), .int .u64 (lo v5), .int .u64 (hi m5), .int .u64 (lo m5)]) (by simp) y (j := 3) (v := .int .u64 (lo m5)) rfl
  have hK4 := Lib.hid hKn
  have hB4 := Lib.hid hBn
  clear hKn hBn hK3 hB3
  have qq := Lib.hid (fun y => p6.out.at U4 y)
  clear p6
  go_upto_region 8 with (with_reducible refine (qq.out _).mono ?_; rintro r w' ⟨rfl, y5, rfl⟩)
  have hKn := (hK4.out.go (below_plus U4 y5)).new #[.int .u64 (hi v6), .int .u64 (lo v6), .int .u64 (hi m6), .int .u64 (lo m6)] 26
  have hBn : Below w.heap.size w ((plus U4 y5).alloc (.cells #[.int .u64 (hi v6), .int .u64 (lo v6), .int .u64 (hi m6), .int .u64 (lo m6)] 26)) := (hB4.out.trans ((below_plus U4 y5).mono hB4.out.size)).alloc (Nat.le_trans hB4.out.size (size_plus _ _)) _
  obtain ⟨U5, hU⟩ : ∃ U, (plus U4 y5).alloc (.cells #[.int .u64 (hi v6), .int .u64 (lo v6), .int .u64 (hi m6), .int .u64 (lo m6)] 26) = U := ⟨_, rfl⟩
  rw [hU] at hKn hBn ⊢
  rw [← plus_self U5]
  clear hU qq fa0 fa1 fa2 fa3 fb0 fb1 fb2 fb3 fn0 fn1 fk0 fk1 fx10 fx11 fx12 fx13 fx20 fx21 fx22 fx23 fx30 fx31 fx32 fx33 fx40 fx41 fx42 fx43
  obtain ⟨c5, hc⟩ : ∃ c, (plus U4 y5).heap.size = c := ⟨_, rfl⟩
  rw [hc] at hKn ⊢
  clear hc
  replace hKn : Kn11 U5 ((c5, [.int .u64 (hi v6), .int .u64 (lo v6), .int .u64 (hi m6), .int .u64 (lo m6)]) :: (c4, [.int .u64 (hi v5), .int .u64 (lo v5), .int .u64 (hi m5), .int .u64 (lo m5)]) :: (c3, [.int .u64 (hi v5), .int .u64 (lo v5), .int .u64 (hi m5), .int .u64 (lo m5)]) :: (c2, [.int .u64 (hi v4), .int .u64 (lo v4), .int .u64 (hi m4), .int .u64 (lo m4)]) :: (c1, [.int .u64 (hi v4), .int .u64 (lo v4), .int .u64 (hi m4), .int .u64 (lo m4)]) :: ([(w.heap.size + 1 + 1 + 1, [.int .u64 (hi k), .int .u64 (lo k)]), (w.heap.size + 1 + 1, [.int .u64 (hi n), .int .u64 (lo n)]), (w.heap.size + 1, [.int .u64 (hi b), .int .u64 (lo b), .int .u64 (hi o), .int .u64 (lo o)]), (w.heap.size, [.int .u64 (hi a), .int .u64 (lo a), .int .u64 (hi m), .int .u64 (lo m)])])) := hKn
  have fa0 := fun y => hKn.cell (b := w.heap.size) (cs := [.int .u64 (hi a), .int .u64 (lo a), .int .u64 (hi m), .int .u64 (lo m)]) (by simp) y (j := 0) (v := .int .u64 (hi a)) rfl
  have fa1 := fun y => hKn.cell (b := w.heap.size) (cs := [.int .u64 (hi a), .int .u64 (lo a), .int .u64 (hi m), .int .u64 (lo m)]) (by simp) y (j := 1) (v := .int .u64 (lo a)) rfl
  have fa2 := fun y => hKn.cell (b := w.heap.size) (cs := [.int .u64 (hi a), .int .u64 (lo a), .int .u64 (hi m), .int .u64 (lo m)]) (by simp) y (j := 2) (v := .int .u64 (hi m)) rfl
  have fa3 := fun y => hKn.cell (b := w.heap.size) (cs := [.int .u64 (hi a), .int .u64 (lo a), .int .u64 (hi m), .int .u64 (lo m)]) (by simp) y (j := 3) (v := .int .u64 (lo m)) rfl
  have fb0 := fun y => hKn.cell (b := w.heap.size + 1) (cs := [.int .u64 (hi b), .int .u64 (lo b), .int .u64 (hi o), .int .u64 (lo o)]) (by simp) y (j := 0) (v := .int .u64 (hi b)) rfl
  have fb1 := fun y => hKn.cell (b := w.heap.size + 1) (cs := [.int .u64 (hi b), .int .u64 (lo b), .int .u64 (hi o), .int .u64 (lo o)]) (by simp) y (j := 1) (v := .int .u64 (lo b)) rfl
  have fb2 := fun y => hKn.cell (b := w.heap.size + 1) (cs := [.int .u64 (hi b), .int .u64 (lo b), .int .u64 (hi o), .int .u64 (lo o)]) (by simp) y (j := 2) (v := .int .u64 (hi o)) rfl
  have fb3 := fun y => hKn.cell (b := w.heap.size + 1) (cs := [.int .u64 (hi b), .int .u64 (lo b), .int .u64 (hi o), .int .u64 (lo o)]) (by simp) y (j := 3) (v := .int .u64 (lo o)) rfl
  have fn0 := fun y => hKn.cell (b := w.heap.size + 1 + 1) (cs := [.int .u64 (hi n), .int .u64 (lo n)]) (by simp) y (j := 0) (v := .int .u64 (hi n)) rfl
  have fn1 := fun y => hKn.cell (b := w.heap.size + 1 + 1) (cs := [.int .u64 (hi n), .int .u64 (lo n)]) (by simp) y (j := 1) (v := .int .u64 (lo n)) rfl
  have fk0 := fun y => hKn.cell (b := w.heap.size + 1 + 1 + 1) (cs := [.int .u64 (hi k), .int .u64 (lo k)]) (by simp) y (j := 0) (v := .int .u64 (hi k)) rfl
  have fk1 := fun y => hKn.cell (b := w.heap.size + 1 + 1 + 1) (cs := [.int .u64 (hi k), .int .u64 (lo k)]) (by simp) y (j := 1) (v := .int .u64 (lo k)) rfl
  have fx10 := fun y => hKn.cell (b := c1) (cs := [.int .u64 (hi v4), .int .u64 (lo v4), .int .u64 (hi m4), .int .u64 (lo m4)]) (by simp) y (j := 0) (v := .int .u64 (hi v4)) rfl
  have fx11 := fun y => hKn.cell (b := c1) (cs := [.int .u64 (hi v4), .int .u64 (lo v4), .int .u64 (hi m4), .int .u64 (lo m4)]) (by simp) y (j := 1) (v := .int .u64 (lo v4)) rfl
  have fx12 := fun y => hKn.cell (b := c1) (cs := [.int .u64 (hi v4), .int .u64 (lo v4), .int .u64 (hi m4), .int .u64 (lo m4)]) (by simp) y (j := 2) (v := .int .u64 (hi m4)) rfl
  have fx13 := fun y => hKn.cell (b := c1) (cs := [.int .u64 (hi v4), .int .u64 (lo v4), .int .u64 (hi m4), .int .u64 (lo m4)]) (by simp) y (j := 3) (v := .int .u64 (lo m4)) rfl
  have fx20 := fun y => hKn.cell (b := c2) (cs := [.int .u64 (hi v4), .int .u64 (lo v4), .int .u64 (hi m4), .int .u64 (lo m4)]) (by simp) y (j := 0) (v := .int .u64 (hi v4)) rfl
  have fx21 := fun y => hKn.cell (b := c2) (cs := [.int .u64 (hi v4), .int .u64 (lo v4), .int .u64 (hi m4), .int .u64 (lo m4)]) (by simp) y (j := 1) (v := .int .u64 (lo v4)) rfl
  have fx22 := fun y => hKn.cell (b := c2) (cs := [.int .u64 (hi v4), .int .u64 (lo v4), .int .u64 (hi m4), .int .u64 (lo m4)]) (by simp) y (j := 2) (v := .int .u64 (hi m4)) rfl
  have fx23 := fun y => hKn.cell (b := c2) (cs := [.int .u64 (hi v4), .int .u64 (lo v4), .int .u64 (hi m4), .int .u64 (lo m4)]) (by simp) y (j := 3) (v := .int .u64 (lo m4)) rfl
  have fx30 := fun y => hKn.cell (b := c3) (cs := [.int .u64 (hi v5), .int .u64 (lo v5), .int .u64 (hi m5), .int .u64 (lo m5)]) (by simp) y (j := 0) (v := .int .u64 (hi v5)) rfl
  have fx31 := fun y => hKn.cell (b := c3) (cs := [.int .u64 (hi v5), .int .u64 (lo v5), .int .u64 (hi m5), .int .u64 (lo m5)]) (by simp) y (j := 1) (v := .int .u64 (lo v5)) rfl
  have fx32 := fun y => hKn.cell (b := c3) (cs := [.int .u64 (hi v5), .int .u64 (lo v5), .int .u64 (hi m5), .int .u64 (lo m5)]) (by simp) y (j := 2) (v := .int .u64 (hi m5)) rfl
  have fx33 := fun y => hKn.cell (b := c3) (cs := [.int .u64 (hi v5), .int .u64 (lo v5), .int .u64 (hi m5), .int .u64 (lo m5)]) (by simp) y (j := 3) (v := .int .u64 (lo m5)) rfl
  have fx40 := fun y => hKn.cell (b := c4) (cs := [.int .u64 (hi v5), .int .u64 (lo v5), .int .u64 (hi m5), .int .u64 (lo m5)]) (by simp) y (j := 0) (v := .int .u64 (hi v5)) rfl
  have fx41 := fun y => hKn.cell (b := c4) (cs := [.int .u64 (hi v5), .int .u64 (lo v5), .int .u64 (hi m5), .int .u64 (lo m5)]) (by simp) y (j := 1) (v := .int .u64 (lo v5)) rfl
  have fx42 := fun y => hKn.cell (b := c4) (cs := [.int .u64 (hi v5), .int .u64 (lo v5), .int .u64 (hi m5), .int .u64 (lo m5)]) (by simp) y (j := 2) (v := .int .u64 (hi m5)) rfl
  have fx43 := fun y => hKn.cell (b := c4) (cs := [.int .u64 (hi v5), .int .u64 (lo v5), .int .u64 (hi m5), .int .u64 (lo m5)]) (by simp) y (j := 3) (v := .int .u64 (lo m5)) rfl
  have fx50 := fun y => hKn.cell (b := c5) (cs := [.int .u64 (hi v6), .int .u64 (lo v6), .int .u64 (hi m6), .int .u64 (lo m6)]) (by simp) y (j := 0) (v := .int .u64 (hi v6)) rfl
  have fx51 := fun y => hKn.cell (b := c5) (cs := [.int .u64 (hi v6), .int .u64 (lo v6), .int .u64 (hi m6), .int .u64 (lo m6)]) (by simp) y (j := 1) (v := .int .u64 (lo v6)) rfl
  have fx52 := fun y => hKn.cell (b := c5) (cs := [.int .u64 (hi v6), .int .u64 (lo v6), .int .u64 (hi m6), .int .u64 (lo m6)]) (by simp) y (j := 2) (v := .int .u64 (hi m6)) rfl
  have fx53 := fun y => hKn.cell (b := c5) (cs := [.int .u64 (hi v6), .int .u64 (lo v6), .int .u64 (hi m6), .int .u64 (lo m6)]) (by simp) y (j := 3) (v := .int .u64 (lo m6)) rfl
  have hK5 := Lib.hid hKn
  have hB5 := Lib.hid hBn
  clear hKn hBn hK4 hB4
  have qq := Lib.hid (fun y => r6.out.at U5 y)
  clear r6
  go_upto_region 9 with (with_reducible refine (qq.out _).mono ?_; rintro r w' ⟨rfl, y6, rfl⟩)
  have hKn := (hK5.out.go (below_plus U5 y6)).new #[.int .u64 (hi v6), .int .u64 (lo v6), .int .u64 (hi m6), .int .u64 (lo m6)] 26
  have hBn : Below w.heap.size w ((plus U5 y6).alloc (.cells #[.int .u64 (hi v6), .int .u64 (lo v6), .int .u64 (hi m6), .int .u64 (lo m6)] 26)) := (hB5.out.trans ((below_plus U5 y6).mono hB5.out.size)).alloc (Nat.le_trans hB5.out.size (size_plus _ _)) _
  obtain ⟨U6, hU⟩ : ∃ U, (plus U5 y6).alloc (.cells #[.int .u64 (hi v6), .int .u64 (lo v6), .int .u64 (hi m6), .int .u64 (lo m6)] 26) = U := ⟨_, rfl⟩
  rw [hU] at hKn hBn ⊢
  rw [← plus_self U6]
  clear hU qq fa0 fa1 fa2 fa3 fb0 fb1 fb2 fb3 fn0 fn1 fk0 fk1 fx10 fx11 fx12 fx13 fx20 fx21 fx22 fx23 fx30 fx31 fx32 fx33 fx40 fx41 fx42 fx43 fx50 fx51 fx52 fx53
  obtain ⟨c6, hc⟩ : ∃ c, (plus U5 y6).heap.size = c := ⟨_, rfl⟩
  rw [hc] at hKn ⊢
  clear hc
  replace hKn : Kn11 U6 ((c6, [.int .u64 (hi v6), .int .u64 (lo v6), .int .u64 (hi m6), .int .u64 (lo m6)]) :: (c5, [.int .u64 (hi v6), .int .u64 (lo v6), .int .u64 (hi m6), .int .u64 (lo m6)]) :: (c4, [.int .u64 (hi v5), .int .u64 (lo v5), .int .u64 (hi m5), .int .u64 (lo m5)]) :: (c3, [.int .u64 (hi v5), .int .u64 (lo v5), .int .u64 (hi m5), .int .u64 (lo m5)]) :: (c2, [.int .u64 (hi v4), .int .u64 (lo v4), .int .u64 (hi m4), .int .u64 (lo m4)]) :: (c1, [.int .u64 (hi v4), .int .u64 (lo v4), .int .u64 (hi m4), .int .u64 (lo m4)]) :: ([(w.heap.size + 1 + 1 + 1, [.int .u64 (hi k), .int .u64 (lo k)]), (w.heap.size + 1 + 1, [.int .u64 (hi n), .int .u64 (lo n)]), (w.heap.size + 1, [.int .u64 (hi b), .int .u64 (lo b), .int .u64 (hi o), .int .u64 (lo o)]), (w.heap.size, [.int .u64 (hi a), .int .u64 (lo a), .int .u64 (hi m), .int .u64 (lo m)])])) := hKn
  have fa0 := fun y => hKn.cell (b := w.heap.size) (cs := [.int .u64 (hi a), .int .u64 (lo a), .int .u64 (hi m), .int .u64 (lo m)]) (by simp) y (j := 0) (v := .int .u64 (hi a)) rfl
  have fa1 := fun y => hKn.cell (b := w.heap.size) (cs := [.int .u64 (hi a), .int .u64 (lo a), .int .u64 (hi m), .int .u64 (lo m)]) (by simp) y (j := 1) (v := .int .u64 (lo a)) rfl
  have fa2 := fun y => hKn.cell (b := w.heap.size) (cs := [.int .u64 (hi a), .int .u64 (lo a), .int .u64 (hi m), .int .u64 (lo m)]) (by simp) y (j := 2) (v := .int .u64 (hi m)) rfl
  have fa3 := fun y => hKn.cell (b := w.heap.size) (cs := [.int .u64 (hi a), .int .u64 (lo a), .int .u64 (hi m), .int .u64 (lo m)]) (by simp) y (j := 3) (v := .int .u64 (lo m)) rfl
  have fb0 := fun y => hKn.cell (b := w.heap.size + 1) (cs := [.int .u64 (hi b), .int .u64 (lo b), .int .u64 (hi o), .int .u64 (lo o)]) (by simp) y (j := 0) (v := .int .u64 (hi b)) rfl
  have fb1 := fun y => hKn.cell (b := w.heap.size + 1) (cs := [.int .u64 (hi b), .int .u64 (lo b), .int .u64 (hi o), .int .u64 (lo o)]) (by simp) y (j := 1) (v := .int .u64 (lo b)) rfl
  have fb2 := fun y => hKn.cell (b := w.heap.size + 1) (cs := [.int .u64 (hi b), .int .u64 (lo b), .int .u64 (hi o), .int .u64 (lo o)]) (by simp) y (j := 2) (v := .int .u64 (hi o)) rfl
  have fb3 := fun y => hKn.cell (b := w.heap.size + 1) (cs := [.int .u64 (hi b), .int .u64 (lo b), .int .u64 (hi o), .int .u64 (lo o)]) (by simp) y (j := 3) (v := .int .u64 (lo o)) rfl
  have fn0 := fun y => hKn.cell (b := w.heap.size + 1 + 1) (cs := [.int .u64 (hi n), .int .u64 (lo n)]) (by simp) y (j := 0) (v := .int .u64 (hi n)) rfl
  have fn1 := fun y => hKn.cell (b := w.heap.size + 1 + 1) (cs := [.int .u64 (hi n), .int .u64 (lo n)]) (by simp) y (j := 1) (v := .int .u64 (lo n)) rfl
  have fk0 := fun y => hKn.cell (b := w.heap.size + 1 + 1 + 1) (cs := [.int .u64 (hi k), .int .u64 (lo k)]) (by simp) y (j := 0) (v := .int .u64 (hi k)) rfl
  have fk1 := fun y => hKn.cell (b := w.heap.size + 1 + 1 + 1) (cs := [.int .u64 (hi k), .int .u64 (lo k)]) (by simp) y (j := 1) (v := .int .u64 (lo k)) rfl
  have fx10 := fun y => hKn.cell (b := c1) (cs := [.int .u64 (hi v4), .int .u64 (lo v4), .int .u64 (hi m4), .int .u64 (lo m4)]) (by simp) y (j := 0) (v := .int .u64 (hi v4)) rfl
  have fx11 := fun y => hKn.cell (b := c1) (cs := [.int .u64 (hi v4), .int .u64 (lo v4), .int .u64 (hi m4), .int .u64 (lo m4)]) (by simp) y (j := 1) (v := .int .u64 (lo v4)) rfl
  have fx12 := fun y => hKn.cell (b := c1) (cs := [.int .u64 (hi v4), .int .u64 (lo v4), .int .u64 (hi m4), .int .u64 (lo m4)]) (by simp) y (j := 2) (v := .int .u64 (hi m4)) rfl
  have fx13 := fun y => hKn.cell (b := c1) (cs := [.int .u64 (hi v4), .int .u64 (lo v4), .int .u64 (hi m4), .int .u64 (lo m4)]) (by simp) y (j := 3) (v := .int .u64 (lo m4)) rfl
  have fx20 := fun y => hKn.cell (b := c2) (cs := [.int .u64 (hi v4), .int .u64 (lo v4), .int .u64 (hi m4), .int .u64 (lo m4)]) (by simp) y (j := 0) (v := .int .u64 (hi v4)) rfl
  have fx21 := fun y => hKn.cell (b := c2) (cs := [.int .u64 (hi v4), .int .u64 (lo v4), .int .u64 (hi m4), .int .u64 (lo m4)]) (by simp) y (j := 1) (v := .int .u64 (lo v4)) rfl
  have fx22 := fun y => hKn.cell (b := c2) (cs := [.int .u64 (hi v4), .int .u64 (lo v4), .int .u64 (hi m4), .int .u64 (lo m4)]) (by simp) y (j := 2) (v := .int .u64 (hi m4)) rfl
  have fx23 := fun y => hKn.cell (b := c2) (cs := [.int .u64 (hi v4), .int .u64 (lo v4), .int .u64 (hi m4), .int .u64 (lo m4)]) (by simp) y (j := 3) (v := .int .u64 (lo m4)) rfl
  have fx30 := fun y => hKn.cell (b := c3) (cs := [.int .u64 (hi v5), .int .u64 (lo v5), .int .u64 (hi m5), .int .u64 (lo m5)]) (by simp) y (j := 0) (v := .int .u64 (hi v5)) rfl
  have fx31 := fun y => hKn.cell (b := c3) (cs := [.int .u64 (hi v5), .int .u64 (lo v5), .int .u64 (hi m5), .int .u64 (lo m5)]) (by simp) y (j := 1) (v := .int .u64 (lo v5)) rfl
  have fx32 := fun y => hKn.cell (b := c3) (cs := [.int .u64 (hi v5), .int .u64 (lo v5), .int .u64 (hi m5), .int .u64 (lo m5)]) (by simp) y (j := 2) (v := .int .u64 (hi m5)) rfl
  have fx33 := fun y => hKn.cell (b := c3) (cs := [.int .u64 (hi v5), .int .u64 (lo v5), .int .u64 (hi m5), .int .u64 (lo m5)]) (by simp) y (j := 3) (v := .int .u64 (lo m5)) rfl
  have fx40 := fun y => hKn.cell (b := c4) (cs := [.int .u64 (hi v5), .int .u64 (lo v5), .int .u64 (hi m5), .int .u64 (lo m5)]) (by simp) y (j := 0) (v := .int .u64 (hi v5)) rfl
  have fx41 := fun y => hKn.cell (b := c4) (cs := [.int .u64 (hi v5), .int .u64 (lo v5), .int .u64 (hi m5), .int .u64 (lo m5)]) (by simp) y (j := 1) (v := .int .u64 (lo v5)) rfl
  have fx42 := fun y => hKn.cell (b := c4) (cs := [.int .u64 (hi v5), .int .u64 (lo v5), .int .u64 (hi m5), .int .u64 (lo m5)]) (by simp) y (j := 2) (v := .int .u64 (hi m5)) rfl
  have fx43 := fun y => hKn.cell (b := c4) (cs := [.int .u64 (hi v5), .int .u64 (lo v5), .int .u64 (hi m5), .int .u64 (lo m5)]) (by simp) y (j := 3) (v := .int .u64 (lo m5)) rfl
  have fx50 := fun y => hKn.cell (b := c5) (cs := [.int .u64 (hi v6), .int .u64 (lo v6), .int .u64 (hi m6), .int .u64 (lo m6)]) (by simp) y (j := 0) (v := .int .u64 (hi v6)) rfl
  have fx51 := fun y => hKn.cell (b := c5) (cs := [.int .u64 (hi v6), .int .u64 (lo v6), .int .u64 (hi m6), .int .u64 (lo m6)]) (by simp) y (j := 1) (v := .int .u64 (lo v6)) rfl
  have fx52 := fun y => hKn.cell (b := c5) (cs := [.int .u64 (hi v6), .int .u64 (lo v6), .int .u64 (hi m6), .int .u64 (lo m6)]) (by simp) y (j := 2) (v := .int .u64 (hi m6)) rfl
  have fx53 := fun y => hKn.cell (b := c5) (cs := [.int .u64 (hi v6), .int .u64 (lo v6), .int .u64 (hi m6), .int .u64 (lo m6)]) (by simp) y (j := 3) (v := .int .u64 (lo m6)) rfl
  have fx60 := fun y => hKn.cell (b := c6) (cs := [.int .u64 (hi v6), .int .u64 (lo v6), .int .u64 (hi m6), .int .u64 (lo m6)]) (by simp) y (j := 0) (v := .int .u64 (hi v6)) rfl
  have fx61 := fun y => hKn.cell (b := c6) (cs := [.int .u64 (hi v6), .int .u64 (lo v6), .int .u64 (hi m6), .int .u64 (lo m6)]) (by simp) y (j := 1) (v := .int .u64 (lo v6)) rfl
  have fx62 := fun y => hKn.cell (b := c6) (cs := [.int .u64 (hi v6), .int .u64 (lo v6), .int .u64 (hi m6), .int .u64 (lo m6)]) (by simp) y (j := 2) (v := .int .u64 (hi m6)) rfl
  have fx63 := fun y => hKn.cell (b := c6) (cs := [.int .u64 (hi v6), .int .u64 (lo v6), .int .u64 (hi m6), .int .u64 (lo m6)]) (by simp) y (j := 3) (v := .int .u64 (lo m6)) rfl
  have hK6 := Lib.hid hKn
  have hB6 := Lib.hid hBn
  clear hKn hBn hK5 hB5
  have q7 := Lib.hid (fun y => p7.out.at U6 y)
  have s7 := Lib.hid (fun y => r7.out.at U6 y)
  clear p7 r7
  go_upto_region 11 with (first | (with_reducible refine (q7.out _).mono ?_; rintro r w' ⟨rfl, y, rfl⟩) | (with_reducible refine (s7.out _).mono ?_; rintro r w' ⟨rfl, y8, rfl⟩))
  clear q7 s7
  go_upto_region 12 with (fail)
  have hKn := ((hK6.out.go (below_plus U6 y8)).new #[.int .i64 0, .slice none 0 0, .int .i64 x, .int .i64 len, .int .i64 0, .slice none 0 0] 42).new #[.int .i64 0, .slice none 0 0, .int .i64 len, .int .i64 x, .int .i64 0, .slice none 0 0] 42
  simp only [World.size_alloc] at hKn
  have hBn : Below w.heap.size w (((plus U6 y8).alloc (.cells #[.int .i64 0, .slice none 0 0, .int .i64 x, .int .i64 len, .int .i64 0, .slice none 0 0] 42)).alloc (.cells #[.int .i64 0, .slice none 0 0, .int .i64 len, .int .i64 x, .int .i64 0, .slice none 0 0] 42)) := ((hB6.out.trans ((below_plus U6 y8).mono hB6.out.size)).alloc (Nat.le_trans hB6.out.size (size_plus _ _)) _).alloc (Nat.le_trans hB6.out.size (Nat.le_trans (size_plus _ y8) (by simp))) _
  obtain ⟨V, hU⟩ : ∃ U, ((plus U6 y8).alloc (.cells #[.int .i64 0, .slice none 0 0, .int .i64 x, .int .i64 len, .int .i64 0, .slice none 0 0] 42)).alloc (.cells #[.int .i64 0, .slice none 0 0, .int .i64 len, .int .i64 x, .int .i64 0, .slice none 0 0] 42) = U := ⟨_, rfl⟩
  rw [hU] at hKn hBn ⊢
  rw [← plus_self V]
  clear hU fa0 fa1 fa2 fa3 fb0 fb1 fb2 fb3 fn0 fn1 fk0 fk1 fx10 fx11 fx12 fx13 fx20 fx21 fx22 fx23 fx30 fx31 fx32 fx33 fx40 fx41 fx42 fx43 fx50 fx51 fx52 fx53 fx60 fx61 fx62 fx63
  obtain ⟨c7, hc⟩ : ∃ c, (plus U6 y8).heap.size = c := ⟨_, rfl⟩
  rw [hc] at hKn ⊢
  clear hc
  replace hKn : Kn11 V ((c7 + 1, [.int .i64 0, .slice none 0 0, .int .i64 len, .int .i64 x, .int .i64 0, .slice none 0 0]) :: (c7, [.int .i64 0, .slice none 0 0, .int .i64 x, .int .i64 len, .int .i64 0, .slice none 0 0]) :: (c6, [.int .u64 (hi v6), .int .u64 (lo v6), .int .u64 (hi m6), .int .u64 (lo m6)]) :: (c5, [.int .u64 (hi v6), .int .u64 (lo v6), .int .u64 (hi m6), .int .u64 (lo m6)]) :: (c4, [.int .u64 (hi v5), .int .u64 (lo v5), .int .u64 (hi m5), .int .u64 (lo m5)]) :: (c3, [.int .u64 (hi v5), .int .u64 (lo v5), .int .u64 (hi m5), .int .u64 (lo m5)]) :: (c2, [.int .u64 (hi v4), .int .u64 (lo v4), .int .u64 (hi m4), .int .u64 (lo m4)]) :: (c1, [.int .u64 (hi v4), .int .u64 (lo v4), .int .u64 (hi m4), .int .u64 (lo m4)]) :: ([(w.heap.size + 1 + 1 + 1, [.int .u64 (hi k), .int .u64 (lo k)]), (w.heap.size + 1 + 1, [.int .u64 (hi n), .int .u64 (lo n)]), (w.heap.size + 1, [.int .u64 (hi b), .int .u64 (lo b), .int .u64 (hi o), .int .u64 (lo o)]), (w.heap.size, [.int .u64 (hi a), .int .u64 (lo a), .int .u64 (hi m), .int .u64 (lo m)])])) := hKn
  have fx10 := fun y => hKn.cell (b := c1) (cs := [.int .u64 (hi v4), .int .u64 (lo v4), .int .u64 (hi m4), .int .u64 (lo m4)]) (by simp) y (j := 0) (v := .int .u64 (hi v4)) rfl
  have fx11 := fun y => hKn.cell (b := c1) (cs := [.int .u64 (hi v4), .int .u64 (lo v4), .int .u64 (hi m4), .int .u64 (lo m4)]) (by simp) y (j := 1) (v := .int .u64 (lo v4)) rfl
  have fx12 := fun y => hKn.cell (b := c1) (cs := [.int .u64 (hi v4), .int .u64 (lo v4), .int .u64 (hi m4), .int .u64 (lo m4)]) (by simp) y (j := 2) (v := .int .u64 (hi m4)) rfl
  have fx13 := fun y => hKn.cell (b := c1) (cs := [.int .u64 (hi v4), .int .u64 (lo v4), .int .u64 (hi m4), .int .u64 (lo m4)]) (by simp) y (j := 3) (v := .int .u64 (lo m4)) rfl
  have fx20 := fun y => hKn.cell (b := c2) (cs := [.int .u64 (hi v4), .int .u64 (lo v4), .int .u64 (hi m4), .int .u64 (lo m4)]) (by simp) y (j := 0) (v := .int .u64 (hi v4)) rfl
  have fx21 := fun y => hKn.cell (b := c2) (cs := [.int .u64 (hi v4), .int .u64 (lo v4), .int .u64 (hi m4), .int .u64 (lo m4)]) (by simp) y (j := 1) (v := .int .u64 (lo v4)) rfl
  have fx22 := fun y => hKn.cell (b := c2) (cs := [.int .u64 (hi v4), .int .u64 (lo v4), .int .u64 (hi m4), .int .u64 (lo m4)]) (by simp) y (j := 2) (v := .int .u64 (hi m4)) rfl
  have fx23 := fun y => hKn.cell (b := c2) (cs := [.int .u64 (hi v4), .int .u64 (lo v4), .int .u64 (hi m4), .int .u64 (lo m4)]) (by simp) y (j := 3) (v := .int .u64 (lo m4)) rfl
  have fx30 := fun y => hKn.cell (b := c3) (cs := [.int .u64 (hi v5), .int .u64 (lo v5), .int .u64 (hi m5), .int .u64 (lo m5)]) (by simp) y (j := 0) (v := .int .u64 (hi v5)) rfl
  have fx31 := fun y => hKn.cell (b := c3) (cs := [.int .u64 (hi v5), .int .u64 (lo v5), .int .u64 (hi m5), .int .u64 (lo m5)]) (by simp) y (j := 1) (v := .int .u64 (lo v5)) rfl
  have fx32 := fun y => hKn.cell (b := c3) (cs := [.int .u64 (hi v5), .int .u64 (lo v5), .int .u64 (hi m5), .int .u64 (lo m5)]) (by simp) y (j := 2) (v := .int .u64 (hi m5)) rfl
  have fx33 := fun y => hKn.cell (b := c3) (cs := [.int .u64 (hi v5), .int .u64 (lo v5), .int .u64 (hi m5), .int .u64 (lo m5)]) (by simp) y (j := 3) (v := .int .u64 (lo m5)) rfl
  have fx40 := fun y => hKn.cell (b := c4) (cs := [.int .u64 (hi v5), .int .u64 (lo v5), .int .u64 (hi m5), .int .u64 (lo m5)]) (by simp) y (j := 0) (v := .int .u64 (hi v5)) rfl
  have fx41 := fun y => hKn.cell (b := c4) (cs := [.int .u64 (hi v5), .int .u64 (lo v5), .int .u64 (hi m5), .int .u64 (lo m5)]) (by simp) y (j := 1) (v := .int .u64 (lo v5)) rfl
  have fx42 := fun y => hKn.cell (b := c4) (cs := [.int .u64 (hi v5), .int .u64 (lo v5), .int .u64 (hi m5), .int .u64 (lo m5)]) (by simp) y (j := 2) (v := .int .u64 (hi m5)) rfl
  have fx43 := fun y => hKn.cell (b := c4) (cs := [.int .u64 (hi v5), .int .u64 (lo v5), .int .u64 (hi m5), .int .u64 (lo m5)]) (by simp) y (j := 3) (v := .int .u64 (lo m5)) rfl
  have fx50 := fun y => hKn.cell (b := c5) (cs := [.int .u64 (hi v6), .int .u64 (lo v6), .int .u64 (hi m6), .int .u64 (lo m6)]) (by simp) y (j := 0) (v := .int .u64 (hi v6)) rfl
  have fx51 := fun y => hKn.cell (b := c5) (cs := [.int .u64 (hi v6), .int .u64 (lo v6), .int .u64 (hi m6), .int .u64 (lo m6)]) (by simp) y (j := 1) (v := .int .u64 (lo v6)) rfl
  have fx52 := fun y => hKn.cell (b := c5) (cs := [.int .u64 (hi v6), .int .u64 (lo v6), .int .u64 (hi m6), .int .u64 (lo m6)]) (by simp) y (j := 2) (v := .int .u64 (hi m6)) rfl
  have fx53 := fun y => hKn.cell (b := c5) (cs := [.int .u64 (hi v6), .int .u64 (lo v6), .int .u64 (hi m6), .int .u64 (lo m6)]) (by simp) y (j := 3) (v := .int .u64 (lo m6)) rfl
  have fx60 := fun y => hKn.cell (b := c6) (cs := [.int .u64 (hi v6), .int .u64 (lo v6), .int .u64 (hi m6), .int .u64 (lo m6)]) (by simp) y (j := 0) (v := .int .u64 (hi v6)) rfl
  have fx61 := fun y => hKn.cell (b := c6) (cs := [.int .u64 (hi v6), .int .u64 (lo v6), .int .u64 (hi m6), .int .u64 (lo m6)]) (by simp) y (j := 1) (v := .int .u64 (lo v6)) rfl
  have fx62 := fun y => hKn.cell (b := c6) (cs := [.int .u64 (hi v6), .int .u64 (lo v6), .int .u64 (hi m6), .int .u64 (lo m6)]) (by simp) y (j := 2) (v := .int .u64 (hi m6)) rfl
  have fx63 := fun y => hKn.cell (b := c6) (cs := [.int .u64 (hi v6), .int .u64 (lo v6), .int .u64 (hi m6), .int .u64 (lo m6)]) (by simp) y (j := 3) (v := .int .u64 (lo m6)) rfl
  have fu0 := fun y => hKn.cell (b := c7) (cs := [.int .i64 0, .slice none 0 0, .int .i64 x, .int .i64 len, .int .i64 0, .slice none 0 0]) (by simp) y (j := 0) (v := .int .i64 0) rfl
  have fu1 := fun y => hKn.cell (b := c7) (cs := [.int .i64 0, .slice none 0 0, .int .i64 x, .int .i64 len, .int .i64 0, .slice none 0 0]) (by simp) y (j := 1) (v := .slice none 0 0) rfl
  have fu2 := fun y => hKn.cell (b := c7) (cs := [.int .i64 0, .slice none 0 0, .int .i64 x, .int .i64 len, .int .i64 0, .slice none 0 0]) (by simp) y (j := 2) (v := .int .i64 x) rfl
  have fu3 := fun y => hKn.cell (b := c7) (cs := [.int .i64 0, .slice none 0 0, .int .i64 x, .int .i64 len, .int .i64 0, .slice none 0 0]) (by simp) y (j := 3) (v := .int .i64 len) rfl
  have fu4 := fun y => hKn.cell (b := c7) (cs := [.int .i64 0, .slice none 0 0, .int .i64 x, .int .i64 len, .int .i64 0, .slice none 0 0]) (by simp) y (j := 4) (v := .int .i64 0) rfl
  have fu5 := fun y => hKn.cell (b := c7) (cs := [.int .i64 0, .slice none 0 0, .int .i64 x, .int .i64 len, .int .i64 0, .slice none 0 0]) (by simp) y (j := 5) (v := .slice none 0 0) rfl
  have fv0 := fun y => hKn.cell (b := c7 + 1) (cs := [.int .i64 0, .slice none 0 0, .int .i64 len, .int .i64 x, .int .i64 0, .slice none 0 0]) (by simp) y (j := 0) (v := .int .i64 0) rfl
  have fv1 := fun y => hKn.cell (b := c7 + 1) (cs := [.int .i64 0, .slice none 0 0, .int .i64 len, .int .i64 x, .int .i64 0, .slice none 0 0]) (by simp) y (j := 1) (v := .slice none 0 0) rfl
  have fv2 := fun y => hKn.cell (b := c7 + 1) (cs := [.int .i64 0, .slice none 0 0, .int .i64 len, .int .i64 x, .int .i64 0, .slice none 0 0]) (by simp) y (j := 2) (v := .int .i64 len) rfl
  have fv3 := fun y => hKn.cell (b := c7 + 1) (cs := [.int .i64 0, .slice none 0 0, .int .i64 len, .int .i64 x, .int .i64 0, .slice none 0 0]) (by simp) y (j := 3) (v := .int .i64 x) rfl
  have fv4 := fun y => hKn.cell (b := c7 + 1) (cs := [.int .i64 0, .slice none 0 0, .int .i64 len, .int .i64 x, .int .i64 0, .slice none 0 0]) (by simp) y (j := 4) (v := .int .i64 0) rfl
  have fv5 := fun y => hKn.cell (b := c7 + 1) (cs := [.int .i64 0, .slice none 0 0, .int .i64 len, .int .i64 x, .int .i64 0, .slice none 0 0]) (by simp) y (j := 5) (v := .slice none 0 0) rfl
  have hB := Lib.hid hBn
  clear hKn hBn hK6 hB6
  refine wp_region_own (by kernel_rfl) (by kernel_rfl) ?_
  repeat (go_big_quiet_step (first | (with_reducible exact p8.out.at _ _) | (with_reducible exact r8.out.at _ _) | (with_reducible exact pk.out.at _ _)))
  refine wpQuiet_nil ?_
  rintro _ ⟨y9, rfl⟩
  go_wp2
  go_ret
  exact ⟨rfl, plus_of_below (hB.out.trans ((below_plus V _).mono hB.out.size))⟩
end Go.Proofs.Ytjfkkikbcmglnaa
