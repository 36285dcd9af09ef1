/-
  WHAT IS PROVED HERE: the landed made: what a call makes, or 0, if the store is full, or gets so by it (recover in a deferred literal).
-/
import Derived.Test.YtfphilgdikanfaaBdI
import Derived.Recover
namespace Go.Proofs.Ytfphilgdikanfaa
open Go.RowKit
theorem assert_room (w : World) : (Instr.typeAssert (.iface 69 (.agg #[])) 20 69 true).run Try.prog w = .ok (.tuple #[.agg #[], .bool true]) w := by
  simp [Instr.typeAssert, run_underlying Try.underlying69, go_sem]
theorem lt_of_cell {w : World} {n o : Nat} {u : Value} (h : w.cell? ⟨n, o, none⟩ = some u) : n < w.heap.size := by
  by_cases q : n < w.heap.size
  · exact q
  · have e : w.heap[n]? = none := Array.getElem?_eq_none (by omega)
    simp [World.cell?, e] at h
theorem bd_frame15 (p x : Value) : (#[p] ++ ((Array.replicate 14 undef).setIfInBounds 3 x).setIfInBounds 0 x : Array Value) = #[p, x, undef, undef, x, undef, undef, undef, undef, undef, undef, undef, undef, undef, undef] := by
  simp [Array.replicate]
set_option maxHeartbeats 4000000 in
theorem made_none (n : Nat) (w : World) :
    CallsD Try.prog 40 #[.pointer (some ⟨n, 0, none⟩)] .returning w fun e u' w' => e = .returned (.tuple #[]) ∧ u' = .returning ∧ w' = w := by
  refine callsD_of_wpS Try.func40 rfl fun c₀ cs hu => ?_
  apply wpS_seq
  apply wpS_region
  simp [wpOpsS, go_sem, recoverD, hu, Try.ntmps40, Exit.thenS]
  refine wpS_of_wp ?_
  rw [bd_frame15]
  go_wp2
  simp only [bodyPostS]
  cases c₀
  simp only at hu
  subst hu
  exact ⟨trivial, _, rfl, _, results_none rfl _ _ _, by simp⟩
set_option maxHeartbeats 4000000 in
theorem made_room (n : Nat) (older : List PanicEntry) (w : World) (u : Value) (hp : w.cell? ⟨n, 0, none⟩ = some u) (fp : ∀ o, w.frozen? ⟨n, o, none⟩ = false) :
    CallsD Try.prog 40 #[.pointer (some ⟨n, 0, none⟩)] (.panicking ({ v := .iface 69 (.agg #[]), recovered := false } :: older)) w
      fun e u' w' => e = .returned (.tuple #[]) ∧ u' = .panicking ({ v := .iface 69 (.agg #[]), recovered := true } :: older) ∧ ∃ o, w' = (w.setCell ⟨n, 0, none⟩ (.int .i64 0)).alloc o := by
  have hta := assert_room
  have hn := lt_of_cell hp
  refine callsD_of_wpS Try.func40 rfl fun c₀ cs hu => ?_
  apply wpS_seq
  apply wpS_region
  simp [wpOpsS, go_sem, recoverD, hu, Try.ntmps40, Exit.thenS]
  refine wpS_of_wp ?_
  rw [bd_frame15]
  have hp2 := fun o => (cell_old w o n 0 hn).trans hp
  have fp2 := fun o j => (frozen_old w o n j hn).trans (fp j)
  go_wp2
  simp only [bodyPostS]
  exact ⟨trivial, _, rfl, _, results_none rfl _ _ _, by simp, by simp, _, rfl⟩
/-- A store: a block that points to its nodes. -/
structure StAt (w : World) (bs : Nat) (L : BdL) (cap : Nat) (full : Bool) (R : List Bd) : Prop where
  head : w.heap[bs]? = some (.cells #[.pointer (some ⟨L.bn, 0, none⟩)] 45 (0, 0))
  nodes : BdAt w L cap full R
theorem StAt.below {w w' : World} {bs : Nat} {L : BdL} {cap : Nat} {full : Bool} {R : List Bd} (h : StAt w bs L cap full R) (hB : Below w.heap.size w w') : StAt w' bs L cap full R :=
  ⟨(hB.block _ (Array.getElem?_eq_some_iff.1 h.head).1).trans h.head, h.nodes.below hB⟩
theorem StAt.plus {w : World} {bs : Nat} {L : BdL} {cap : Nat} {full : Bool} {R : List Bd} (h : StAt w bs L cap full R) (y : Ext) : StAt (plus w y) bs L cap full R := h.below (below_plus w y)
theorem StAt.go {w w' : World} {bs : Nat} {L L' : BdL} {cap : Nat} {full full' : Bool} {R R' : List Bd} (h : StAt w bs L cap full R) (hG : BdGo w L w' L') (hA : BdAt w' L' cap full' R') : StAt w' bs L' cap full' R' :=
  ⟨by rw [hG.move.bn]; exact hG.cells h.nodes h.head (by decide) (by decide), hA⟩
/-- How a call of a store that makes a diagram ends: its number, or 0. -/
def StOut (w : World) (bs : Nat) (L : BdL) (cap : Nat) (r : List Bd × Option Nat) (e : Ending) (w' : World) : Prop :=
  ∃ L', BdGo w L w' L' ∧ StAt w' bs L' cap r.2.isNone r.1 ∧ e = .returned (.int .i64 ((r.2.getD 0 : Nat) : Int))
set_option maxRecDepth 100000 in
set_option maxHeartbeats 8000000 in
theorem st_there {W : World} {bs : Nat} {L : BdL} {cap : Nat} {full : Bool} {R : List Bd} (h : StAt W bs L cap full R) :
    BdPure Try.prog W 25 #[.pointer (some ⟨bs, 0, none⟩)] (.pointer (some ⟨L.bn, 0, none⟩)) := by
  intro y0
  have h' := h.plus y0
  obtain ⟨V, hV⟩ : ∃ V, plus W y0 = V := ⟨_, rfl⟩
  have hVW : Hid (∃ z, V = plus W z) := Lib.hid ⟨y0, hV.symm⟩
  rw [hV] at h' ⊢
  clear hV
  have c0 := bd_cell h'.head 0 _ rfl
  clear h h'
  go_enter Try.func25, Try.ntmps25
  go_wp2
  go_ret
  exact ⟨rfl, hVW.out⟩
set_option maxRecDepth 100000 in
set_option maxHeartbeats 8000000 in
theorem made_full {W : World} {bs : Nat} {L : BdL} {cap : Nat} {R : List Bd} (h : StAt W bs L cap true R) (G : FuncId) (capt : Array Value) :
    Calls Try.prog 30 #[.pointer (some ⟨bs, 0, none⟩), .func (.func G) #[] capt] W (StOut W bs L cap (R, none)) := by
  obtain ⟨X, hX, hXB, hXh, hXs⟩ := bd_box W #[.int .i64 0] 3
  have hT := st_there (h.below hXB)
  have hA := h.below hXB
  obtain ⟨cc, g1, -⟩ := hA.nodes.head
  have f1 := fun y => bd_cell (bd_heap_plus X y g1) 1 _ rfl
  have b0 := fun y => bd_cell (bd_heap_plus X y hXh) 0 _ rfl
  have fz := fun y => bd_free (bd_heap_plus X y hXh)
  have h' := Lib.hid h
  have hX' := Lib.hid hX
  have hXB' := Lib.hid hXB
  have hXs' := Lib.hid hXs
  have hT' := Lib.hid hT
  have hA' := Lib.hid hA
  clear h hX hXB hXh hXs hT hA g1
  go_enter_defers Try.func30, Try.ntmps30
  go_wp2_with fail
  rw [hX'.out, ← plus_self X]
  refine (hT'.out _).mono ?_
  rintro e w' ⟨rfl, x, rfl⟩
  have hS : Hid (StAt ((plus X x).setCell ⟨W.heap.size, 0, none⟩ (.int .i64 0)) bs L cap true R ∧ BdGo W L ((plus X x).setCell ⟨W.heap.size, 0, none⟩ (.int .i64 0)) L) := Lib.hid (by
    have hB : Below W.heap.size W ((plus X x).setCell ⟨W.heap.size, 0, none⟩ (.int .i64 0)) := (hXB'.out.trans ((below_plus X x).mono (by rw [hXs'.out]; omega))).setCell (by simp) _
    exact ⟨h'.out.below hB, (BdGo.refl W L).below hB⟩)
  go_wp2
  have p0 : ((plus X x).setCell ⟨W.heap.size, 0, none⟩ (.int .i64 0)).cell? ⟨W.heap.size, 0, none⟩ = some (.int .i64 0) := World.cell?_setCell_same _ _ _ (b0 x)
  simp [bodyPostD, Leaves, settle, results, Try.results30, go_sem, p0]
  exact ⟨L, hS.out.2, hS.out.1, rfl⟩
theorem st_end {W w1 Z : World} {bs n cap : Nat} {L L1 : BdL} {f : Bool} {R R1 : List Bd} (hS : StAt W bs L cap false R) (hGo : BdGo W L w1 L1) (hA : BdAt w1 L1 cap f R1) (hZ : BdKeep (fun k => k = n) w1 Z) (hn : ¬ L1.has n) (hW : W.heap.size ≤ n) : BdGo W L Z L1 ∧ StAt Z bs L1 cap f R1 := by
  have hGo2 : BdGo W L Z L1 := ⟨hGo.move, hGo.keep.step hZ (fun k hk => .inr (by rw [hk]; exact hW))⟩
  exact ⟨hGo2, hS.go hGo2 (hA.of_heap fun k hk => hZ.block k (hA.lt hk) (fun e => hn (e ▸ hk)))⟩
set_option maxRecDepth 100000 in
set_option maxHeartbeats 8000000 in
theorem made_in {W : World} {bs : Nat} {L : BdL} {cap : Nat} {R : List Bd} (h : StAt W bs L cap false R) (G : FuncId) (capt : Array Value) (r : List Bd × Option Nat) (hG : ∀ w, (callFunc G (#[.pointer (some ⟨L.bn, 0, none⟩)] ++ capt)).run Try.prog w = .ok (.enter G (#[.pointer (some ⟨L.bn, 0, none⟩)] ++ capt)) w)
    (hC : ∀ V, Below W.heap.size W V → BdAt V L cap false R → Calls Try.prog G (#[.pointer (some ⟨L.bn, 0, none⟩)] ++ capt) V (BdEnds V L cap r)) :
    Calls Try.prog 30 #[.pointer (some ⟨bs, 0, none⟩), .func (.func G) #[] capt] W (StOut W bs L cap r) := by
  have hmf : ∀ (fn : Fn) (first cap : Array Value) (w : World), (Instr.makeFunc fn first cap).run Try.prog w = .ok (.func fn first cap) w := fun _ _ _ _ => rfl
  obtain ⟨X, hX, hXB, hXh, hXs⟩ := bd_box W #[.int .i64 0] 3
  have hT := st_there (h.below hXB)
  have hA := h.below hXB
  obtain ⟨cc, g1, -⟩ := hA.nodes.head
  have f1 := fun y => bd_cell (bd_heap_plus X y g1) 1 _ rfl
  have b0 := fun y => bd_cell (bd_heap_plus X y hXh) 0 _ rfl
  have fz := fun y => bd_free (bd_heap_plus X y hXh)
  have h' := Lib.hid h
  have hX' := Lib.hid hX
  have hXB' := Lib.hid hXB
  have hXs' := Lib.hid hXs
  have hXh' := Lib.hid hXh
  have hT' := Lib.hid hT
  have hA' := Lib.hid hA
  have hG' := Lib.hid hG
  have hC' := Lib.hid hC
  clear h hX hXB hXh hXs hT hA g1 hG hC
  go_enter_defers Try.func30, Try.ntmps30
  go_wp2_with fail
  rw [hX'.out, ← plus_self X]
  refine (hT'.out _).mono ?_
  rintro e w' ⟨rfl, x, rfl⟩
  go_wp2_with fail
  have hVB : Below W.heap.size W (plus X x) := hXB'.out.trans ((below_plus X x).mono (by rw [hXs'.out]; omega))
  rw [hG'.out, Oper.upon_enter]
  refine (hC'.out (plus X x) hVB (hA'.out.plus x).nodes).mono ?_
  intro e w1 hE
  obtain ⟨L1, hG1, hA1, rfl⟩ := hE.of
  have hbox : w1.heap[W.heap.size]? = _ := hG1.cells (hA'.out.plus x).nodes (bd_heap_plus X x hXh'.out) (by decide) (by decide)
  have hGo : Hid (BdGo W L w1 L1) := Lib.hid (((BdGo.refl W L).below hVB).trans hG1)
  have hA1' := Lib.hid hA1
  have hc := bd_cell hbox 0 _ rfl
  have hf := bd_free hbox
  have hlt := lt_of_cell hc
  obtain ⟨n, hn⟩ : ∃ n, W.heap.size = n := ⟨_, rfl⟩
  rw [hn] at hc hf hlt ⊢
  have hn' := Lib.hid hn
  obtain ⟨R1, o1⟩ := r
  have hnL : Hid (¬ L1.has n) := Lib.hid (by rw [← hn]; exact hA1.other hbox (by decide) (by decide))
  clear hE hG1 hA1 hbox hT' hG' hC' f1 b0 fz hmf hVB hn
  cases o1 with
  | none =>
    go_wp2
    refine leaves_cons (f := 40) (args := #[.pointer (some ⟨n, 0, none⟩)]) (by simp) (by simp [go_sem]) ?_
    refine (made_room n [] w1 _ hc hf).mono ?_
    rintro e u' w'' ⟨rfl, rfl, o, rfl⟩
    have p0 : ((w1.setCell ⟨n, 0, none⟩ (.int .i64 0)).alloc o).cell? ⟨n, 0, none⟩ = some (.int .i64 0) := (cell_old _ o n 0 (by simp; exact hlt)).trans (World.cell?_setCell_same _ _ _ hc)
    simp [Leaves, settle, results, Try.results30, go_sem, p0]
    obtain ⟨z1, z2⟩ := st_end h'.out hGo.out hA1'.out (n := n) ((BdKeep.of_setCell w1 ⟨n, 0, none⟩ (.int .i64 0)).step (.of_below (fun _ => False) ((Below.refl _ _).alloc (Nat.le_refl _) o)) (fun k hk => hk.elim)) hnL.out (Nat.le_of_eq hn'.out)
    exact ⟨L1, z1, z2, rfl⟩
  | some m =>
    go_wp2
    refine leaves_cons (f := 40) (args := #[.pointer (some ⟨n, 0, none⟩)]) (by simp) (by simp [go_sem]) ?_
    refine (made_none n _).mono ?_
    rintro e u' w'' ⟨rfl, rfl, rfl⟩
    have p0 : (w1.setCell ⟨n, 0, none⟩ (.int .i64 (m : Int))).cell? ⟨n, 0, none⟩ = some (.int .i64 (m : Int)) := World.cell?_setCell_same _ _ _ hc
    simp [Leaves, settle, results, Try.results30, go_sem, p0]
    obtain ⟨z1, z2⟩ := st_end h'.out hGo.out hA1'.out (n := n) (.of_setCell w1 ⟨n, 0, none⟩ (.int .i64 (m : Int))) hnL.out (Nat.le_of_eq hn'.out)
    exact ⟨L1, z1, z2, rfl⟩
end Go.Proofs.Ytfphilgdikanfaa
