/-
  WHAT IS PROVED HERE: what the landed half, known, len of a store's nodes hand back.
-/
import Derived.Test.YtfphilgdikanfaaBdE
namespace Go.Proofs.Ytfphilgdikanfaa
open Go.RowKit
/-- Called in a world that is this one with blocks behind: this is handed back, and only blocks have come. -/
abbrev BdPure (P : Program) (w : World) (f : FuncId) (args : Array Value) (v : Value) : Prop := ∀ y, Calls P f args (plus w y) fun e w' => e = .returned v ∧ ∃ x, w' = plus w x
/-- A diagram's number: 0 of what is none. -/
def bdKnown (R : List Bd) (a : Int) : Nat := if a < 0 ∨ (R.length : Int) ≤ a then 0 else a.toNat
theorem bdKnown_lt {R : List Bd} (h : 0 < R.length) (a : Int) : bdKnown R a < R.length := by unfold bdKnown; split <;> omega
theorem bd_alloc_plus {V W : World} (h : ∃ z, V = plus W z) (o : Obj) : ∃ x, V.alloc o = plus W x := by
  obtain ⟨z, rfl⟩ := h
  exact plus_of_below ((below_plus W z).trans ((Below.refl _ _).alloc (size_plus W z) o))
set_option maxRecDepth 100000 in
set_option maxHeartbeats 8000000 in
theorem bd_half {W : World} {L : BdL} {cap : Nat} {full : Bool} {R : List Bd} (h : BdAt W L cap full R) (a v : Nat) (on : Bool) (ha : a < R.length) :
    BdPure Try.prog W 38 #[.pointer (some ⟨L.bn, 0, none⟩), .int .i64 (a : Int), .int .i64 (v : Int), .bool on] (.int .i64 (bdHalf R a v on : Int)) := by
  intro y0
  have h' := h.plus y0
  obtain ⟨V, hV⟩ : ∃ V, plus W y0 = V := ⟨_, rfl⟩
  have hVW : Hid (∃ z, V = plus W z) := Lib.hid ⟨y0, hV.symm⟩
  rw [hV] at h' ⊢
  clear hV
  obtain ⟨⟨nv, nl, nh⟩, hn⟩ : ∃ n, R[a]? = some n := ⟨_, List.getElem?_eq_getElem ha⟩
  obtain ⟨f1, f2, f3⟩ := h'.fits hn
  obtain ⟨c, g1, g2⟩ := h'.head
  have c2 := bd_cell g1 2 _ rfl
  obtain ⟨e0, e1, e2⟩ := h'.row hn
  have hr : bdHalf R a v on = if nv = v then (if on then nh else nl) else a := by unfold bdHalf; rw [hn]
  rw [hr]
  have hlen := h'.room
  have hsm := h'.small
  obtain ⟨N, hN⟩ : ∃ N, R.length = N := ⟨_, rfl⟩
  rw [hN] at ha c2 hlen
  simp only at e0 e1 e2 f1 f2 f3
  clear h h' hn g1 g2 hN hr
  by_cases q : nv = v
  · subst q
    have qb : ((nv : Int) != (nv : Int)) = false := by simp
    rw [if_pos rfl]
    cases on with
    | true =>
      rw [if_pos rfl]
      go_enter Try.func38, Try.ntmps38
      go_wp2
      go_ret
      exact ⟨rfl, bd_alloc_plus hVW.out _⟩
    | false =>
      rw [if_neg (by decide)]
      go_enter Try.func38, Try.ntmps38
      go_wp2
      go_ret
      exact ⟨rfl, bd_alloc_plus hVW.out _⟩
  · have qb : ((nv : Int) != (v : Int)) = true := by simp; omega
    rw [if_neg q]
    go_enter Try.func38, Try.ntmps38
    go_wp2
    go_ret
    exact ⟨rfl, bd_alloc_plus hVW.out _⟩
set_option maxRecDepth 100000 in
set_option maxHeartbeats 8000000 in
theorem bd_len {W : World} {L : BdL} {cap : Nat} {full : Bool} {R : List Bd} (h : BdAt W L cap full R) :
    BdPure Try.prog W 28 #[.pointer (some ⟨L.bn, 0, none⟩)] (.int .i64 ((R.length - 2 : Nat) : Int)) := by
  intro y0
  have h' := h.plus y0
  obtain ⟨V, hV⟩ : ∃ V, plus W y0 = V := ⟨_, rfl⟩
  have hVW : Hid (∃ z, V = plus W z) := Lib.hid ⟨y0, hV.symm⟩
  rw [hV] at h' ⊢
  clear hV
  obtain ⟨c, g1, g2⟩ := h'.head
  have c2 := bd_cell g1 2 _ rfl
  have hlen := h'.room
  have hsm := h'.small
  have h2 := h'.ok.two
  obtain ⟨N, hN⟩ : ∃ N, R.length = N := ⟨_, rfl⟩
  rw [hN] at c2 hlen h2 ⊢
  clear h h' g1 g2 hN
  obtain ⟨k, rfl⟩ : ∃ k, N = k + 2 := ⟨N - 2, by omega⟩
  rw [Nat.add_sub_cancel]
  go_enter Try.func28, Try.ntmps28
  go_wp2
  go_ret
  exact ⟨rfl, hVW.out⟩
set_option maxRecDepth 100000 in
set_option maxHeartbeats 8000000 in
theorem bd_known {W : World} {L : BdL} {cap : Nat} {full : Bool} {R : List Bd} (h : BdAt W L cap full R) (a : Int) :
    BdPure Try.prog W 27 #[.pointer (some ⟨L.bn, 0, none⟩), .int .i64 a] (.int .i64 (bdKnown R a : Int)) := by
  intro y0
  have h' := h.plus y0
  obtain ⟨V, hV⟩ : ∃ V, plus W y0 = V := ⟨_, rfl⟩
  have hVW : Hid (∃ z, V = plus W z) := Lib.hid ⟨y0, hV.symm⟩
  rw [hV] at h' ⊢
  clear hV
  obtain ⟨c, g1, g2⟩ := h'.head
  have c2 := bd_cell g1 2 _ rfl
  have hlen := h'.room
  have hsm := h'.small
  have h2 := h'.ok.two
  unfold bdKnown
  obtain ⟨N, hN⟩ : ∃ N, R.length = N := ⟨_, rfl⟩
  rw [hN] at c2 hlen h2 ⊢
  clear h h' g1 g2 hN
  by_cases q1 : a < 0
  · have q1b : decide (a < 0) = true := by simp [q1]
    rw [if_pos (.inl q1)]
    go_enter Try.func27, Try.ntmps27
    go_wp2
    go_ret
    exact ⟨rfl, hVW.out⟩
  · have q1b : decide (a < 0) = false := by simp [q1]
    by_cases q2 : (N : Int) ≤ a
    · have q2b : decide ((N : Int) ≤ a) = true := by simp [q2]
      rw [if_pos (.inr q2)]
      go_enter Try.func27, Try.ntmps27
      go_wp2
      go_ret
      exact ⟨rfl, hVW.out⟩
    · have q2b : decide ((N : Int) ≤ a) = false := by simp [q2]
      rw [if_neg (fun z => z.elim q1 q2)]
      obtain ⟨k, rfl⟩ : ∃ k : Nat, a = (k : Int) := ⟨a.toNat, by omega⟩
      rw [Int.toNat_natCast]
      go_enter Try.func27, Try.ntmps27
      go_wp2
      go_ret
      exact ⟨rfl, hVW.out⟩
end Go.Proofs.Ytfphilgdikanfaa
