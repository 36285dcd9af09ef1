/-
  WHAT IS PROVED HERE: what the landed holds, Holds, At, Len, Full of a store hand back, and New.
-/
import Derived.Test.YtfphilgdikanfaaBdL
import Derived.Laws.OwnMore
namespace Go.Proofs.Ytfphilgdikanfaa
open Go.RowKit
/-- These bits lie there. -/
def BdBits (W : World) (p : Option Addr) (l : List Bool) : Prop := ∀ (i : Nat) (x : Bool), l[i]? = some x → ∃ pa, p = some pa ∧ W.cell? (pa.add i) = some (.bool x)
theorem BdBits.plus {W : World} {p : Option Addr} {l : List Bool} (h : BdBits W p l) (y : Ext) : BdBits (plus W y) p l := fun i x hx => by
  obtain ⟨pa, h1, h2⟩ := h i x hx
  refine ⟨pa, h1, ?_⟩
  have hlt : (pa.add i).block < W.heap.size := by
    by_cases q : (pa.add i).block < W.heap.size
    · exact q
    · have e : W.heap[(pa.add i).block]? = none := Array.getElem?_eq_none (by omega)
      simp [World.cell?, e] at h2
  exact ((below_plus W y).cell hlt).trans h2
def bdF (l : List Bool) : Nat → Bool := fun v => l.getD v false
theorem bdHalf_less {R : List Bd} (ok : BdOk R) {k : Nat} {n : Bd} (h : R[k]? = some n) (h2 : 2 ≤ k) (on : Bool) : bdHalf R k n.v on < k := by
  unfold bdHalf
  rw [h]
  simp only [if_true]
  cases on
  · exact ok.lo _ _ h h2
  · exact ok.hi _ _ h h2
set_option maxRecDepth 100000 in
set_option maxHeartbeats 8000000 in
theorem bd_holds {W : World} {L : BdL} {cap : Nat} {full : Bool} {R : List Bd} (h : BdAt W L cap full R) (a : Nat) (ha : a < R.length) (p : Option Addr) (l : List Bool) (c : Nat) (hl : BdBits W p l) (hn : l.length ≤ 1048576) :
    BdPure Try.prog W 26 #[.pointer (some ⟨L.bn, 0, none⟩), .int .i64 (a : Int), .slice p l.length c] (.bool (bdEv R (bdF l) a)) := by
  intro y0
  obtain ⟨cc, g1, -⟩ := h.head
  have hsm := h.small
  have hroom := h.room
  obtain ⟨E, hE⟩ : ∃ E, bdEv R (bdF l) a = E := ⟨_, rfl⟩
  rw [hE]
  have c2 := fun y => bd_cell (bd_heap_plus W y g1) 2 _ rfl
  obtain ⟨N, hN⟩ : ∃ N, R.length = N := ⟨_, rfl⟩
  rw [hN] at c2 ha hroom
  obtain ⟨n, hln⟩ : ∃ n, l.length = n := ⟨_, rfl⟩
  rw [hln] at hn ⊢
  have h' := Lib.hid h
  have hE' := Lib.hid hE
  have hN' := Lib.hid hN
  have hl' := Lib.hid hl
  have hln' := Lib.hid hln
  have ha' := Lib.hid ha
  clear h hE hN hl hln g1 ha
  go_enter Try.func26, Try.ntmps26
  go_wp2_with fail
  go_loopw [1, 7] (fun u _ wr => ∃ k : Nat, k < N ∧ u = .int .i64 (k : Int) ∧ Hid (bdEv R (bdF l) k = E) ∧ ∃ y, wr = plus W y) (fun u _ _ => (intOf u).toNat)
  case atStart => exact ⟨a, ha'.out, rfl, hE', y0, rfl⟩
  case round =>
    obtain ⟨k, hk, rfl, hK, y, rfl⟩ := hrel
    clear hE' ha'
    by_cases hlt : 1 < k
    · have hkR : k < R.length := by rw [hN'.out]; exact hk
      obtain ⟨nd, hnd⟩ : ∃ nd, R[k]? = some nd := ⟨_, List.getElem?_eq_getElem hkR⟩
      obtain ⟨f1, f2, f3⟩ := h'.out.fits hnd
      have r0 := fun y => (BdAt.row (h'.out.plus y) hnd).1
      have hless := fun on => bdHalf_less h'.out.ok hnd hlt on
      have hev := bdEv_half h'.out.ok (bdF l) hkR (v := nd.v)
      have hH := fun on => bd_half h'.out k nd.v on hkR
      have hbl := bdHalf_lt h'.out.ok hkR nd.v (bdF l nd.v)
      obtain ⟨nv, nl, nh⟩ := nd
      simp only at r0 f1 f2 f3 hless hev hH hbl
      have hHb := hH (bdF l nv)
      have hlessb := hless (bdF l nv)
      rw [hN'.out] at hbl
      obtain ⟨on, hon⟩ : ∃ on, bdF l nv = on := ⟨_, rfl⟩
      rw [hon] at hev hHb hlessb hbl
      obtain ⟨k2, hk2⟩ : ∃ k2, bdHalf R k nv on = k2 := ⟨_, rfl⟩
      rw [hk2] at hev hHb hlessb hbl
      have hK2 : Hid (bdEv R (bdF l) k2 = E) := Lib.hid (by rw [← hev]; exact hK.out)
      have hHb' := Lib.hid hHb
      have hlessb' := Lib.hid hlessb
      have hbl' := Lib.hid hbl
      clear hnd hless hev hH hHb hlessb hbl hk2 hkR f2 f3
      by_cases q : nv < n
      · have qb : decide (nv < n) = true := decide_eq_true q
        obtain ⟨pa, rfl, hpa⟩ := hl'.out nv on (by
          have : nv < l.length := by rw [hln'.out]; exact q
          rw [List.getElem?_eq_getElem this]
          unfold bdF at hon
          rw [List.getD_eq_getElem?_getD, List.getElem?_eq_getElem this] at hon
          exact congrArg some hon)
        have hpa2 := fun y => (BdBits.plus (W := W) (p := some pa) (l := l) hl'.out y)
        have d0 : ∀ y, (plus W y).cell? (pa.add nv) = some (.bool on) := fun y => by
          obtain ⟨pa2, e2, h2⟩ := hpa2 y nv on (by
            have : nv < l.length := by rw [hln'.out]; exact q
            rw [List.getElem?_eq_getElem this]
            unfold bdF at hon
            rw [List.getD_eq_getElem?_getD, List.getElem?_eq_getElem this] at hon
            exact congrArg some hon)
          cases e2
          exact h2
        clear hon hpa hpa2
        go_wp2_with (first | (go_at_call 38; with_reducible refine (hHb'.out _).mono ?_; rintro r w' ⟨rfl, x, rfl⟩))
        go_roundw
        case rel => exact ⟨k2, hbl'.out, rfl, hK2, _, rfl⟩
        case measure => simp [intOf]; exact hlessb'.out
      · have qb : decide (nv < n) = false := decide_eq_false q
        obtain rfl : on = false := by
          rw [← hon]; unfold bdF
          rw [List.getD_eq_getElem?_getD, List.getElem?_eq_none (by rw [hln'.out]; omega)]; rfl
        clear hon
        go_wp2_with (first | (go_at_call 38; with_reducible refine (hHb'.out _).mono ?_; rintro r w' ⟨rfl, x, rfl⟩))
        go_roundw
        case rel => exact ⟨k2, hbl'.out, rfl, hK2, _, rfl⟩
        case measure => simp [intOf]; exact hlessb'.out
    · obtain rfl | rfl : k = 0 ∨ k = 1 := by omega
      · have e : Hid (false = E) := Lib.hid (by rw [← hK.out, bdEv_no h'.out.ok])
        clear hK hlt
        go_wp2
        go_ret
        exact ⟨by rw [← e.out]; rfl, _, rfl⟩
      · have e : Hid (true = E) := Lib.hid (by rw [← hK.out, bdEv_yes h'.out.ok])
        clear hK hlt
        go_wp2
        go_ret
        exact ⟨by rw [← e.out]; rfl, _, rfl⟩
end Go.Proofs.Ytfphilgdikanfaa
