/-
  WHAT IS PROVED HERE: what the landed keep of a store's nodes does: it keeps what was reckoned; the store tells the same.
-/
import Derived.Test.YtfphilgdikanfaaBdG
import Derived.Deep.DeepCutAuto
import Derived.Deep.CutBlock
namespace Go.Proofs.Ytfphilgdikanfaa
open Go.RowKit
theorem BdTold.fits {w : World} {L : BdL} {cap : Nat} {full : Bool} {R : List Bd} {K : Bd → Option Nat} (hK : BdTold cap R K) (h : BdAt w L cap full R) (k : Bd) (n : Nat) (e : K k = some n) : BdFits k := by
  obtain ⟨h1, h2, h3, _⟩ := hK k n e
  have := h.room
  have := h.small
  exact ⟨by omega, by omega, by omega⟩
theorem BdAt.set_told {w w' : World} {L : BdL} {cap : Nat} {full : Bool} {R : List Bd} (h : BdAt w L cap full R) (hg : w.grownBy w' (some L.bk)) {K : Bd → Option Nat} (hm : MapG w' L.bk bdKey bdNum K) (hK : BdTold cap R K) : BdAt w' L cap full R := by
  have hl := fun k hk => h.lt (k := k) hk
  obtain ⟨⟨c0, q1, q2⟩, q3, ⟨K0, q4, q5⟩, q6, q7, q8, q9⟩ := h
  obtain ⟨cur, qr⟩ := bd_own_lt q2
  obtain ⟨es, clock, e2⟩ := q4.is_map
  have nbk : L.bn ≠ L.bk := fun e => by rw [e, e2] at q1; cases q1
  have nrk : L.br ≠ L.bk := fun e => by rw [e, e2] at qr; cases qr
  exact ⟨⟨c0, (hg.block _ (hl _ (.inl rfl)) (fun e => nbk (Option.some.inj e))).trans q1, bd_own_up q2 (hg.block _ (hl _ (.inr (.inl rfl))) (fun e => nrk (Option.some.inj e)))⟩, q3.of_heap (hg.block _ q3.lt (fun e => q9 (Option.some.inj e))), ⟨K, hm, hK⟩, q6, q7, q8, q9⟩
theorem bd_put72 {w : World} {bp : Nat} {m : Bd} {F : Bd → Option Nat} (hF : ∀ k n, F k = some n → BdFits k) (h : MapG w bp bdKey bdNum F) (hm : BdFits m) (n : Nat) :
    ∃ w', (Instr.mapUpdate 61 (.map (some bp)) (.agg #[.int .i32 (m.v : Int), .int .i32 (m.lo : Int), .int .i32 (m.hi : Int)]) (.int .i32 (n : Int))).run Try.prog w = .ok () w' ∧ MapG w' bp bdKey bdNum (fun k' => if k' = m then some n else F k') ∧ w.grownBy w' (some bp) ∧ w'.heap.size = w.heap.size :=
  h.put bd_keyed72 Try.underlying61 bdKey_inj (fun k v e => bd_key72 k (hF k v e)) m (bd_key72 m hm) n
/-- How keeping ends. -/
def BdSame (w : World) (L : BdL) (cap : Nat) (R : List Bd) (e : Ending) (w' : World) : Prop := e = .returned (.tuple #[]) ∧ BdKeep L.has w w' ∧ BdAt w' L cap false R
theorem bd_keep_end {W X Y w2 : World} {L : BdL} {cap : Nat} {R : List Bd} {m : Bd} {n : Nat} {K : Bd → Option Nat} {y : Ext} (hX : BdKeep L.has W X) (hA : BdAt X L cap false R) (hY : plus X y = Y) (hK : BdTold cap R K) (hm : m.v < R.length ∧ m.lo < R.length ∧ m.hi < R.length ∧ bdI cap R m.v m.lo m.hi = (R, some n))
    (hg : Y.grownBy w2 (some L.bk)) (h2 : MapG w2 L.bk bdKey bdNum (fun k' => if k' = m then some n else K k')) : BdSame W L cap R (.returned (.tuple #[])) w2 := by
  subst hY
  refine ⟨rfl, (hX.step (.of_below (fun _ => False) (below_plus X y)) (fun k hk => hk.elim)).step (.of_grown hg) (fun k hk => .inl (.inr (.inr (.inr (Option.some.inj hk).symm)))), (hA.plus y).set_told hg h2 fun k u e => ?_⟩
  by_cases q : k = m
  · subst q
    simp only [if_true] at e
    cases e
    exact hm
  · simp only [if_neg q] at e
    exact hK k u e
set_option maxRecDepth 100000 in
set_option maxHeartbeats 8000000 in
theorem bd_keep {W : World} {L : BdL} {cap : Nat} {R : List Bd} (h : BdAt W L cap false R) (c a b n : Nat) (hc : c < R.length) (ha : a < R.length) (hb : b < R.length) (hn : n < R.length) (hI : bdI cap R c a b = (R, some n)) :
    Calls Try.prog 42 #[.pointer (some ⟨L.bn, 0, none⟩), .agg #[.int .i32 (c : Int), .int .i32 (a : Int), .int .i32 (b : Int)], .int .i64 (n : Int)] W (BdSame W L cap R) := by
  have hroom := h.room
  have hsm := h.small
  have hm : Hid ((⟨c, a, b⟩ : Bd).v < R.length ∧ (⟨c, a, b⟩ : Bd).lo < R.length ∧ (⟨c, a, b⟩ : Bd).hi < R.length ∧ bdI cap R (⟨c, a, b⟩ : Bd).v (⟨c, a, b⟩ : Bd).lo (⟨c, a, b⟩ : Bd).hi = (R, some n)) := Lib.hid ⟨hc, ha, hb, hI⟩
  have hfit : Hid (BdFits ⟨c, a, b⟩) := Lib.hid ⟨by simp only; omega, by simp only; omega, by simp only; omega⟩
  obtain ⟨X, hX, hXB, hXh, hXs⟩ := bd_box W #[.int .i32 (c : Int), .int .i32 (a : Int), .int .i32 (b : Int)] 72
  have hA := h.below hXB
  obtain ⟨c1, g1, g2⟩ := hA.head
  obtain ⟨K, hK1, hK2⟩ := hA.told
  obtain ⟨M, hN⟩ : ∃ M : Int, (Builtin.len_ #[61] 3 #[.map (some L.bk)]).run Try.prog X = .ok (.int .i64 M) X := by
    obtain ⟨N, hN⟩ := hK1.len Try.underlying61 3
    exact ⟨_, hN⟩
  have d4 := bd_cell g1 4 _ rfl
  have hn1 : n ≤ 1048578 := by omega
  have hX' := Lib.hid hX
  have hXB' := Lib.hid hXB
  have hXh' := Lib.hid hXh
  have hA' := Lib.hid hA
  have g1' := Lib.hid g1
  have hK1' := Lib.hid hK1
  have hK2' := Lib.hid hK2
  have hbs := Lib.hid (h.lt (k := L.bk) (.inr (.inr (.inr rfl))))
  clear hX hXB hXh hXs hA g1 g2 hK1 hK2 h hI hc ha hb hn hroom
  have hw : IntKind.i32.wrap (n : Int) = (n : Int) := IntWalk.i32_in _ (by omega)
  have hpl : ∀ Z : World, Below X.heap.size X Z → Z.heap[W.heap.size]? = some (.cells #[.int .i32 (c : Int), .int .i32 (a : Int), .int .i32 (b : Int)] 72 (0, 0)) := fun Z hZ => (hZ.block _ (Array.getElem?_eq_some_iff.1 hXh'.out).1).trans hXh'.out
  have hpl' := Lib.hid hpl
  clear hpl
  by_cases q : 2097152 ≤ M
  · have qb : decide (2097152 ≤ M) = true := decide_eq_true q
    clear q
    obtain ⟨V, e1, hm1, hg1, -⟩ := hK1'.out.clear Try.underlying61 0
    have hV := hA'.out.set_told hg1 hm1 (fun k n e => by cases e)
    have hVh : V.heap[W.heap.size]? = _ := (hg1.block _ (Array.getElem?_eq_some_iff.1 hXh'.out).1 (fun e => by have := hbs.out; have := Option.some.inj e; omega)).trans hXh'.out
    have hVg : V.heap[L.bn]? = _ := (hg1.block _ (hA'.out.lt (.inl rfl)) (fun e => by
      obtain ⟨es, clock, e2⟩ := hK1'.out.is_map
      rw [← Option.some.inj e, g1'.out] at e2; cases e2)).trans g1'.out
    have f4 := fun y => bd_cell (bd_heap_plus V y hVg) 4 _ rfl
    have b0 := fun y => bd_cell (bd_heap_plus V y hVh) 0 _ rfl
    have b1 := fun y => bd_cell (bd_heap_plus V y hVh) 1 _ rfl
    have b2 := fun y => bd_cell (bd_heap_plus V y hVh) 2 _ rfl
    have hV' := Lib.hid hV
    have hm1' := Lib.hid hm1
    have hg1' := Lib.hid hg1
    clear hV hm1 hg1 hVh hVg
    go_enter Try.func42, Try.ntmps42
    go_upto_region 1 with (fail)
    rw [hX'.out]
    go_wp2_with fail
    refine wp_region_own_tail0 7 (by kernel_rfl) (by kernel_rfl) ?_
    simp only [List.take_succ_cons, List.take_zero, List.drop_succ_cons, List.drop_zero]
    repeat (go_big_quiet_step (fail))
    refine wpQuiet_nil ?_
    rintro _ ⟨y3, rfl⟩
    obtain ⟨w2, e5, hm5, hg5, -⟩ := bd_put72 (F := fun _ => none) (fun k n e => by cases e) (hm1'.out.of_heap ((below_plus V y3).block _ hm1'.out.lt)) hfit.out n
    have hend := Lib.hid (bd_keep_end (W := W) (X := V) (y := y3) (K := fun _ => none) ((BdKeep.of_below L.has hXB'.out).step (.of_grown hg1'.out) (fun k hk => .inl (.inr (.inr (.inr (Option.some.inj hk).symm))))) hV'.out rfl (fun k n e => by cases e) hm.out hg5 hm5)
    clear hm5 hg5
    go_wp2
    go_end0
    exact hend.out
  · have qb : decide (2097152 ≤ M) = false := decide_eq_false q
    clear q
    have f4 := fun y => bd_cell (bd_heap_plus X y g1'.out) 4 _ rfl
    have b0 := fun y => bd_cell (bd_heap_plus X y hXh'.out) 0 _ rfl
    have b1 := fun y => bd_cell (bd_heap_plus X y hXh'.out) 1 _ rfl
    have b2 := fun y => bd_cell (bd_heap_plus X y hXh'.out) 2 _ rfl
    go_enter Try.func42, Try.ntmps42
    go_upto_region 1 with (fail)
    rw [hX'.out]
    go_wp2_with fail
    refine wp_region_own_tail0 7 (by kernel_rfl) (by kernel_rfl) ?_
    simp only [List.take_succ_cons, List.take_zero, List.drop_succ_cons, List.drop_zero]
    repeat (go_big_quiet_step (fail))
    refine wpQuiet_nil ?_
    rintro _ ⟨y3, rfl⟩
    obtain ⟨w2, e5, hm5, hg5, -⟩ := bd_put72 (fun k n e => hK2'.out.fits hA'.out k n e) (hK1'.out.of_heap ((below_plus X y3).block _ hK1'.out.lt)) hfit.out n
    have hend := Lib.hid (bd_keep_end (W := W) (X := X) (y := y3) (.of_below L.has hXB'.out) hA'.out rfl hK2'.out hm.out hg5 hm5)
    clear hm5 hg5
    go_wp2
    go_end0
    exact hend.out
end Go.Proofs.Ytfphilgdikanfaa
