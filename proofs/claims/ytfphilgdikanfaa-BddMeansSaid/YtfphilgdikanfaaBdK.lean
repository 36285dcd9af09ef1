/-
  WHAT IS PROVED HERE: what the landed Var, Ite, Not, And, Or, Xor of a store make, and the store behind them.
-/
import Derived.Test.YtfphilgdikanfaaBdJ
namespace Go.Proofs.Ytfphilgdikanfaa
open Go.RowKit
set_option maxRecDepth 100000 in
set_option maxHeartbeats 8000000 in
theorem ite_lit {V : World} {L : BdL} {cap : Nat} {R : List Bd} (h : BdAt V L cap false R) (c a b : Int) (pc pa pb : Nat) (hc : V.cell? ⟨pc, 0, none⟩ = some (.int .i64 c)) (ha : V.cell? ⟨pa, 0, none⟩ = some (.int .i64 a)) (hb : V.cell? ⟨pb, 0, none⟩ = some (.int .i64 b)) :
    Calls Try.prog 33 #[.pointer (some ⟨L.bn, 0, none⟩), .pointer (some ⟨pc, 0, none⟩), .pointer (some ⟨pa, 0, none⟩), .pointer (some ⟨pb, 0, none⟩)] V (BdEnds V L cap (bdI cap R (bdKnown R c) (bdKnown R a) (bdKnown R b))) := by
  have hpos : 0 < R.length := by have := h.ok.two; omega
  have lc := lt_of_cell hc
  have la := lt_of_cell ha
  have lb := lt_of_cell hb
  have c0 := fun y => (cell_plus V y pc 0 lc).trans hc
  have c1 := fun y => (cell_plus V y pa 0 la).trans ha
  have c2 := fun y => (cell_plus V y pb 0 lb).trans hb
  have hkc := bd_known h c
  have hka := bd_known h a
  have hkb := bd_known h b
  have hI := fun y => bd_ite cap 65 (plus V y) L R _ _ _ (h.plus y) (bdKnown_lt hpos c) (bdKnown_lt hpos a) (bdKnown_lt hpos b) (by omega)
  obtain ⟨r, hr⟩ : ∃ r, bdI cap R (bdKnown R c) (bdKnown R a) (bdKnown R b) = r := ⟨_, rfl⟩
  rw [hr] at hI ⊢
  generalize bdKnown R c = kc at hkc hI
  generalize bdKnown R a = ka at hka hI
  generalize bdKnown R b = kb at hkb hI
  have hkc' := Lib.hid hkc
  have hka' := Lib.hid hka
  have hkb' := Lib.hid hkb
  have hI' := Lib.hid hI
  clear h hc ha hb hkc hka hkb hI hr lc la lb hpos
  go_enter Try.func33, Try.ntmps33
  go_upto_region 1 with (fail)
  refine wp_region_own_tail0 10 (by kernel_rfl) (by kernel_rfl) ?_
  simp only [List.take_succ_cons, List.take_zero, List.drop_succ_cons, List.drop_zero]
  repeat (go_big_quiet_step (first | with_reducible exact hkc'.out _ | with_reducible exact hka'.out _ | with_reducible exact hkb'.out _))
  refine wpQuiet_nil ?_
  rintro _ ⟨y, rfl⟩
  go_wp2_with fail
  refine (hI'.out y).mono ?_
  intro e w1 hE
  obtain ⟨L1, hG1, hA1, rfl⟩ := hE.of
  have hF : Hid (BdEnds V L cap r (match r.2 with | some n => .returned (.int .i64 (n : Int)) | none => bdGave) w1) := Lib.hid ((((BdGo.refl V L).below (below_plus V y)).trans hG1).ends hA1)
  obtain ⟨R1, o1⟩ := r
  clear hE hG1 hA1
  cases o1 with
  | none =>
    go_wp2
    exact ⟨rfl, hF.out⟩
  | some n =>
    go_wp2
    go_ret
    exact hF.out
def bdIteS (cap : Nat) (full : Bool) (R : List Bd) (c a b : Int) : List Bd × Option Nat := if full = true then (R, none) else bdI cap R (bdKnown R c) (bdKnown R a) (bdKnown R b)
set_option maxRecDepth 100000 in
set_option maxHeartbeats 8000000 in
theorem st_Ite {W : World} {bs : Nat} {L : BdL} {cap : Nat} {full : Bool} {R : List Bd} (h : StAt W bs L cap full R) (c a b : Int) :
    Calls Try.prog 15 #[.pointer (some ⟨bs, 0, none⟩), .int .i64 c, .int .i64 a, .int .i64 b] W (StOut W bs L cap (bdIteS cap full R c a b)) := by
  have hmf : ∀ (fn : Fn) (first cap : Array Value) (w : World), (Instr.makeFunc fn first cap).run Try.prog w = .ok (.func fn first cap) w := fun _ _ _ _ => rfl
  obtain ⟨X, hX, hB, hz, ca, cb, cc, -, -, -⟩ := box3 W #[.int .i64 c] #[.int .i64 a] #[.int .i64 b] 3 3 3
  have hM : Calls Try.prog 30 #[.pointer (some ⟨bs, 0, none⟩), .func (.func 33) #[] #[.pointer (some ⟨W.heap.size, 0, none⟩), .pointer (some ⟨W.heap.size + 1, 0, none⟩), .pointer (some ⟨W.heap.size + 1 + 1, 0, none⟩)]] X (StOut X bs L cap (bdIteS cap full R c a b)) := by
    unfold bdIteS
    cases full with
    | true => exact made_full (h.below hB) _ _
    | false =>
      refine made_in (h.below hB) _ _ _ (fun w => by simp [go_sem]) fun V hV hA => ?_
      have k0 := hV.cell (p := ⟨W.heap.size, 0, none⟩) (by simp only; omega)
      have k1 := hV.cell (p := ⟨W.heap.size + 1, 0, none⟩) (by simp only; omega)
      have k2 := hV.cell (p := ⟨W.heap.size + 1 + 1, 0, none⟩) (by simp only; omega)
      have q0 := ca 0 _ rfl ⟨#[], X.drawn⟩
      have q1 := cb 0 _ rfl ⟨#[], X.drawn⟩
      have q2 := cc 0 _ rfl ⟨#[], X.drawn⟩
      rw [plus_self] at q0 q1 q2
      exact ite_lit hA c a b _ _ _ (k0.trans q0) (k1.trans q1) (k2.trans q2)
  have hM' := Lib.hid hM
  have hX' := Lib.hid hX
  have hB' := Lib.hid hB
  generalize bdIteS cap full R c a b = r at hM' hM ⊢
  clear h hX hB hz ca cb cc hM
  go_enter Try.func15, Try.ntmps15
  go_wp2_with fail
  rw [← hX'.out]
  refine hM'.out.mono ?_
  rintro e w1 ⟨L1, hG, hS, rfl⟩
  have hF : Hid (StOut W bs L cap r (.returned (.int .i64 ((r.2.getD 0 : Nat) : Int))) w1) := Lib.hid ⟨L1, ((BdGo.refl W L).below hB'.out).trans hG, hS, rfl⟩
  generalize r.2.getD 0 = n at hF ⊢
  clear hG hS hM' hmf
  go_wp2
  go_ret
  exact hF.out
end Go.Proofs.Ytfphilgdikanfaa
