/-
  WHAT IS PROVED HERE: the law's does, walked: a call of a store.
-/
import Derived.Test.YtfphilgdikanfaaBdT
namespace Go.Proofs.Ytfphilgdikanfaa
open Go.RowKit
/-- These numbers lie there. -/
def BdNums (W : World) (p : Option Addr) (l : List Nat) : Prop := ∀ (i : Nat) (x : Nat), l[i]? = some x → ∃ pa, p = some pa ∧ W.cell? (pa.add i) = some (.int .i64 (x : Int))
theorem BdNums.below {W Z : World} {p : Option Addr} {l : List Nat} (h : BdNums W p l) (hB : Below W.heap.size W Z) : BdNums Z p l := fun i x hx => by
  obtain ⟨pa, h1, h2⟩ := h i x hx
  refine ⟨pa, h1, ?_⟩
  have hlt : (pa.add i).block < W.heap.size := by
    by_cases q : (pa.add i).block < W.heap.size
    · exact q
    · have e : W.heap[(pa.add i).block]? = none := Array.getElem?_eq_none (by omega)
      simp [World.cell?, e] at h2
  exact (hB.cell hlt).trans h2
theorem BdNums.plus {W : World} {p : Option Addr} {l : List Nat} (h : BdNums W p l) (y : Ext) : BdNums (plus W y) p l := h.below (below_plus W y)
set_option maxRecDepth 100000 in
set_option maxHeartbeats 8000000 in
/-- What was told so far back, of numbers in a row that a box tells. -/
theorem does_at {V : World} (b : Nat) (p : Option Addr) (l : List Nat) (c : Nat) (hb : ∀ y, (plus V y).cell? ⟨b, 0, none⟩ = some (.slice p l.length c)) (hl : BdNums V p l) (hn : l.length ≤ 1048576) (i : Int) :
    BdPure Try.prog V 23 #[.int .i64 i, .pointer (some ⟨b, 0, none⟩)] (.int .i64 ((opAt 0 l i : Nat) : Int)) := by
  intro y0
  by_cases q1 : i < 0
  · have q1b : decide (i < 0) = true := decide_eq_true q1
    rw [opAt_none 0 (.inl q1)]
    clear q1 hl
    go_enter Try.func23, Try.ntmps23
    go_wp2
    go_ret
    exact ⟨rfl, _, rfl⟩
  · have q1b : decide (i < 0) = false := decide_eq_false q1
    obtain ⟨k, rfl⟩ : ∃ k : Nat, i = (k : Int) := ⟨i.toNat, by omega⟩
    obtain ⟨n, hln⟩ : ∃ n, l.length = n := ⟨_, rfl⟩
    by_cases q2 : n = 0
    · have e : Hid (opAt 0 l (k : Int) = 0) := Lib.hid (opAt_none 0 (.inr (by rw [hln]; exact q2)))
      rw [e.out]
      rw [hln] at hb
      subst q2
      clear q1 hl hln hn
      go_enter Try.func23, Try.ntmps23
      go_wp2
      go_ret
      exact ⟨rfl, _, rfl⟩
    · have hpos : 0 < l.length := by omega
      have hat := opAt_at 0 (i := k) hpos
      obtain ⟨x, hx⟩ : ∃ x, opAt 0 l (k : Int) = x := ⟨_, rfl⟩
      rw [hx] at hat ⊢
      obtain ⟨pa, rfl, hpa⟩ := hl _ _ hat
      have hpa2 := fun y => (hl.plus y) _ _ hat
      rw [hln] at hb hn hat
      have d0 : ∀ y, (plus V y).cell? (pa.add (n - 1 - k % n)) = some (.int .i64 (x : Int)) := fun y => by
        obtain ⟨pa2, e2, h2⟩ := hpa2 y
        cases e2
        rw [hln] at h2
        exact h2
      have q2b : ((n : Int) == 0) = false := by simp; omega
      have hm : k % n < n := Nat.mod_lt _ (by omega)
      clear hl hat hpa hpa2 hx hpos hln q1
      go_enter Try.func23, Try.ntmps23
      go_wp2_with fail
      have r1 : IntKind.i64.wrap ((n : Int) - 1) = (n : Int) - 1 := IntWalk.i64_in _ (by omega)
      have r2 : (k : Int).tmod (n : Int) = ((k % n : Nat) : Int) := rfl
      obtain ⟨m, hmm⟩ : ∃ m, k % n = m := ⟨_, rfl⟩
      rw [hmm] at r2 hm d0
      obtain ⟨j, hj⟩ : ∃ j, n - 1 - m = j := ⟨_, rfl⟩
      have hjn : j < n := by omega
      have r3 : IntKind.i64.wrap ((n : Int) - 1 - (m : Int)) = (j : Int) := by rw [IntWalk.i64_in _ (by omega)]; omega
      rw [hj] at d0
      clear hmm hj hm
      refine wp_region_own (by kernel_rfl) (by kernel_rfl) ?_
      repeat (go_big_quiet_step (fail))
      refine wpQuiet_nil ?_
      rintro _ ⟨y, rfl⟩
      go_wp2
      go_ret
      exact ⟨rfl, _, rfl⟩
theorem bdKnown_of {R : List Bd} {x : Nat} (h : x < R.length) : bdKnown R (x : Int) = x := by
  unfold bdKnown
  rw [if_neg (by omega), Int.toNat_natCast]
theorem bdIteS_of {cap : Nat} {R : List Bd} {c a b : Nat} (hc : c < R.length) (ha : a < R.length) (hb : b < R.length) : bdIteS cap false R (c : Int) (a : Int) (b : Int) = bdI cap R c a b := by
  unfold bdIteS
  rw [if_neg (by decide), bdKnown_of hc, bdKnown_of ha, bdKnown_of hb]
theorem bdXorS_of {cap : Nat} {R R1 : List Bd} {a b n : Nat} (h2 : 2 ≤ R.length) (hb : b < R.length) (h1 : bdI cap R b 0 1 = (R1, some n)) (ha : a < R1.length) (hb1 : b < R1.length) (hn : n < R1.length) : bdXorS cap false R (a : Int) (b : Int) = bdI cap R1 a n b := by
  have e : bdIteS cap false R (b : Int) 0 1 = (R1, some n) := by
    have := bdIteS_of (cap := cap) hb (show 0 < R.length by omega) (show 1 < R.length by omega)
    rw [h1] at this
    exact this
  unfold bdXorS
  rw [e]
  exact bdIteS_of ha hn hb1
/-- What does hands back. -/
theorem StOut.mono_of {W X : World} {bs : Nat} {L : BdL} {cap : Nat} {r : List Bd × Option Nat} {e : Ending} {w' : World} (hB : Below W.heap.size W X) (h : StOut X bs L cap r e w') : StOut W bs L cap r e w' := by
  obtain ⟨L', h1, h2, h3⟩ := h
  exact ⟨L', ((BdGo.refl W L).below hB).trans h1, h2, h3⟩
set_option maxRecDepth 100000 in
set_option maxHeartbeats 8000000 in
theorem does_walk {W : World} {bs : Nat} {L : BdL} {R R' : List Bd} {n : Nat} (h : StAt W bs L 1048576 false R) (p : Option Addr) (all : List Nat) (c : Nat) (hl : BdNums W p all) (hn : all.length ≤ 1048576) (hlt : ∀ x ∈ all, x < R.length) (o : BOp)
    (hd : doesOne 1048576 R all o = (R', some n)) (hroom : R.length + 63 ≤ 1048578) (hlow : BdLow 6 R) :
    Calls Try.prog 7 #[.pointer (some ⟨bs, 0, none⟩), .slice p all.length c, .agg #[.int .i64 o.k, .int .i64 o.a, .int .i64 o.b, .int .i64 o.c, .bool o.on]] W (StOut W bs L 1048576 (R', some n)) := by
  have hmf : ∀ (fn : Fn) (first cap : Array Value) (w : World), (Instr.makeFunc fn first cap).run Try.prog w = .ok (.func fn first cap) w := fun _ _ _ _ => rfl
  have h2 := h.nodes.ok.two
  have at_lt : ∀ i, opAt 0 all i < R.length := fun i => by
    rcases opAt_mem 0 all i with e | e
    · rw [e]; omega
    · exact hlt _ e
  obtain ⟨ok, oa, ob, oc, oon⟩ := o
  simp only
  obtain ⟨X, hX, hB, hz, ca, cb, -, -⟩ := box2 W #[.slice p all.length c] #[.int .i64 ok, .int .i64 oa, .int .i64 ob, .int .i64 oc, .bool oon] 28 30
  have hSX := h.below hB
  have hat := fun i => does_at W.heap.size p all c (ca 0 _ rfl) (hl.below hB) hn i
  have hA := hat oa
  have hBb := hat ob
  have hCc := hat oc
  have la := at_lt oa
  have lb := at_lt ob
  have lc := at_lt oc
  have hd2 : (if ok = 1 then (if 5 < oa then (R, some 0) else bdVarN 1048576 R oa)
    else if ok = 2 then bdI 1048576 R (opAt 0 all oa) (opAt 0 all ob) (opAt 0 all oc)
    else if ok = 3 then bdI 1048576 R (opAt 0 all oa) 0 1
    else if ok = 4 then bdI 1048576 R (opAt 0 all oa) (opAt 0 all ob) 0
    else if ok = 5 then bdI 1048576 R (opAt 0 all oa) 1 (opAt 0 all ob)
    else if ok = 6 then bdXorN 1048576 R (opAt 0 all oa) (opAt 0 all ob)
    else (R, some 0)) = (R', some n) := by
    unfold doesOne at hd
    exact hd
  generalize opAt 0 all oa = va at hA la hd2
  generalize opAt 0 all ob = vb at hBb lb hd2
  generalize opAt 0 all oc = vc at hCc lc hd2
  have q0 := cb 0 _ rfl
  have q1 := cb 1 _ rfl
  have q2 := cb 2 _ rfl
  have q3 := cb 3 _ rfl
  obtain ⟨m, hm⟩ : ∃ m, all.length = m := ⟨_, rfl⟩
  rw [hm] at hX ⊢
  have hX' := Lib.hid hX
  have hB' := Lib.hid hB
  have hA' := Lib.hid hA
  have hBb' := Lib.hid hBb
  have hCc' := Lib.hid hCc
  have hSX' := Lib.hid hSX
  have hla := Lib.hid la
  have hlb := Lib.hid lb
  have hlc := Lib.hid lc
  have hok := Lib.hid (And.intro h.nodes.ok (And.intro hlow (And.intro hroom h2)))
  clear h hX hB hz ca cb hl hn hlt hd hroom hlow h2 at_lt hSX hat hA hBb hCc la lb lc hm
  by_cases k1 : ok = 1
  · subst k1
    rw [if_pos rfl] at hd2
    by_cases q : 5 < oa
    · have qb : decide (5 < oa) = true := decide_eq_true q
      rw [if_pos q] at hd2
      obtain ⟨rfl, hn0⟩ := Prod.mk.inj hd2
      obtain rfl := Option.some.inj hn0
      have hF : Hid (StOut W bs L 1048576 (R, some 0) (.returned (.int .i64 0)) X) := Lib.hid ⟨L, (BdGo.refl W L).below hB'.out, hSX'.out, rfl⟩
      clear q hd2 hn0
      go_enter Try.func7, Try.ntmps7
      go_upto_region 2 with (fail)
      rw [← hX'.out]
      have q0 := q0 ⟨#[], X.drawn⟩
      have q1 := q1 ⟨#[], X.drawn⟩
      rw [plus_self] at q0 q1
      go_wp2
      go_ret
      exact hF.out
    · have qb : decide (5 < oa) = false := decide_eq_false q
      rw [if_neg q] at hd2
      have hC := Lib.hid (fun (_ : Unit) => st_Var hSX'.out oa)
      unfold bdVarS at hC
      rw [if_neg (by decide), hd2] at hC
      clear q hd2
      go_enter Try.func7, Try.ntmps7
      go_upto_region 2 with (fail)
      rw [← hX'.out]
      have q0 := q0 ⟨#[], X.drawn⟩
      have q1 := q1 ⟨#[], X.drawn⟩
      rw [plus_self] at q0 q1
      go_wp2_with fail
      refine (hC.out ()).mono ?_
      intro e w1 hE
      obtain ⟨hF, rfl⟩ := hE.of
      have hF2 : Hid (StOut W bs L 1048576 (R', some n) (.returned (.int .i64 (n : Int))) w1) := Lib.hid (StOut.mono_of (hB'.out) hF.out)
      simp only [Option.getD_some]
      clear hE hF
      go_wp2
      go_ret
      exact hF2.out
  · by_cases k2 : ok = 2
    · subst k2
      rw [if_neg (by decide), if_pos rfl] at hd2
      have hC := Lib.hid (fun y => st_Ite (hSX'.out.plus y) (va : Int) (vb : Int) (vc : Int))
      rw [bdIteS_of hla.out hlb.out hlc.out, hd2] at hC
      clear hd2
      go_enter Try.func7, Try.ntmps7
      go_upto_region 8 with (fail)
      rw [← hX'.out]
      refine wp_region_own_tail0 13 (by kernel_rfl) (by kernel_rfl) ?_
      simp only [List.take_succ_cons, List.take_zero, List.drop_succ_cons, List.drop_zero]
      repeat (go_big_quiet_step (first | with_reducible exact hA'.out _ | with_reducible exact hBb'.out _ | with_reducible exact hCc'.out _))
      refine wpQuiet_nil ?_
      rintro _ ⟨y, rfl⟩
      go_wp2_with fail
      refine (hC.out _).mono ?_
      intro e w1 hE
      obtain ⟨hF, rfl⟩ := hE.of
      have hF2 : Hid (StOut W bs L 1048576 (R', some n) (.returned (.int .i64 (n : Int))) w1) := Lib.hid (StOut.mono_of (hB'.out.trans ((below_plus X y).mono hB'.out.size)) hF.out)
      simp only [Option.getD_some]
      clear hE hF
      go_wp2
      go_ret
      exact hF2.out
    · by_cases k3 : ok = 3
      · subst k3
        rw [if_neg (by decide), if_neg (by decide), if_pos rfl] at hd2
        have hC := Lib.hid (fun y => st_Not (hSX'.out.plus y) (va : Int))
        rw [show bdIteS 1048576 false R (va : Int) 0 1 = bdI 1048576 R va 0 1 from bdIteS_of (a := 0) (b := 1) hla.out (by have := hok.out.2.2.2; omega) (by have := hok.out.2.2.2; omega), hd2] at hC
        clear hd2
        go_enter Try.func7, Try.ntmps7
        go_upto_region 2 with (fail)
        rw [← hX'.out, ← plus_self X]
        go_wp2_with (first | (go_at_call 23; with_reducible refine (hA'.out _).mono ?_; rintro r w' ⟨rfl, x, rfl⟩))
        refine (hC.out _).mono ?_
        intro e w1 hE
        obtain ⟨hF, rfl⟩ := hE.of
        have hF2 : Hid (StOut W bs L 1048576 (R', some n) (.returned (.int .i64 (n : Int))) w1) := Lib.hid (StOut.mono_of (hB'.out.trans ((below_plus X _).mono hB'.out.size)) hF.out)
        simp only [Option.getD_some]
        clear hE hF
        go_wp2
        go_ret
        exact hF2.out
      · by_cases k4 : ok = 4
        · subst k4
          rw [if_neg (by decide), if_neg (by decide), if_neg (by decide), if_pos rfl] at hd2
          have hC := Lib.hid (fun y => st_And (hSX'.out.plus y) (va : Int) (vb : Int))
          rw [show bdIteS 1048576 false R (va : Int) (vb : Int) 0 = bdI 1048576 R va vb 0 from bdIteS_of (b := 0) hla.out hlb.out (by have := hok.out.2.2.2; omega), hd2] at hC
          clear hd2
          go_enter Try.func7, Try.ntmps7
          go_upto_region 12 with (fail)
          rw [← hX'.out]
          refine wp_region_own_tail0 9 (by kernel_rfl) (by kernel_rfl) ?_
          simp only [List.take_succ_cons, List.take_zero, List.drop_succ_cons, List.drop_zero]
          repeat (go_big_quiet_step (first | with_reducible exact hA'.out _ | with_reducible exact hBb'.out _ | with_reducible exact hCc'.out _))
          refine wpQuiet_nil ?_
          rintro _ ⟨y, rfl⟩
          go_wp2_with fail
          refine (hC.out _).mono ?_
          intro e w1 hE
          obtain ⟨hF, rfl⟩ := hE.of
          have hF2 : Hid (StOut W bs L 1048576 (R', some n) (.returned (.int .i64 (n : Int))) w1) := Lib.hid (StOut.mono_of (hB'.out.trans ((below_plus X y).mono hB'.out.size)) hF.out)
          simp only [Option.getD_some]
          clear hE hF
          go_wp2
          go_ret
          exact hF2.out
        · by_cases k5 : ok = 5
          · subst k5
            rw [if_neg (by decide), if_neg (by decide), if_neg (by decide), if_neg (by decide), if_pos rfl] at hd2
            have hC := Lib.hid (fun y => st_Or (hSX'.out.plus y) (va : Int) (vb : Int))
            rw [show bdIteS 1048576 false R (va : Int) 1 (vb : Int) = bdI 1048576 R va 1 vb from bdIteS_of (a := 1) hla.out (by have := hok.out.2.2.2; omega) hlb.out, hd2] at hC
            clear hd2
            go_enter Try.func7, Try.ntmps7
            go_upto_region 14 with (fail)
            rw [← hX'.out]
            refine wp_region_own_tail0 9 (by kernel_rfl) (by kernel_rfl) ?_
            simp only [List.take_succ_cons, List.take_zero, List.drop_succ_cons, List.drop_zero]
            repeat (go_big_quiet_step (first | with_reducible exact hA'.out _ | with_reducible exact hBb'.out _ | with_reducible exact hCc'.out _))
            refine wpQuiet_nil ?_
            rintro _ ⟨y, rfl⟩
            go_wp2_with fail
            refine (hC.out _).mono ?_
            intro e w1 hE
            obtain ⟨hF, rfl⟩ := hE.of
            have hF2 : Hid (StOut W bs L 1048576 (R', some n) (.returned (.int .i64 (n : Int))) w1) := Lib.hid (StOut.mono_of (hB'.out.trans ((below_plus X y).mono hB'.out.size)) hF.out)
            simp only [Option.getD_some]
            clear hE hF
            go_wp2
            go_ret
            exact hF2.out
          · by_cases k6 : ok = 6
            · subst k6
              rw [if_neg (by decide), if_neg (by decide), if_neg (by decide), if_neg (by decide), if_neg (by decide), if_pos rfl] at hd2
              have hC := Lib.hid (fun y => st_Xor (hSX'.out.plus y) (va : Int) (vb : Int))
              obtain ⟨R1, n1, S1, e1, ok1, low1, hS1, hn1, hs1, -⟩ := bdI_one (cap := 1048576) hok.out.1 hok.out.2.1 hlb.out (show 0 < R.length by have := hok.out.2.2.2; omega) (show 1 < R.length by have := hok.out.2.2.2; omega) hok.out.2.2.1
              have hlen : R.length ≤ R1.length := by rw [hS1]; simp
              rw [bdXorN_of e1] at hd2
              rw [bdXorS_of hok.out.2.2.2 hlb.out e1 (Nat.lt_of_lt_of_le hla.out hlen) (Nat.lt_of_lt_of_le hlb.out hlen) hn1, hd2] at hC
              clear hd2 e1 ok1 low1 hS1 hn1 hs1 hlen
              go_enter Try.func7, Try.ntmps7
              go_upto_region 16 with (fail)
              rw [← hX'.out]
              refine wp_region_own_tail0 9 (by kernel_rfl) (by kernel_rfl) ?_
              simp only [List.take_succ_cons, List.take_zero, List.drop_succ_cons, List.drop_zero]
              repeat (go_big_quiet_step (first | with_reducible exact hA'.out _ | with_reducible exact hBb'.out _ | with_reducible exact hCc'.out _))
              refine wpQuiet_nil ?_
              rintro _ ⟨y, rfl⟩
              go_wp2_with fail
              refine (hC.out _).mono ?_
              intro e w1 hE
              obtain ⟨hF, rfl⟩ := hE.of
              have hF2 : Hid (StOut W bs L 1048576 (R', some n) (.returned (.int .i64 (n : Int))) w1) := Lib.hid (StOut.mono_of (hB'.out.trans ((below_plus X y).mono hB'.out.size)) hF.out)
              simp only [Option.getD_some]
              clear hE hF
              go_wp2
              go_ret
              exact hF2.out
            · have j1 : (ok == 1) = false := by simp; omega
              have j2 : (ok == 2) = false := by simp; omega
              have j3 : (ok == 3) = false := by simp; omega
              have j4 : (ok == 4) = false := by simp; omega
              have j5 : (ok == 5) = false := by simp; omega
              have j6 : (ok == 6) = false := by simp; omega
              rw [if_neg k1, if_neg k2, if_neg k3, if_neg k4, if_neg k5, if_neg k6] at hd2
              obtain ⟨rfl, hn0⟩ := Prod.mk.inj hd2
              obtain rfl := Option.some.inj hn0
              have hF : Hid (StOut W bs L 1048576 (R, some 0) (.returned (.int .i64 0)) X) := Lib.hid ⟨L, (BdGo.refl W L).below hB'.out, hSX'.out, rfl⟩
              clear hd2 hn0 k1 k2 k3 k4 k5 k6
              go_enter Try.func7, Try.ntmps7
              go_upto_region 2 with (fail)
              rw [← hX'.out]
              have q0 := q0 ⟨#[], X.drawn⟩
              rw [plus_self] at q0
              go_wp2
              go_ret
              exact hF.out
end Go.Proofs.Ytfphilgdikanfaa
