/-
  WHAT IS PROVED HERE: what the landed Var, Not, And, Or, Xor of a store make, and the store behind them.
-/
import Derived.Test.YtfphilgdikanfaaBdK
import Derived.Test.YtfphilgdikanfaaBdR
namespace Go.Proofs.Ytfphilgdikanfaa
open Go.RowKit
theorem StOut.of {w : World} {bs : Nat} {L : BdL} {cap : Nat} {r : List Bd × Option Nat} {e : Ending} {w' : World} (h : StOut w bs L cap r e w') : Hid (StOut w bs L cap r (.returned (.int .i64 ((r.2.getD 0 : Nat) : Int))) w') ∧ e = .returned (.int .i64 ((r.2.getD 0 : Nat) : Int)) := by
  obtain ⟨L1, h1, h2, rfl⟩ := h
  exact ⟨Lib.hid ⟨L1, h1, h2, rfl⟩, rfl⟩
set_option maxRecDepth 100000 in
set_option maxHeartbeats 8000000 in
theorem st_Not {W : World} {bs : Nat} {L : BdL} {cap : Nat} {full : Bool} {R : List Bd} (h : StAt W bs L cap full R) (a : Int) :
    Calls Try.prog 16 #[.pointer (some ⟨bs, 0, none⟩), .int .i64 a] W (StOut W bs L cap (bdIteS cap full R a 0 1)) := by
  have hI := Lib.hid (st_Ite h a 0 1)
  generalize bdIteS cap full R a 0 1 = r at hI ⊢
  clear h
  go_enter Try.func16, Try.ntmps16
  go_wp2_with fail
  refine hI.out.mono ?_
  intro e w1 hE
  obtain ⟨hF, rfl⟩ := hE.of
  generalize r.2.getD 0 = n at hF ⊢
  clear hE hI
  go_wp2
  go_ret
  exact hF.out
set_option maxRecDepth 100000 in
set_option maxHeartbeats 8000000 in
theorem st_And {W : World} {bs : Nat} {L : BdL} {cap : Nat} {full : Bool} {R : List Bd} (h : StAt W bs L cap full R) (a b : Int) :
    Calls Try.prog 17 #[.pointer (some ⟨bs, 0, none⟩), .int .i64 a, .int .i64 b] W (StOut W bs L cap (bdIteS cap full R a b 0)) := by
  have hI := Lib.hid (st_Ite h a b 0)
  generalize bdIteS cap full R a b 0 = r at hI ⊢
  clear h
  go_enter Try.func17, Try.ntmps17
  go_wp2_with fail
  refine hI.out.mono ?_
  intro e w1 hE
  obtain ⟨hF, rfl⟩ := hE.of
  generalize r.2.getD 0 = n at hF ⊢
  clear hE hI
  go_wp2
  go_ret
  exact hF.out
set_option maxRecDepth 100000 in
set_option maxHeartbeats 8000000 in
theorem st_Or {W : World} {bs : Nat} {L : BdL} {cap : Nat} {full : Bool} {R : List Bd} (h : StAt W bs L cap full R) (a b : Int) :
    Calls Try.prog 18 #[.pointer (some ⟨bs, 0, none⟩), .int .i64 a, .int .i64 b] W (StOut W bs L cap (bdIteS cap full R a 1 b)) := by
  have hI := Lib.hid (st_Ite h a 1 b)
  generalize bdIteS cap full R a 1 b = r at hI ⊢
  clear h
  go_enter Try.func18, Try.ntmps18
  go_wp2_with fail
  refine hI.out.mono ?_
  intro e w1 hE
  obtain ⟨hF, rfl⟩ := hE.of
  generalize r.2.getD 0 = n at hF ⊢
  clear hE hI
  go_wp2
  go_ret
  exact hF.out
/-- Xor: Ite of a, Not of b, which is made first, b. -/
def bdXorS (cap : Nat) (full : Bool) (R : List Bd) (a b : Int) : List Bd × Option Nat :=
  bdIteS cap (bdIteS cap full R b 0 1).2.isNone (bdIteS cap full R b 0 1).1 a (((bdIteS cap full R b 0 1).2.getD 0 : Nat) : Int) b
set_option maxRecDepth 100000 in
set_option maxHeartbeats 8000000 in
theorem st_Xor {W : World} {bs : Nat} {L : BdL} {cap : Nat} {full : Bool} {R : List Bd} (h : StAt W bs L cap full R) (a b : Int) :
    Calls Try.prog 19 #[.pointer (some ⟨bs, 0, none⟩), .int .i64 a, .int .i64 b] W (StOut W bs L cap (bdXorS cap full R a b)) := by
  have hN := Lib.hid (st_Not h b)
  unfold bdXorS
  obtain ⟨r, hr⟩ : ∃ r, bdIteS cap full R b 0 1 = r := ⟨_, rfl⟩
  rw [hr] at hN ⊢
  obtain ⟨r2, hr2⟩ : ∃ r2, bdIteS cap r.2.isNone r.1 a ((r.2.getD 0 : Nat) : Int) b = r2 := ⟨_, rfl⟩
  rw [hr2]
  have hr2' := Lib.hid hr2
  clear h hr hr2
  go_enter Try.func19, Try.ntmps19
  go_wp2_with fail
  refine hN.out.mono ?_
  rintro e w1 ⟨L1, hG, hS, rfl⟩
  have hI := st_Ite hS a ((r.2.getD 0 : Nat) : Int) b
  rw [hr2'.out] at hI
  have hG' := Lib.hid hG
  clear hr2'
  generalize r.2.getD 0 = n at hI ⊢
  replace hI := Lib.hid hI
  clear hG hS hN
  go_wp2_with fail
  refine hI.out.mono ?_
  rintro e w2 ⟨L2, hG2, hS2, rfl⟩
  have hF : Hid (StOut W bs L cap r2 (.returned (.int .i64 ((r2.2.getD 0 : Nat) : Int))) w2) := Lib.hid ⟨L2, hG'.out.trans hG2, hS2, rfl⟩
  generalize r2.2.getD 0 = m at hF ⊢
  clear hG2 hS2 hI hG'
  go_wp2
  go_ret
  exact hF.out
def bdVarS (cap : Nat) (full : Bool) (R : List Bd) (v : Int) : List Bd × Option Nat := if full = true then (R, none) else bdVarN cap R v
set_option maxRecDepth 100000 in
set_option maxHeartbeats 8000000 in
theorem bd_variable {W : World} {L : BdL} {cap : Nat} {R : List Bd} (h : BdAt W L cap false R) (v : Int) :
    Calls Try.prog 32 #[.pointer (some ⟨L.bn, 0, none⟩), .int .i64 v] W (BdEnds W L cap (bdVarN cap R v)) := by
  have h' := Lib.hid h
  unfold bdVarN
  by_cases q1 : v < 0
  · have q1b : decide (v < 0) = true := decide_eq_true q1
    rw [if_pos (.inl q1)]
    clear h q1
    go_enter Try.func32, Try.ntmps32
    go_wp2
    go_ret
    exact (BdGo.refl W L).ends (r := (R, some 0)) h'.out
  · have q1b : decide (v < 0) = false := decide_eq_false q1
    by_cases q2 : 64 ≤ v
    · have q2b : decide (64 ≤ v) = true := decide_eq_true q2
      rw [if_pos (.inr q2)]
      clear h q1 q2
      go_enter Try.func32, Try.ntmps32
      go_wp2
      go_ret
      exact (BdGo.refl W L).ends (r := (R, some 0)) h'.out
    · have q2b : decide (64 ≤ v) = false := decide_eq_false q2
      rw [if_neg (fun z => z.elim q1 q2)]
      obtain ⟨k, rfl⟩ : ∃ k : Nat, v = (k : Int) := ⟨v.toNat, by omega⟩
      rw [Int.toNat_natCast]
      have h2 := h.ok.two
      have hN := Lib.hid (bd_node h k 0 1 (by omega) (by omega) (by omega) (by rw [bdV_at h.ok.no]; simp only; omega) (by rw [bdV_at h.ok.yes]; simp only; omega))
      obtain ⟨⟨R1, o1⟩, hr⟩ : ∃ r, bdNode cap R k 0 1 = r := ⟨_, rfl⟩
      rw [hr] at hN ⊢
      clear h q1 q2 hr h2
      go_enter Try.func32, Try.ntmps32
      go_wp2_with fail
      refine hN.out.mono ?_
      intro e w1 hE
      obtain ⟨L1, hG, hA, rfl⟩ := hE.of
      have hF : Hid (BdEnds W L cap (R1, o1) (match (R1, o1).2 with | some n => .returned (.int .i64 (n : Int)) | none => bdGave) w1) := Lib.hid (hG.ends hA)
      clear hE hG hA hN
      cases o1 with
      | none =>
        go_wp2
        exact ⟨rfl, hF.out⟩
      | some n =>
        go_wp2
        go_ret
        exact hF.out
set_option maxRecDepth 100000 in
set_option maxHeartbeats 8000000 in
theorem var_lit {V : World} {L : BdL} {cap : Nat} {R : List Bd} (h : BdAt V L cap false R) (v : Int) (pv : Nat) (hv : V.cell? ⟨pv, 0, none⟩ = some (.int .i64 v)) :
    Calls Try.prog 31 #[.pointer (some ⟨L.bn, 0, none⟩), .pointer (some ⟨pv, 0, none⟩)] V (BdEnds V L cap (bdVarN cap R v)) := by
  have hN := Lib.hid (bd_variable h v)
  obtain ⟨⟨R1, o1⟩, hr⟩ : ∃ r, bdVarN cap R v = r := ⟨_, rfl⟩
  rw [hr] at hN ⊢
  clear h hr
  go_enter Try.func31, Try.ntmps31
  go_wp2_with fail
  refine hN.out.mono ?_
  intro e w1 hE
  obtain ⟨L1, hG, hA, rfl⟩ := hE.of
  have hF : Hid (BdEnds V L cap (R1, o1) (match (R1, o1).2 with | some n => .returned (.int .i64 (n : Int)) | none => bdGave) w1) := Lib.hid (hG.ends hA)
  clear hE hG hA hN
  cases o1 with
  | none =>
    go_wp2
    exact ⟨rfl, hF.out⟩
  | some n =>
    go_wp2
    go_ret
    exact hF.out
set_option maxRecDepth 100000 in
set_option maxHeartbeats 8000000 in
theorem st_Var {W : World} {bs : Nat} {L : BdL} {cap : Nat} {full : Bool} {R : List Bd} (h : StAt W bs L cap full R) (v : Int) :
    Calls Try.prog 14 #[.pointer (some ⟨bs, 0, none⟩), .int .i64 v] W (StOut W bs L cap (bdVarS cap full R v)) := by
  have hmf : ∀ (fn : Fn) (first cap : Array Value) (w : World), (Instr.makeFunc fn first cap).run Try.prog w = .ok (.func fn first cap) w := fun _ _ _ _ => rfl
  obtain ⟨X, hX, hB, hz, ca, -⟩ := box1 W #[.int .i64 v] 3
  have hM : Calls Try.prog 30 #[.pointer (some ⟨bs, 0, none⟩), .func (.func 31) #[] #[.pointer (some ⟨W.heap.size, 0, none⟩)]] X (StOut X bs L cap (bdVarS cap full R v)) := by
    unfold bdVarS
    cases full with
    | true => exact made_full (h.below hB) _ _
    | false =>
      refine made_in (h.below hB) _ _ _ (fun w => by simp [go_sem]) fun V hV hA => ?_
      have k0 := hV.cell (p := ⟨W.heap.size, 0, none⟩) (by simp only; omega)
      have q0 := ca 0 _ rfl ⟨#[], X.drawn⟩
      rw [plus_self] at q0
      exact var_lit hA v _ (k0.trans q0)
  have hM' := Lib.hid hM
  have hX' := Lib.hid hX
  have hB' := Lib.hid hB
  generalize bdVarS cap full R v = r at hM' hM ⊢
  clear h hX hB hz ca hM
  go_enter Try.func14, Try.ntmps14
  go_wp2_with fail
  rw [← hX'.out]
  refine hM'.out.mono ?_
  rintro e w1 ⟨L1, hG, hS, rfl⟩
  have hF : Hid (StOut W bs L cap r (.returned (.int .i64 ((r.2.getD 0 : Nat) : Int))) w1) := Lib.hid ⟨L1, ((BdGo.refl W L).below hB'.out).trans hG, hS, rfl⟩
  generalize r.2.getD 0 = n at hF ⊢
  clear hG hS hM' hmf
  go_wp2
  go_ret
  exact hF.out
end Go.Proofs.Ytfphilgdikanfaa
