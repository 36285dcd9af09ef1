/-
  WHAT IS PROVED HERE: a part of the proof of the claim's theorem: NetH; Un.
-/
import Derived.Test.YtkffjjlmoojffaaGreatDoorRows
import Derived.Test.YtkffjjlmoojffaaGreatDoorM23
import Derived.Test.YtkffjjlmoojffaaGreatDoorM16
import Derived.WalkKit
import Derived.WalkSpells
import Derived.WalkLawsBesides
set_option linter.all false
namespace Go.Proofs.YtkffjjlmoojffaaGreatDoor
open Go.RowKit
structure PortsAt (w : World) (v : Value) (pvs : List Sl3) (ports : List (List Int)) : Prop where
  row : Lies w 1 slC v pvs
  len : pvs.length = ports.length
  each : ∀ (i : Nat) (x : Sl3) (ps : List Int), pvs[i]? = some x → ports[i]? = some ps → Lies w 1 intC x.v ps ∧ ps.length ≤ 1048576
theorem PortsAt.below {w w' : World} {v : Value} {pvs : List Sl3} {ports : List (List Int)} (h : PortsAt w v pvs ports) (hB : Below w.heap.size w w') : PortsAt w' v pvs ports :=
  ⟨h.row.below hB, h.len, fun i x ps hx hp => ⟨(h.each i x ps hx hp).1.below hB, (h.each i x ps hx hp).2⟩⟩
def thereD (ports : List (List Int)) (e : End') : Bool := decide (0 ≤ e.sw) && decide (e.sw < ports.length) && decide (e.po ∈ (ports[e.sw.toNat]?).getD [])
set_option maxHeartbeats 2000000 in
theorem dc_there {w : World} (v : Value) (pvs : List Sl3) (ports : List (List Int)) (e : End') (p1 p3 : Option Addr) (n1 c1 n3 c3 : Nat) (h : PortsAt w v pvs ports) (hb : ports.length ≤ 1048576) :
    Calls Tryz.prog 75 #[.agg #[.slice p1 n1 c1, v, .slice p3 n3 c3], endV e] w (Back w (.bool (thereD ports e))) := by
  obtain ⟨p, c, rfl, hc⟩ := h.row
  obtain ⟨n, hn⟩ : ∃ n, ports.length = n := ⟨_, rfl⟩
  have hpn : pvs.length = n := h.len.trans hn
  rw [hpn]
  obtain ⟨sw, po⟩ := e
  obtain ⟨B, hB⟩ : ∃ B, thereD ports ⟨sw, po⟩ = B := ⟨_, rfl⟩
  rw [hB]
  unfold thereD at hB
  simp only at hB
  rw [hn] at hB hb
  obtain ⟨W, hW, hBW, hz, ca, cb, fa, fb⟩ := box2 w #[.slice p1 n1 c1, .slice p n c, .slice p3 n3 c3] #[.int .i64 sw, .int .i64 po] 27 41
  have a1 := ca 1 _ rfl
  have b0 := cb 0 _ rfl
  have b1 := cb 1 _ rfl
  have hBW' := Lib.hid hBW
  unfold endV
  by_cases h0 : 0 ≤ sw
  · by_cases h1 : sw < n
    · obtain ⟨k, rfl⟩ : ∃ k : Nat, sw = (k : Int) := ⟨sw.toNat, by omega⟩
      have hkn : k < n := by omega
      obtain ⟨x, hx⟩ : ∃ x, pvs[k]? = some x := ⟨_, List.getElem?_eq_getElem (by omega)⟩
      obtain ⟨ps, hps⟩ : ∃ ps, ports[k]? = some ps := ⟨_, List.getElem?_eq_getElem (by omega)⟩
      obtain ⟨g, rfl, hg, hcell⟩ := hc k x hx
      have hcg := fun y => ((below_plus W y).cell (p := ⟨g, k, none⟩) (by show g < W.heap.size; omega)).trans ((hBW.cell (p := ⟨g, k, none⟩) hg).trans (by simpa using hcell 0 _ rfl))
      obtain ⟨hl, hlb⟩ := h.each k x ps hx hps
      have hH := Lib.hid (fun y => (dc_has1 (w := Go.Proofs.YtkffjjlmoojffaaGreatDoor.plus W y) x.v ps po ((hl.below hBW).plus y) hlb).mono (fun _ _ ⟨he, z, hz⟩ => (⟨he, _, hz.trans (plus_plus _ _ _)⟩ : (_ = Ending.returned (.bool (decide (po ∈ ps)))) ∧ ∃ z, _ = Go.Proofs.YtkffjjlmoojffaaGreatDoor.plus W z)))
      have hB2 : decide (po ∈ ps) = B := by
        rw [← hB]
        have e1 : ((k : Int)).toNat = k := by omega
        rw [e1, hps]
        simp [hkn]
      rw [hB2] at hH
      obtain ⟨xp, xn, xc⟩ := x
      unfold Sl3.v at hH
      simp only at hH hcg
      have k0 : ¬ ((k : Int) < 0) := by omega
      have k1 : (k : Int) < (n : Int) := by omega
      have k2 : (0 : Int) ≤ (k : Int) := by omega
      clear hB hB2 hl hlb hps hx hcell hc h hpn hn hBW ca cb fa fb hz h0 h1
      go_enter Tryz.func75, Tryz.ntmps75
      go_upto_region 1 with (fail)
      rw [← hW]
      clear hW
      refine wp_region_own0 (by kernel_rfl) (by kernel_rfl) ?_
      repeat (go_big_quiet_step (first | (with_reducible exact hH.out _)))
      refine wpQuiet_nil ?_
      rintro _ ⟨y, rfl⟩
      go_wp2
      go_ret
      exact ⟨rfl, plus_of_below (hBW'.out.trans ((below_plus W y).mono hBW'.out.size))⟩
    · obtain rfl : B = false := by rw [← hB]; simp [h1]
      replace h1 : decide (sw < (n : Int)) = false := decide_eq_false h1
      clear hB hc h hpn hn hBW ca cb fa fb hz
      go_enter Tryz.func75, Tryz.ntmps75
      go_upto_region 1 with (fail)
      rw [← hW]
      clear hW
      refine wp_region_own0 (by kernel_rfl) (by kernel_rfl) ?_
      repeat (go_big_quiet_step (fail))
      refine wpQuiet_nil ?_
      rintro _ ⟨y, rfl⟩
      go_wp2
      go_ret
      exact ⟨rfl, plus_of_below (hBW'.out.trans ((below_plus W y).mono hBW'.out.size))⟩
  · obtain rfl : B = false := by rw [← hB]; simp [h0]
    replace h0 : decide (0 ≤ sw) = false := decide_eq_false h0
    clear hB hc h hpn hn hBW ca cb fa fb hz
    go_enter Tryz.func75, Tryz.ntmps75
    go_upto_region 1 with (fail)
    rw [← hW]
    clear hW
    refine wp_region_own0 (by kernel_rfl) (by kernel_rfl) ?_
    repeat (go_big_quiet_step (fail))
    refine wpQuiet_nil ?_
    rintro _ ⟨y, rfl⟩
    go_wp2
    go_ret
    exact ⟨rfl, plus_of_below (hBW'.out.trans ((below_plus W y).mono hBW'.out.size))⟩
theorem end_beq (a b c d : Int) : (a == c && b == d) = decide ((⟨a, b⟩ : End') = ⟨c, d⟩) := by by_cases h1 : a = c <;> by_cases h2 : b = d <;> simp [h1, h2]
theorem eql_end (x y : End') (w : World) : (binOp .eql 41 (.agg #[.int .i64 x.sw, .int .i64 x.po]) (.agg #[.int .i64 y.sw, .int .i64 y.po])).run Tryz.prog w = .ok (.bool (decide (x = y))) w := by
  obtain ⟨a, b⟩ := x
  obtain ⟨c, d⟩ := y
  rw [← end_beq]
  go_simp
  split <;> (try split) <;> simp_all
theorem neq_end (x y : End') (w : World) : (binOp .neq 41 (.agg #[.int .i64 x.sw, .int .i64 x.po]) (.agg #[.int .i64 y.sw, .int .i64 y.po])).run Tryz.prog w = .ok (.bool (!decide (x = y))) w := by
  obtain ⟨a, b⟩ := x
  obtain ⟨c, d⟩ := y
  rw [← end_beq]
  go_simp
  split <;> (try split) <;> simp_all
def nextF : List (End' × End') → End' → Option End'
  | [], _ => none
  | (a, b) :: r, e => if a = e then some b else if b = e then some a else nextF r e
theorem nextF_skip : ∀ (links : List (End' × End')) (e : End') (k : Nat), (∀ (j : Nat) (x : End' × End'), j < k → links[j]? = some x → ¬ x.1 = e ∧ ¬ x.2 = e) → nextF links e = nextF (links.drop k) e
  | [], e, k, _ => by simp
  | x :: r, e, 0, _ => rfl
  | (a, b) :: r, e, k + 1, h => by
    have h0 := h 0 (a, b) (by omega) rfl
    simp only at h0
    rw [List.drop_succ_cons, nextF, if_neg h0.1, if_neg h0.2]
    exact nextF_skip r e k fun j x hj hx => h (j + 1) x (by omega) (by simpa using hx)
theorem nextF_at {links : List (End' × End')} {e : End'} {k : Nat} {a b : End'} (hk : links[k]? = some (a, b)) (h : ∀ (j : Nat) (x : End' × End'), j < k → links[j]? = some x → ¬ x.1 = e ∧ ¬ x.2 = e) : (a = e → nextF links e = some b) ∧ (¬ a = e → b = e → nextF links e = some a) := by
  obtain ⟨hlt, hx⟩ := List.getElem?_eq_some_iff.1 hk
  rw [nextF_skip links e k h, List.drop_eq_getElem_cons hlt, hx, nextF]
  exact ⟨fun q => by rw [if_pos q], fun q1 q2 => by rw [if_neg q1, if_pos q2]⟩
theorem nextF_none {links : List (End' × End')} {e : End'} (h : ∀ (j : Nat) (x : End' × End'), j < links.length → links[j]? = some x → ¬ x.1 = e ∧ ¬ x.2 = e) : nextF links e = none := by
  rw [nextF_skip links e links.length h, List.drop_length]; rfl
def nextV (there : Bool) (links : List (End' × End')) (e : End') : End' × Bool × Bool := if there = true then (match nextF links e with | some t => (t, true, true) | none => (⟨0, 0⟩, true, false)) else (⟨0, 0⟩, false, false)
set_option maxHeartbeats 4000000 in
theorem dc_next {w : World} (vp vl : Value) (pvs : List Sl3) (ports : List (List Int)) (links : List (End' × End')) (e : End') (p1 : Option Addr) (n1 c1 : Nat) (h : PortsAt w vp pvs ports) (hb : ports.length ≤ 1048576) (hl : Lies w 4 linkC vl links) (hlb : links.length ≤ 1048576) :
    Calls Tryz.prog 51 #[.agg #[.slice p1 n1 c1, vp, vl], endV e] w (Back w (.tuple #[endV (nextV (thereD ports e) links e).1, .bool (nextV (thereD ports e) links e).2.1, .bool (nextV (thereD ports e) links e).2.2])) := by
  obtain ⟨R, hR⟩ : ∃ R, nextV (thereD ports e) links e = R := ⟨_, rfl⟩
  rw [hR]
  obtain ⟨⟨Rs, Rp⟩, Rt, Rl⟩ := R
  simp only
  obtain ⟨pl, cl, rfl, hcl⟩ := hl
  obtain ⟨n, hn⟩ : ∃ n, links.length = n := ⟨_, rfl⟩
  rw [hn] at hlb ⊢
  have hT := fun (W : World) (hB : Below w.heap.size w W) => dc_there (w := W) vp pvs ports e p1 pl n1 c1 n cl (h.below hB) hb
  obtain ⟨B, hBb⟩ : ∃ B, thereD ports e = B := ⟨_, rfl⟩
  rw [hBb] at hR hT
  obtain ⟨pp, cp, hpp, -⟩ := h.row
  obtain ⟨np, hnp⟩ : ∃ np, pvs.length = np := ⟨_, rfl⟩
  rw [hnp] at hpp
  subst hpp
  obtain ⟨sw, po⟩ := e
  obtain ⟨W, hW, hBW, hz, ca, cb, cc, fa, fb, fc⟩ := box3 w #[.slice p1 n1 c1, .slice pp np cp, .slice pl n cl] #[.int .i64 sw, .int .i64 po] #[.int .i64 0, .int .i64 0] 27 41 41
  have hT' := Lib.hid (hT W hBW)
  unfold endV at hT' ⊢
  simp only at hT' ⊢
  have a0 := ca 0 _ rfl
  have a1 := ca 1 _ rfl
  have a2 := ca 2 _ rfl
  have b0 := cb 0 _ rfl
  have b1 := cb 1 _ rfl
  have r0 := cc 0 _ rfl
  have r1 := cc 1 _ rfl
  have hBW' := Lib.hid hBW
  have hcl' := Lib.hid hcl
  have hn' := Lib.hid hn
  replace hR := Lib.hid hR
  have hfin : Hid (∀ (y : Ext) (u v : Value), ∃ x, ((Go.Proofs.YtkffjjlmoojffaaGreatDoor.plus W y).setCell ⟨w.heap.size + 1 + 1, 0, none⟩ u).setCell ⟨w.heap.size + 1 + 1, 1, none⟩ v = Go.Proofs.YtkffjjlmoojffaaGreatDoor.plus w x) := by
    show ∀ y u v, _
    intro y u v
    exact own_end hBW (show w.heap.size ≤ w.heap.size + 1 + 1 by omega) u v
  clear hT h hcl hn ca cb cc fa fb hz hBb hnp
  go_enter Tryz.func51, Tryz.ntmps51
  go_upto_region 1 with (fail)
  rw [← hW, ← plus_self W]
  clear hW
  rw [← plus_self W] at hT'
  go_wp2_with fail
  refine hT'.out.mono ?_
  rintro e w' ⟨rfl, x, rfl⟩
  rw [plus_plus]
  generalize (⟨(⟨#[], W.drawn⟩ : Ext).blocks ++ x.blocks, x.draws⟩ : Ext) = y
  have hBy := Lib.hid (fun (y : Ext) => hBW'.out.trans ((below_plus W y).mono hBW'.out.size))
  clear a0 a1 hT'
  cases B with
  | false =>
    obtain ⟨rfl, rfl, rfl, rfl⟩ : Rs = 0 ∧ Rp = 0 ∧ Rt = false ∧ Rl = false := by have e := hR.out; unfold nextV at e; rw [if_neg (by decide)] at e; simp only [Prod.mk.injEq, End'.mk.injEq] at e; exact ⟨e.1.1.symm, e.1.2.symm, e.2.1.symm, e.2.2.symm⟩
    go_wp2
    refine bodyPost_ret (v := .tuple #[.agg #[.int .i64 0, .int .i64 0], .bool false, .bool false]) ?_ rfl ⟨rfl, hfin.out _ _ _⟩
    simp [results, Tryz.results51, go_sem, r0, r1]
  | true =>
    go_wp2
    go_loopw [7] (fun iv wr => ∃ k : Nat, k ≤ n ∧ iv = .int .i64 (k : Int) ∧ (∃ y, wr = Go.Proofs.YtkffjjlmoojffaaGreatDoor.plus W y) ∧ Hid (∀ (j : Nat) (x : End' × End'), j < k → links[j]? = some x → ¬ x.1 = ⟨sw, po⟩ ∧ ¬ x.2 = ⟨sw, po⟩)) (fun iv _ => n - (intOf iv).toNat)
    case atStart => exact ⟨0, Nat.zero_le _, rfl, ⟨y, rfl⟩, fun j x hj => absurd hj (Nat.not_lt_zero _)⟩
    case round =>
      obtain ⟨k, hk, rfl, ⟨y2, rfl⟩, hno⟩ := hrel
      by_cases hlt : k < n
      · obtain ⟨⟨qa, qb⟩, hq⟩ : ∃ q, links[k]? = some q := ⟨links[k]'(by rw [hn'.out]; exact hlt), List.getElem?_eq_getElem _⟩
        obtain ⟨g, rfl, hg, hcell⟩ := hcl'.out k _ hq
        have hat := Lib.hid (nextF_at hq hno.out)
        have cc := fun j u (hu : (linkC (qa, qb))[j]? = some u) y => ((below_plus W y).cell (p := ⟨g, k * 4 + j, none⟩) (Nat.lt_of_lt_of_le hg hBW'.out.size)).trans ((hBW'.out.cell (p := ⟨g, k * 4 + j, none⟩) hg).trans (hcell j u hu))
        have d0 := cc 0 _ rfl
        have d1 := cc 1 _ rfl
        have d2 := cc 2 _ rfl
        have d3 := cc 3 _ rfl
        simp only [Nat.add_zero] at d0
        have k0 : ¬ ((k : Int) < 0) := by omega
        have k1 : (k : Int) < (n : Int) := by omega
        obtain ⟨BA, hBA⟩ : ∃ B, decide (qa = ⟨sw, po⟩) = B := ⟨_, rfl⟩
        obtain ⟨BB, hBB⟩ : ∃ B, decide (qb = ⟨sw, po⟩) = B := ⟨_, rfl⟩
        have q1 := fun w => eql_end qa ⟨sw, po⟩ w
        have q2 := fun w => eql_end qb ⟨sw, po⟩ w
        rw [hBA] at q1
        rw [hBB] at q2
        replace hBA := Lib.hid hBA
        replace hBB := Lib.hid hBB
        obtain ⟨qa0, qa1⟩ := qa
        obtain ⟨qb0, qb1⟩ := qb
        simp only at q1 q2 d0 d1 d2 d3
        have hq' := Lib.hid hq
        clear hcell hq cc
        cases BA with
        | true =>
          obtain ⟨rfl, rfl, rfl, rfl⟩ : Rs = qb0 ∧ Rp = qb1 ∧ Rt = true ∧ Rl = true := by
            have e := hR.out
            unfold nextV at e
            rw [if_pos rfl, hat.out.1 (of_decide_eq_true hBA.out)] at e
            simp only [Prod.mk.injEq, End'.mk.injEq] at e
            exact ⟨e.1.1.symm, e.1.2.symm, e.2.1.symm, e.2.2.symm⟩
          go_wp2
          refine wp_region_own (by kernel_rfl) (by kernel_rfl) ?_
          repeat (go_big_quiet_step (fail))
          refine wpQuiet_nil ?_
          rintro _ ⟨y3, rfl⟩
          go_wp2
          refine bodyPost_ret (v := .tuple #[.agg #[.int .i64 Rs, .int .i64 Rp], .bool true, .bool true]) ?_ rfl ⟨rfl, hfin.out _ _ _⟩
          simp [results, Tryz.results51, go_sem, r0, r1]
        | false =>
          cases BB with
          | true =>
            obtain ⟨rfl, rfl, rfl, rfl⟩ : Rs = qa0 ∧ Rp = qa1 ∧ Rt = true ∧ Rl = true := by
              have e := hR.out
              unfold nextV at e
              rw [if_pos rfl, hat.out.2 (of_decide_eq_false hBA.out) (of_decide_eq_true hBB.out)] at e
              simp only [Prod.mk.injEq, End'.mk.injEq] at e
              exact ⟨e.1.1.symm, e.1.2.symm, e.2.1.symm, e.2.2.symm⟩
            go_wp2
            refine wp_region_own (by kernel_rfl) (by kernel_rfl) ?_
            repeat (go_big_quiet_step (fail))
            refine wpQuiet_nil ?_
            rintro _ ⟨y3, rfl⟩
            go_wp2
            refine wp_region_own (by kernel_rfl) (by kernel_rfl) ?_
            repeat (go_big_quiet_step (fail))
            refine wpQuiet_nil ?_
            rintro _ ⟨y4, rfl⟩
            go_wp2
            refine bodyPost_ret (v := .tuple #[.agg #[.int .i64 Rs, .int .i64 Rp], .bool true, .bool true]) ?_ rfl ⟨rfl, hfin.out _ _ _⟩
            simp [results, Tryz.results51, go_sem, r0, r1]
          | false =>
            go_wp2
            refine wp_region_own (by kernel_rfl) (by kernel_rfl) ?_
            repeat (go_big_quiet_step (fail))
            refine wpQuiet_nil ?_
            rintro _ ⟨y3, rfl⟩
            go_wp2
            refine wp_region_own (by kernel_rfl) (by kernel_rfl) ?_
            repeat (go_big_quiet_step (fail))
            refine wpQuiet_nil ?_
            rintro _ ⟨y4, rfl⟩
            go_wp2
            go_roundw
            case rel =>
              refine ⟨k + 1, hlt, congrArg (Value.int .i64) (by omega), ⟨_, rfl⟩, Lib.hid fun j x hj hx => ?_⟩
              by_cases hjk : j = k
              · subst hjk
                obtain rfl := Option.some.inj (hq'.out.symm.trans hx)
                exact ⟨of_decide_eq_false hBA.out, of_decide_eq_false hBB.out⟩
              · exact hno.out j x (by omega) hx
            case measure => exact step_lt k n hlt
      · obtain rfl : k = n := by omega
        obtain ⟨rfl, rfl, rfl, rfl⟩ : Rs = 0 ∧ Rp = 0 ∧ Rt = true ∧ Rl = false := by
          have e := hR.out
          unfold nextV at e
          rw [if_pos rfl, nextF_none (fun j x hj hx => hno.out j x (by have := hn'.out; omega) hx)] at e
          simp only [Prod.mk.injEq, End'.mk.injEq] at e
          exact ⟨e.1.1.symm, e.1.2.symm, e.2.1.symm, e.2.2.symm⟩
        go_wp2
        refine bodyPost_ret (v := .tuple #[.agg #[.int .i64 0, .int .i64 0], .bool true, .bool false]) ?_ rfl ⟨rfl, hfin.out _ _ _⟩
        simp [results, Tryz.results51, go_sem, r0, r1]
end Go.Proofs.YtkffjjlmoojffaaGreatDoor
namespace Go.Proofs.YtkffjjlmoojffaaGreatDoor
open Go.RowKit
theorem flat_get : ∀ (l : List Tok) (j i : Nat) (t : Tok), l[j]? = some t → i < 6 → (l.flatMap tokL)[j * 6 + i]? = (tokL t)[i]?
  | [], j, i, t, h, _ => by simp at h
  | x :: l, 0, i, t, h, hi => by
    simp only [List.getElem?_cons_zero, Option.some.injEq] at h
    subst h
    rw [List.flatMap_cons, List.getElem?_append_left (by show _ < 6; omega)]
    rw [Nat.zero_mul, Nat.zero_add]
  | x :: l, j + 1, i, t, h, hi => by
    rw [List.flatMap_cons, List.getElem?_append_right (by show 6 ≤ _; omega)]
    have := flat_get l j i t (by simpa using h) hi
    rw [← this]
    congr 1
    show (j + 1) * 6 + i - 6 = j * 6 + i
    omega
theorem tok_at {W : World} {base g cap : Nat} {l : List Tok} (h : W.ownsRow base 60 6 (.slice (some ⟨g, 0, none⟩) l.length cap) l.length (l.flatMap tokL)) (hg : g < W.heap.size) (j : Nat) (t : Tok) (ht : l[j]? = some t) : TokAt W g j t := by
  have hj := (List.getElem?_eq_some_iff.1 ht).1
  have c := fun i (hi : i < 6) => (h.cellAt (j * 6 + i) (by omega)).trans (flat_get l j i t ht hi)
  exact ⟨hg, c 0 (by decide), c 1 (by decide), c 2 (by decide), c 3 (by decide), c 4 (by decide), c 5 (by decide)⟩
theorem own_below {W W' : World} {n base : Nat} {e : TypeId} {size : Nat} {v : Value} {k : Nat} {xs : List Value} (h : W.ownsRow base e size v k xs) (hB : Below n W W') (hn : W.heap.size ≤ n) : W'.ownsRow base e size v k xs := by
  obtain ⟨hl, h2⟩ := h
  refine ⟨hl, ?_⟩
  rcases h2 with h2 | ⟨g, cap, cur, hv, hg, hh, h3, h4, h5, h6⟩
  · exact .inl h2
  · have hlt := (Array.getElem?_eq_some_iff.1 hh).1
    obtain ⟨_, _, _, _, b5⟩ := hB
    exact .inr ⟨g, cap, cur, hv, hg, (b5 g (by omega)).trans hh, h3, h4, h5, h6⟩
theorem lexN_len (s : ByteArray) : ∀ (f a : Nat) (acc : List Tok), a ≤ s.size → (lexN s f a acc).1.length ≤ acc.length + (s.size - a) + 1
  | 0, a, acc, _ => by unfold lexN; simp
  | f + 1, a, acc, ha => by
    by_cases h : a < s.size
    · by_cases h0 : (oneR s a).2 = 0
      · rw [lexN_go h h0]
        have hz := oneR_size s a h h0
        have hb := skip_bounds s _ (a + (oneR s a).1.s.size) (Nat.le_refl _) hz.2
        have := lexN_len s f (skipN s (a + (oneR s a).1.s.size)) (acc ++ [(oneR s a).1]) hb.2
        simp only [List.length_append, List.length_singleton] at this
        omega
      · rw [lexN_bad h h0]; simp
    · rw [lexN_end h]; simp
theorem lexR_len (s : ByteArray) : (lexR s).1.length ≤ s.size + 1 := by
  unfold lexR
  split
  · simp
  · have hb := skip_bounds s _ 0 (Nat.le_refl _) (Nat.zero_le _)
    have := lexN_len s s.size (skipN s 0) [] hb.2
    simp only [List.length_nil] at this
    omega
theorem eql_fv3 (a b c : Int) (w : World) : (binOp .eql 32 (fv a b c) (fv a b c)).run Tryz.prog w = .ok (.bool true) w := by
  go_simp
end Go.Proofs.YtkffjjlmoojffaaGreatDoor
