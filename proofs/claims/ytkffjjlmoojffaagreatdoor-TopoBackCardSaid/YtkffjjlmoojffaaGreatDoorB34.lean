/-
  WHAT IS PROVED HERE: a part of the proof of the claim's theorem: NtC.
-/
import Derived.Test.YtkffjjlmoojffaaGreatDoorRows
import Derived.Test.YtkffjjlmoojffaaGreatDoorB33
import Derived.Test.YtkffjjlmoojffaaGreatDoorB25
set_option linter.all false
namespace Go.Proofs.YtkffjjlmoojffaaGreatDoor
open Go.RowKit
theorem flat_at : ∀ (links : List (End' × End')) (k : Nat) (a b : End'), links[k]? = some (a, b) → (flat links)[2 * k]? = some a ∧ (flat links)[2 * k + 1]? = some b
  | [], k, a, b, h => by simp at h
  | x :: r, 0, a, b, h => by
    simp only [List.getElem?_cons_zero, Option.some.injEq] at h
    subst h
    exact ⟨rfl, rfl⟩
  | x :: r, k + 1, a, b, h => by
    have := flat_at r k a b (by simpa using h)
    have e : flat (x :: r) = x.1 :: x.2 :: flat r := by simp [flat]
    rw [e, show 2 * (k + 1) = 2 * k + 1 + 1 by omega, List.getElem?_cons_succ, List.getElem?_cons_succ, show 2 * k + 1 + 1 + 1 = 2 * k + 1 + 1 + 1 by rfl, List.getElem?_cons_succ, List.getElem?_cons_succ]
    exact this
theorem flat_len (links : List (End' × End')) : (flat links).length = 2 * links.length := by
  induction links with
  | nil => rfl
  | cons x r ih =>
    have e : flat (x :: r) = x.1 :: x.2 :: flat r := by simp [flat]
    rw [e, List.length_cons, List.length_cons, ih, List.length_cons]; omega
theorem own_sl {α : Type} {w : World} {base : Nat} {e : TypeId} {C : Nat} {f : α → List Value} {v : Value} {l : List α} (h : Own w base e C f v l) : ∃ p c, v = .slice p l.length c := own_sl3 h
structure EI (W : World) (v : Value) (done : List End') (wr : World) : Prop where
  below : Below W.heap.size W wr
  own : Own wr W.heap.size 41 2 endC v done
theorem EI.alloc {W wr : World} {v : Value} {done : List End'} (h : EI W v done wr) (o : Obj) : EI W v done (wr.alloc o) := ⟨h.below.alloc h.below.size o, h.own.alloc o⟩
theorem EI.plus {W wr : World} {v : Value} {done : List End'} (h : EI W v done wr) (y : Ext) : EI W v done (Go.Proofs.YtkffjjlmoojffaaGreatDoor.plus wr y) := ⟨h.below.trans ((below_plus wr y).mono h.below.size), own_belows h.own (below_plus wr y)⟩
theorem EI.cell {W wr : World} {v : Value} {done : List End'} (h : EI W v done wr) {b i : Nat} {u : Value} (hb : b < W.heap.size) (hc : W.cell? ⟨b, i, none⟩ = some u) : wr.cell? ⟨b, i, none⟩ = some u := (h.below.cell (p := ⟨b, i, none⟩) hb).trans hc
theorem drop_at {α : Type} {l : List α} {k : Nat} {x : α} (h : l[k]? = some x) : l.drop k = x :: l.drop (k + 1) ∧ l.take (k + 1) = l.take k ++ [x] ∧ k < l.length := by
  obtain ⟨h1, h2⟩ := List.getElem?_eq_some_iff.1 h
  exact ⟨by rw [List.drop_eq_getElem_cons h1, h2], by rw [List.take_succ_eq_append_getElem h1, h2], h1⟩
theorem two_cells : Tryz.prog.cellsOf 41 = 2 := by kernel_rfl
theorem two_index0 (a b c d : Int) (w : World) : (Instr.index 102 (.agg #[.int .i64 a, .int .i64 b, .int .i64 c, .int .i64 d]) (.int .i64 0)).run Tryz.prog w = .ok (.agg #[.int .i64 a, .int .i64 b]) w := by
  simp [Instr.index, run_underlying Tryz.underlying102, asIntOf, go_sem, two_cells]
theorem two_index1 (a b c d : Int) (w : World) : (Instr.index 102 (.agg #[.int .i64 a, .int .i64 b, .int .i64 c, .int .i64 d]) (.int .i64 1)).run Tryz.prog w = .ok (.agg #[.int .i64 c, .int .i64 d]) w := by
  simp [Instr.index, run_underlying Tryz.underlying102, asIntOf, go_sem, two_cells]
set_option maxRecDepth 100000 in
set_option maxHeartbeats 4000000 in
theorem to_mayLinks {w : World} (sw po li : Value) (pvs : List Sl3) (n : Net') (h : NetO w sw po li pvs n) (hlb : n.links.length ≤ 100000) :
    Calls Tryz.prog 30 #[.agg #[sw, po, li]] w (Back w (.bool (endsMay n [] (flat n.links)))) := by
  have hN := h
  obtain ⟨p1, c1, rfl, -⟩ := h.sw
  obtain ⟨p2, c2, rfl, -⟩ := h.po.row
  obtain ⟨p3, c3, rfl, hcl⟩ := h.li
  obtain ⟨n1, hn1⟩ : ∃ n1, n.names.length = n1 := ⟨_, rfl⟩
  obtain ⟨n2, hn2⟩ : ∃ n2, pvs.length = n2 := ⟨_, rfl⟩
  obtain ⟨n3, hn3⟩ : ∃ n3, n.links.length = n3 := ⟨_, rfl⟩
  have hpo := hN.po
  rw [hn1, hn2, hn3]
  rw [hn2] at hpo
  rw [hn3] at hlb
  obtain ⟨W, hW, hBW, hz, ca, fa⟩ := box1 w #[.slice p1 n1 c1, .slice p2 n2 c2, .slice p3 n3 c3] 27
  have a0 := ca 0 _ rfl ⟨#[], W.drawn⟩
  have a1 := ca 1 _ rfl ⟨#[], W.drawn⟩
  have a2 := ca 2 _ rfl ⟨#[], W.drawn⟩
  rw [plus_self] at a0 a1 a2
  have hT : Hid (∀ (wr : World) (E : End'), Below W.heap.size W wr → Calls Tryz.prog 39 #[.agg #[.slice p1 n1 c1, .slice p2 n2 c2, .slice p3 n3 c3], endV E] wr (Back wr (.bool (thereF n E)))) := Lib.hid fun wr E hB =>
    to_there pvs n E (.slice p2 n2 c2) p1 p3 n1 c1 n3 c3 (hpo.below (hBW.trans (hB.mono hBW.size))) h.b2 hn1
  have hcc : Hid (∀ (wr : World) (k : Nat) (x : End' × End'), Below W.heap.size W wr → n.links[k]? = some x → ∃ g o, p3 = some ⟨g, o, none⟩ ∧ ∀ j u, (linkC x)[j]? = some u → wr.cell? ⟨g, o + k * 4 + j, none⟩ = some u) := Lib.hid fun wr k x hB hx => by
    obtain ⟨g, o, hp, hg, hc⟩ := hcl k x hx
    have hB2 := hBW.trans (hB.mono hBW.size)
    exact ⟨g, o, hp, fun j u hu => (hB2.cell (p := ⟨g, o + k * 4 + j, none⟩) hg).trans (hc j u hu)⟩
  have hBW' := Lib.hid hBW
  have hn3' := Lib.hid hn3
  have hz' := Lib.hid hz
  obtain ⟨R, hR⟩ : ∃ R, endsMay n [] (flat n.links) = R := ⟨_, rfl⟩
  rw [hR]
  have hR' := Lib.hid hR
  have hE0 : Hid (EI W (.slice none 0 0) [] W) := Lib.hid ⟨Below.refl _ _, World.ownsRow_nil _ _ _ _⟩
  have hbx : w.heap.size < W.heap.size := by omega
  clear hN hcl hpo h hn1 hn2 hn3 ca fa hBW hz hR
  go_enter Tryz.func30, Tryz.ntmps30
  go_upto_region 1 with (fail)
  rw [← hW]
  clear hW
  go_wp2
  go_loopw [3, 5, 7, 11] (fun lv _ _ iv wr => ∃ k : Nat, k ≤ n3 ∧ iv = .int .i64 (k : Int) ∧ Hid (EI W lv ((flat n.links).take (2 * k)) wr) ∧ Hid (endsMay n ((flat n.links).take (2 * k)) ((flat n.links).drop (2 * k)) = R)) (fun _ _ _ iv _ => n3 - (intOf iv).toNat)
  case atStart => exact ⟨0, Nat.zero_le _, rfl, hE0, hR'.out⟩
  case round =>
    obtain ⟨k, hk, rfl, hEI, hm⟩ := hrel
    clear hE0 hR'
    by_cases hlt : k < n3
    · obtain ⟨⟨⟨q0, q1⟩, ⟨q2, q3⟩⟩, hq⟩ : ∃ q, n.links[k]? = some q := ⟨n.links[k]'(by rw [hn3'.out]; exact hlt), List.getElem?_eq_getElem _⟩
      obtain ⟨g, o, rfl, hc⟩ := hcc.out wr k _ hEI.out.below hq
      have d0 := hc 0 _ rfl
      have d1 := hc 1 _ rfl
      have d2 := hc 2 _ rfl
      have d3 := hc 3 _ rfl
      simp only [Nat.add_zero] at d0
      have k0 : ¬ ((k : Int) < 0) := by omega
      have k1 : (k : Int) < (n3 : Int) := by omega
      have hfl := Lib.hid (flat_at n.links k _ _ hq)
      clear hc hq
      have hE1 := Lib.hid (hEI.out.alloc (.cells #[.int .i64 q0, .int .i64 q1, .int .i64 q2, .int .i64 q3] 68))
      obtain ⟨V, hV⟩ : ∃ V, wr.alloc (.cells #[.int .i64 q0, .int .i64 q1, .int .i64 q2, .int .i64 q3] 68) = V := ⟨_, rfl⟩
      have l0 : V.cell? ⟨wr.heap.size, 0, none⟩ = some (.int .i64 q0) := by rw [← hV]; exact (cell_new _ _ _ _ 0 rfl).trans rfl
      have l1 : V.cell? ⟨wr.heap.size, 1, none⟩ = some (.int .i64 q1) := by rw [← hV]; exact (cell_new _ _ _ _ 1 rfl).trans rfl
      have l2 : V.cell? ⟨wr.heap.size, 2, none⟩ = some (.int .i64 q2) := by rw [← hV]; exact (cell_new _ _ _ _ 2 rfl).trans rfl
      have l3 : V.cell? ⟨wr.heap.size, 3, none⟩ = some (.int .i64 q3) := by rw [← hV]; exact (cell_new _ _ _ _ 3 rfl).trans rfl
      rw [hV] at hE1
      go_upto_region 5 with (fail)
      try rw [hV]
      clear hV hEI
      go_wp2
      go_loopw [3, 7, 20] (fun lv _ jv wr => ∃ j : Nat, j ≤ 2 ∧ jv = .int .i64 (j : Int) ∧ Hid (EI W lv ((flat n.links).take (2 * k + j)) wr) ∧ Hid (endsMay n ((flat n.links).take (2 * k + j)) ((flat n.links).drop (2 * k + j)) = R)) (fun _ _ jv _ => 2 - (intOf jv).toNat)
      case atStart => exact ⟨0, Nat.zero_le _, rfl, hE1, hm⟩
      case round =>
        obtain ⟨j, hj, rfl, hEj, hmj⟩ := hrel
        clear hE1 hm l0 l1 l2 l3 d0 d1 d2 d3
        by_cases hj2 : j < 2
        · obtain ⟨E0, E1, hE, hcase⟩ : ∃ E0 E1 : Int, (flat n.links)[2 * k + j]? = some ⟨E0, E1⟩ ∧ ((j = 0 ∧ E0 = q0 ∧ E1 = q1) ∨ (j = 1 ∧ E0 = q2 ∧ E1 = q3)) := by
            have hj01 : j = 0 ∨ j = 1 := by omega
            rcases hj01 with rfl | rfl
            · exact ⟨q0, q1, hfl.out.1, Or.inl ⟨rfl, rfl, rfl⟩⟩
            · exact ⟨q2, q3, hfl.out.2, Or.inr ⟨rfl, rfl, rfl⟩⟩
          obtain ⟨e1, e2, e3⟩ := drop_at hE
          have hmj' := hmj.out
          rw [e1, endsMay, ← e2] at hmj'
          obtain ⟨pv, cv, hlv⟩ := own_sl hEj.out.own
          subst hlv
          have hlen : ((flat n.links).take (2 * k + j)).length ≤ 1048576 := by
            rw [List.length_take]
            have := flat_len n.links
            have := hn3'.out
            omega
          obtain ⟨nd, hnd⟩ : ∃ nd, ((flat n.links).take (2 * k + j)).length = nd := ⟨_, rfl⟩
          rw [hnd] at hEj hlen ⊢
          obtain ⟨V2, hV2⟩ : ∃ V, wr.alloc (.cells #[.int .i64 E0, .int .i64 E1] 41) = V := ⟨_, rfl⟩
          have hE2 : EI W (.slice pv nd cv) ((flat n.links).take (2 * k + j)) V2 := by rw [← hV2]; exact hEj.out.alloc _
          have m0 : V2.cell? ⟨wr.heap.size, 0, none⟩ = some (.int .i64 E0) := by rw [← hV2]; exact (cell_new _ _ _ _ 0 rfl).trans rfl
          have m1 : V2.cell? ⟨wr.heap.size, 1, none⟩ = some (.int .i64 E1) := by rw [← hV2]; exact (cell_new _ _ _ _ 1 rfl).trans rfl
          have hwr2 : wr.heap.size < V2.heap.size := by rw [← hV2]; simp
          have b0 := hE2.cell hbx a0
          have b1 := hE2.cell hbx a1
          have b2 := hE2.cell hbx a2
          have mm0 := plus_cell hwr2 m0
          have mm1 := plus_cell hwr2 m1
          have hTh := Lib.hid (hT.out V2 ⟨E0, E1⟩ hE2.below)
          have hCo : Hid (∀ y, Calls Tryz.prog 55 #[.slice pv nd cv, endV ⟨E0, E1⟩] (Go.Proofs.YtkffjjlmoojffaaGreatDoor.plus V2 y) (Back (Go.Proofs.YtkffjjlmoojffaaGreatDoor.plus V2 y) (.bool (decide ((⟨E0, E1⟩ : End') ∈ (flat n.links).take (2 * k + j)))))) := Lib.hid fun y =>
            tp_containsE (w := Go.Proofs.YtkffjjlmoojffaaGreatDoor.plus V2 y) (.slice pv nd cv) _ ⟨E0, E1⟩ (own_lies (hE2.plus y).own endC_len) (by rw [hnd]; exact hlen)
          unfold endV at hTh hCo
          simp only at hTh hCo
          replace hE2 := Lib.hid hE2
          have hnd' := Lib.hid hnd
          have hlen' : Hid (((flat n.links).take (2 * k + j)).length ≤ 1048576) := Lib.hid (by rw [hnd]; exact hlen)
          generalize thereF n ⟨E0, E1⟩ = B1 at hTh hmj'
          generalize hDD : decide ((⟨E0, E1⟩ : End') ∈ (flat n.links).take (2 * k + j)) = B2 at hCo hmj'
          have e2' := Lib.hid e2
          replace hmj' := Lib.hid hmj'
          have hfinB := Lib.hid (fun (y : Ext) => hBW'.out.trans ((hE2.out.plus y).below.mono hBW'.out.size))
          obtain ⟨J, hJ⟩ : ∃ J : Int, (j : Int) = J := ⟨_, rfl⟩
          have hJ2 : J < 2 := by omega
          rw [hJ]
          have hcase2 : (J = 0 ∧ E0 = q0 ∧ E1 = q1) ∨ (J = 1 ∧ E0 = q2 ∧ E1 = q3) := by
            rcases hcase with ⟨h1, h2, h3⟩ | ⟨h1, h2, h3⟩
            · exact Or.inl ⟨by omega, h2, h3⟩
            · exact Or.inr ⟨by omega, h2, h3⟩
          have hJ' := Lib.hid hJ
          clear hcase hE e1 e2 e3 hEj hmj hnd hlen hfl hJ hDD
          have ix0 := two_index0 q0 q1 q2 q3
          have ix1 := two_index1 q0 q1 q2 q3
          rcases hcase2 with ⟨rfl, rfl, rfl⟩ | ⟨rfl, rfl, rfl⟩
          all_goals
            go_upto_region 8 with (fail)
            try rw [hV2]
            clear hV2
            go_wp2_with fail
            refine hTh.out.mono ?_
            rintro e w' ⟨rfl, x, rfl⟩
            cases B1 with
            | false =>
              obtain rfl : R = false := by rw [← hmj'.out]; rfl
              go_wp2
              go_ret
              exact ⟨rfl, plus_of_below (hfinB.out _)⟩
            | true =>
              go_wp2_with fail
              refine (hCo.out _).mono ?_
              rintro e w' ⟨rfl, x2, rfl⟩
              try rw [plus_plus]
              cases B2 with
              | true =>
                obtain rfl : R = false := by rw [← hmj'.out]; rfl
                go_wp2
                go_ret
                exact ⟨rfl, plus_of_below (hfinB.out _)⟩
              | false =>
                have hE3 := Lib.hid (hE2.out.plus (⟨x.blocks ++ x2.blocks, x2.draws⟩ : Ext))
                have n0 := mm0 (⟨x.blocks ++ x2.blocks, x2.draws⟩ : Ext)
                have n1' := mm1 (⟨x.blocks ++ x2.blocks, x2.draws⟩ : Ext)
                generalize Go.Proofs.YtkffjjlmoojffaaGreatDoor.plus V2 (⟨x.blocks ++ x2.blocks, x2.draws⟩ : Ext) = V3 at hE3 n0 n1' ⊢
                clear mm0 mm1 m0 m1 b0 b1 b2 hCo hTh
                have hown : Hid (V3.ownsRow W.heap.size 41 2 (.slice pv nd cv) nd ((((flat n.links).take (2 * k + j)).map endC).flatten)) := Lib.hid (by have := hE3.out.own; unfold Own at this; rwa [hnd'.out] at this)
                go_wp2_with (at_builtin; refine rowApp endC 41 90 2 16 (.agg #[.int .i64 0, .int .i64 0]) Tryz.underlying90 end_info rfl (by decide) (by decide) endC_len endC_one (.slice pv nd cv) nd hnd'.out (hown.out.alloc _) (by have := hE3.out.below.size; simp; omega) hlen'.out ⟨E0, E1⟩ V3.heap.size (fun j u hu => (cell_new V3 _ _ _ j rfl).trans (by simpa [endC] using hu)) rfl _ _ rfl rfl rfl ?_)
                intro v' w1 hown1 hgrow
                have hE4 : Hid (EI W v' ((flat n.links).take (2 * k + j + 1)) w1) := Lib.hid ⟨(hE3.out.below.alloc hE3.out.below.size _).grown hgrow (by have := hE3.out.below.size; simp; omega) (fun j e => (hown.out.lt j e).1), by rw [e2'.out]; exact hown1⟩
                clear hown1 hgrow hown
                go_wp2
                go_roundw
                case rel => exact ⟨j + 1, by have := hJ'.out; omega, congrArg (Value.int .i64) (by have := hJ'.out; omega), hE4, Lib.hid (by have := hmj'.out; rw [show 2 * k + (j + 1) = 2 * k + j + 1 by omega]; simpa using this)⟩
                case measure => have := hJ'.out; simp only [intOf]; omega
        · have hj' : j = 2 := by omega
          subst hj'
          go_wp2
          go_roundw
          case rel => exact ⟨k + 1, hlt, congrArg (Value.int .i64) (by omega), hEj, hmj⟩
          case measure => exact step_lt k n3 hlt
    · obtain rfl : k = n3 := by omega
      obtain rfl : R = true := by rw [← hm.out, List.drop_of_length_le (by rw [flat_len]; have := hn3'.out; omega)]; rfl
      have hEI' := hEI
      clear hEI
      go_wp2
      go_ret
      exact ⟨rfl, plus_of_below (hBW'.out.trans (hEI'.out.below.mono hBW'.out.size))⟩
end Go.Proofs.YtkffjjlmoojffaaGreatDoor
