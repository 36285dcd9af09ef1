/-
  WHAT IS PROVED HERE: a part of the proof of the claim's theorem: NetRd.
-/
import Derived.Test.YtkffjjlmoojffaaGreatDoorRows
import Derived.Test.YtkffjjlmoojffaaGreatDoorB40
import Derived.Test.YtkffjjlmoojffaaGreatDoorB41
set_option linter.all false
namespace Go.Proofs.YtkffjjlmoojffaaGreatDoor
open Go.RowKit
theorem NI.lower {base base' : Nat} {W : World} {sw po li : Value} {pvs : List Sl3} {n : Net'} (h : NI base W sw po li pvs n) (hb : base' ≤ base) : NI base' W sw po li pvs n :=
  ⟨own_base h.sw hb, own_base h.po hb, own_base h.li hb, h.len, fun i x ps hx hp => ⟨own_base (h.each i x ps hx hp).1 hb, (h.each i x ps hx hp).2⟩⟩
def TRead (w : World) (s : ByteArray) (r : Rs Net') (e : Ending) (w' : World) : Prop := Below w.heap.size w w' ∧ match r with
  | .ok n _ => ∃ sw po li pvs, e = .returned (.tuple #[.agg #[sw, po, li], fv 0 0 0]) ∧ NI w.heap.size w' sw po li pvs n
  | .bad p E => e = .returned (.tuple #[.agg #[.slice none 0 0, .slice none 0 0, .slice none 0 0], fv E (lineOf s p : Nat) (colOf s p : Nat)])
noncomputable def readM (s : ByteArray) : Rs Net' := if (lexR s).2.2 = 0 then allM (lexR s).1 else .bad (lexR s).2.1 (lexR s).2.2
theorem six_cells {X : World} {n : Nat} {a0 a1 a2 b0 b1 b2 v0 v1 v2 u0 u1 u2 : Value} (h0 : X.cell? ⟨n, 0, none⟩ = some v0) (h1 : X.cell? ⟨n, 1, none⟩ = some v1) (h2 : X.cell? ⟨n, 2, none⟩ = some v2) (h3 : X.cell? ⟨n + 1, 0, none⟩ = some u0) (h4 : X.cell? ⟨n + 1, 1, none⟩ = some u1) (h5 : X.cell? ⟨n + 1, 2, none⟩ = some u2) : ((((((X.setCell ⟨n, 0, none⟩ a0).setCell ⟨n, 1, none⟩ a1).setCell ⟨n, 2, none⟩ a2).setCell ⟨n + 1, 0, none⟩ b0).setCell ⟨n + 1, 1, none⟩ b1).setCell ⟨n + 1, 2, none⟩ b2).cell? ⟨n, 0, none⟩ = some a0 ∧ ((((((X.setCell ⟨n, 0, none⟩ a0).setCell ⟨n, 1, none⟩ a1).setCell ⟨n, 2, none⟩ a2).setCell ⟨n + 1, 0, none⟩ b0).setCell ⟨n + 1, 1, none⟩ b1).setCell ⟨n + 1, 2, none⟩ b2).cell? ⟨n, 1, none⟩ = some a1 ∧ ((((((X.setCell ⟨n, 0, none⟩ a0).setCell ⟨n, 1, none⟩ a1).setCell ⟨n, 2, none⟩ a2).setCell ⟨n + 1, 0, none⟩ b0).setCell ⟨n + 1, 1, none⟩ b1).setCell ⟨n + 1, 2, none⟩ b2).cell? ⟨n, 2, none⟩ = some a2 ∧ ((((((X.setCell ⟨n, 0, none⟩ a0).setCell ⟨n, 1, none⟩ a1).setCell ⟨n, 2, none⟩ a2).setCell ⟨n + 1, 0, none⟩ b0).setCell ⟨n + 1, 1, none⟩ b1).setCell ⟨n + 1, 2, none⟩ b2).cell? ⟨n + 1, 0, none⟩ = some b0 ∧ ((((((X.setCell ⟨n, 0, none⟩ a0).setCell ⟨n, 1, none⟩ a1).setCell ⟨n, 2, none⟩ a2).setCell ⟨n + 1, 0, none⟩ b0).setCell ⟨n + 1, 1, none⟩ b1).setCell ⟨n + 1, 2, none⟩ b2).cell? ⟨n + 1, 1, none⟩ = some b1 ∧ ((((((X.setCell ⟨n, 0, none⟩ a0).setCell ⟨n, 1, none⟩ a1).setCell ⟨n, 2, none⟩ a2).setCell ⟨n + 1, 0, none⟩ b0).setCell ⟨n + 1, 1, none⟩ b1).setCell ⟨n + 1, 2, none⟩ b2).cell? ⟨n + 1, 2, none⟩ = some b2 := by
  refine ⟨?_, ?_, ?_, ?_, ?_, ?_⟩
  · rw [World.cell?_setCell_other _ _ _ _ (by simp), World.cell?_setCell_other _ _ _ _ (by simp), World.cell?_setCell_other _ _ _ _ (by simp), World.cell?_setCell_other _ _ _ _ (by simp), World.cell?_setCell_other _ _ _ _ (by simp)]
    exact World.cell?_setCell_same _ _ _ (u := v0) (by exact h0)
  · rw [World.cell?_setCell_other _ _ _ _ (by simp), World.cell?_setCell_other _ _ _ _ (by simp), World.cell?_setCell_other _ _ _ _ (by simp), World.cell?_setCell_other _ _ _ _ (by simp)]
    exact World.cell?_setCell_same _ _ _ (u := v1) (by rw [World.cell?_setCell_other _ _ _ _ (by simp)]; exact h1)
  · rw [World.cell?_setCell_other _ _ _ _ (by simp), World.cell?_setCell_other _ _ _ _ (by simp), World.cell?_setCell_other _ _ _ _ (by simp)]
    exact World.cell?_setCell_same _ _ _ (u := v2) (by rw [World.cell?_setCell_other _ _ _ _ (by simp), World.cell?_setCell_other _ _ _ _ (by simp)]; exact h2)
  · rw [World.cell?_setCell_other _ _ _ _ (by simp), World.cell?_setCell_other _ _ _ _ (by simp)]
    exact World.cell?_setCell_same _ _ _ (u := u0) (by rw [World.cell?_setCell_other _ _ _ _ (by simp), World.cell?_setCell_other _ _ _ _ (by simp), World.cell?_setCell_other _ _ _ _ (by simp)]; exact h3)
  · rw [World.cell?_setCell_other _ _ _ _ (by simp)]
    exact World.cell?_setCell_same _ _ _ (u := u1) (by rw [World.cell?_setCell_other _ _ _ _ (by simp), World.cell?_setCell_other _ _ _ _ (by simp), World.cell?_setCell_other _ _ _ _ (by simp), World.cell?_setCell_other _ _ _ _ (by simp)]; exact h4)
  · exact World.cell?_setCell_same _ _ _ (u := u2) (by rw [World.cell?_setCell_other _ _ _ _ (by simp), World.cell?_setCell_other _ _ _ _ (by simp), World.cell?_setCell_other _ _ _ _ (by simp), World.cell?_setCell_other _ _ _ _ (by simp), World.cell?_setCell_other _ _ _ _ (by simp)]; exact h5)
set_option maxHeartbeats 8000000 in
theorem tp_readW (s : ByteArray) (hs : s.size ≤ 65536) (w : World) (hS : Std w) : Calls Tryz.prog 6 #[.string s] w (TRead w s (readM s)) := by
  have hmf : ∀ (fn : Fn) (first cap : Array Value) (w : World), (Instr.makeFunc fn first cap).run Tryz.prog w = .ok (.func fn first cap) w := fun _ _ _ _ => rfl
  obtain ⟨W0, hW0, hB0, hz0, ca, cb_, fa, fb⟩ := box2 w #[.slice none 0 0, .slice none 0 0, .slice none 0 0] #[.int .i64 0, .int .i64 0, .int .i64 0] 27 32
  have hN := Lib.hid (tp_newReader s (by omega) W0 (hS.below hB0))
  have hs' := Lib.hid hs
  obtain ⟨RT, hRT⟩ : ∃ R, readM s = R := ⟨_, rfl⟩
  rw [hRT]
  replace hRT := Lib.hid hRT
  clear hS hs
  go_enter_defers Tryz.func6, Tryz.ntmps6
  go_wp2_with fail
  rw [← hW0]
  clear hW0
  refine hN.out.mono ?_
  rintro e W1 ⟨hB1, hok, hno⟩
  have kp : ∀ (W : World), (∀ m, m < w.heap.size + 2 → W.heap[m]? = W0.heap[m]?) → (W.cell? ⟨w.heap.size, 0, none⟩ = some (.slice none 0 0) ∧ W.cell? ⟨w.heap.size, 1, none⟩ = some (.slice none 0 0) ∧ W.cell? ⟨w.heap.size, 2, none⟩ = some (.slice none 0 0)) ∧ (W.cell? ⟨w.heap.size + 1, 0, none⟩ = some (.int .i64 0) ∧ W.cell? ⟨w.heap.size + 1, 1, none⟩ = some (.int .i64 0) ∧ W.cell? ⟨w.heap.size + 1, 2, none⟩ = some (.int .i64 0)) ∧ (∀ o, W.frozen? ⟨w.heap.size, o, none⟩ = false) ∧ ∀ o, W.frozen? ⟨w.heap.size + 1, o, none⟩ = false := fun W h => by
    have c : ∀ m i v, m < w.heap.size + 2 → (∀ y, (Go.Proofs.YtkffjjlmoojffaaGreatDoor.plus W0 y).cell? ⟨m, i, none⟩ = some v) → W.cell? ⟨m, i, none⟩ = some v := fun m i v hm hv => by
      have := hv ⟨#[], W0.drawn⟩
      rw [plus_self] at this
      exact (World.cell?_of_block (a := ⟨m, i, none⟩) (h m hm)).trans this
    have f : ∀ m o, m < w.heap.size + 2 → (∀ y o, (Go.Proofs.YtkffjjlmoojffaaGreatDoor.plus W0 y).frozen? ⟨m, o, none⟩ = false) → W.frozen? ⟨m, o, none⟩ = false := fun m o hm hv => by
      have := hv ⟨#[], W0.drawn⟩ o
      rw [plus_self] at this
      exact (World.frozen?_of_block (a := ⟨m, o, none⟩) (h m hm)).trans this
    exact ⟨⟨c _ _ _ (by omega) (ca 0 _ rfl), c _ _ _ (by omega) (ca 1 _ rfl), c _ _ _ (by omega) (ca 2 _ rfl)⟩, ⟨c _ _ _ (by omega) (cb_ 0 _ rfl), c _ _ _ (by omega) (cb_ 1 _ rfl), c _ _ _ (by omega) (cb_ 2 _ rfl)⟩, fun o => f _ o (by omega) fa, fun o => f _ o (by omega) fb⟩
  have hBW1 : Below w.heap.size w W1 := hB0.trans (hB1.mono (by omega))
  have k1 := kp W1 (fun m hm => hB1.block m (by omega))
  have hs1 := hB1.size
  by_cases h0 : (lexR s).2.2 = 0
  · obtain ⟨rb, cb, g, cap, rfl, h1, h2, h3, hX, hR⟩ := hok h0
    have hl := lexR_tl s h0
    have hL : (lexR s).1.length ≤ 100000 := by have := lexR_len s; have := hs'.out; omega
    have hA := tp_all hl (by have := hs'.out; omega) hL hX hR h2 h3
    have hRT2 := hRT.out
    unfold readM at hRT2
    rw [if_pos h0] at hRT2
    obtain ⟨RA, hRA⟩ : ∃ R, allM (lexR s).1 = R := ⟨_, rfl⟩
    rw [hRA] at hA hRT2
    subst hRT2
    replace hA := Lib.hid hA
    have hcb : Hid (w.heap.size + 2 ≤ cb ∧ cb < rb) := Lib.hid ⟨by omega, h3⟩
    have kp2 := Lib.hid (fun (W2 : World) (hB2 : Below cb W1 W2) => kp W2 (fun m hm => (hB2.block m (by omega)).trans (hB1.block m (by omega))))
    have hBW1' := Lib.hid hBW1
    have hs1' := Lib.hid hs1
    have hz0' := Lib.hid hz0
    clear hl hL hX hR h1 h2 h3 hok hno h0 kp k1 hBW1 hB1 hB0 hs1 hz0 ca cb_ fa fb hN hRA
    go_wp2_with fail
    refine hA.out.mono ?_
    intro e W2 hE
    clear hA
    cases RA with
    | bad q E =>
      obtain ⟨rfl, hB2⟩ := hE
      obtain ⟨⟨r0, r1, r2⟩, ⟨q0, q1, q2⟩, -, fq⟩ := kp2.out W2 hB2
      have hlt : w.heap.size + 1 < W2.heap.size := by have := hB2.size; have := hs1'.out; have := hz0'.out; omega
      have hBW := Lib.hid (hBW1'.out.trans (hB2.mono (by have := hcb.out.1; omega)))
      clear hB2 kp2 hBW1' hs1' hz0' hcb
      go_wp2
      refine leaves_cons (f := 14) (args := #[.pointer (some ⟨w.heap.size + 1, 0, none⟩)]) (by simp) (by simp [go_sem]) ?_
      refine (tcatch_fault (w.heap.size + 1) _ _ _ [] W2 _ _ _ hlt q0 q1 q2 fq).mono ?_
      rintro e u' w'' ⟨rfl, rfl, hB, -, p0, p1, p2⟩
      have m0 := (hB.cell (p := ⟨w.heap.size, 0, none⟩) (Nat.lt_succ_self _)).trans r0
      have m1 := (hB.cell (p := ⟨w.heap.size, 1, none⟩) (Nat.lt_succ_self _)).trans r1
      have m2 := (hB.cell (p := ⟨w.heap.size, 2, none⟩) (Nat.lt_succ_self _)).trans r2
      have hfin : Hid (TRead w s (.bad q E) (.returned (.tuple #[.agg #[.slice none 0 0, .slice none 0 0, .slice none 0 0], fv E (lineOf s q : Nat) (colOf s q : Nat)])) w'') := Lib.hid ⟨hBW.out.trans (hB.mono (Nat.le_succ _)), rfl⟩
      simp [Leaves, settle, results, Tryz.results6, go_sem, p0, p1, p2, m0, m1, m2]
      exact hfin.out
    | ok n k =>
      obtain ⟨⟨sw, po, li, pvs, rfl, hNI⟩, hB2⟩ := hE
      obtain ⟨⟨r0, r1, r2⟩, ⟨q0, q1, q2⟩, fr, fq⟩ := kp2.out W2 hB2
      have hlt : w.heap.size + 1 < W2.heap.size := by have := hB2.size; have := hs1'.out; have := hz0'.out; omega
      obtain ⟨p1, c1, rfl⟩ := own_sl3 hNI.sw
      obtain ⟨p2, c2, rfl⟩ := own_sl3 hNI.po
      obtain ⟨p3, c3, rfl⟩ := own_sl3 hNI.li
      generalize n.names.length = m1 at hNI ⊢
      generalize pvs.length = m2 at hNI ⊢
      generalize n.links.length = m3 at hNI ⊢
      have hBW := hBW1'.out.trans (hB2.mono (by have := hcb.out.1; omega))
      have hg : W2.grownBy W2 (some w.heap.size) := grown_refl _ _
      have n1 : w.heap.size < rb + 1 := by have := hcb.out; omega
      have n2 : w.heap.size + 1 < rb + 1 := by have := hcb.out; omega
      have hNY := (((((hNI.up n1 (grown_put W2 w.heap.size 0 (.slice p1 m1 c1))).up n1 (grown_put _ w.heap.size 1 (.slice p2 m2 c2))).up n1 (grown_put _ w.heap.size 2 (.slice p3 m3 c3))).up n2 (grown_put _ (w.heap.size + 1) 0 (.int .i64 0))).up n2 (grown_put _ (w.heap.size + 1) 1 (.int .i64 0))).up n2 (grown_put _ (w.heap.size + 1) 2 (.int .i64 0))
      have hBY := (((((hBW.setCell (p := ⟨w.heap.size, 0, none⟩) (Nat.le_refl _) (.slice p1 m1 c1)).setCell (p := ⟨w.heap.size, 1, none⟩) (Nat.le_refl _) (.slice p2 m2 c2)).setCell (p := ⟨w.heap.size, 2, none⟩) (Nat.le_refl _) (.slice p3 m3 c3)).setCell (p := ⟨w.heap.size + 1, 0, none⟩) (Nat.le_succ _) (.int .i64 0)).setCell (p := ⟨w.heap.size + 1, 1, none⟩) (Nat.le_succ _) (.int .i64 0)).setCell (p := ⟨w.heap.size + 1, 2, none⟩) (Nat.le_succ _) (.int .i64 0)
      obtain ⟨z0, z1, z2, z3, z4, z5⟩ := six_cells (a0 := .slice p1 m1 c1) (a1 := .slice p2 m2 c2) (a2 := .slice p3 m3 c3) (b0 := .int .i64 0) (b1 := .int .i64 0) (b2 := .int .i64 0) r0 r1 r2 q0 q1 q2
      have hsY : w.heap.size + 1 < (((((((W2.setCell ⟨w.heap.size, 0, none⟩ (.slice p1 m1 c1)).setCell ⟨w.heap.size, 1, none⟩ (.slice p2 m2 c2)).setCell ⟨w.heap.size, 2, none⟩ (.slice p3 m3 c3)).setCell ⟨w.heap.size + 1, 0, none⟩ (.int .i64 0)).setCell ⟨w.heap.size + 1, 1, none⟩ (.int .i64 0)).setCell ⟨w.heap.size + 1, 2, none⟩ (.int .i64 0))).heap.size := by simpa using hlt
      replace hNY := Lib.hid hNY
      replace hBY := Lib.hid hBY
      clear hNI hB2 kp2 hBW1' hs1' hz0' hBW hg
      go_wp2
      generalize ((((((W2.setCell ⟨w.heap.size, 0, none⟩ (.slice p1 m1 c1)).setCell ⟨w.heap.size, 1, none⟩ (.slice p2 m2 c2)).setCell ⟨w.heap.size, 2, none⟩ (.slice p3 m3 c3)).setCell ⟨w.heap.size + 1, 0, none⟩ (.int .i64 0)).setCell ⟨w.heap.size + 1, 1, none⟩ (.int .i64 0)).setCell ⟨w.heap.size + 1, 2, none⟩ (.int .i64 0)) = Y at z0 z1 z2 z3 z4 z5 hNY hBY hsY ⊢
      clear r0 r1 r2 q0 q1 q2 fr fq hlt
      refine leaves_cons (f := 14) (args := #[.pointer (some ⟨w.heap.size + 1, 0, none⟩)]) (by simp) (by simp [go_sem]) ?_
      refine (tcatch_none (w.heap.size + 1) Y).mono ?_
      rintro e u' w'' ⟨rfl, rfl, x, rfl⟩
      have y0 := plus_cell (by omega) z0 x
      have y1 := plus_cell (by omega) z1 x
      have y2 := plus_cell (by omega) z2 x
      have y3 := plus_cell (by omega) z3 x
      have y4 := plus_cell (by omega) z4 x
      have y5 := plus_cell (by omega) z5 x
      have hfin : Hid (TRead w s (.ok n k) (.returned (.tuple #[.agg #[.slice p1 m1 c1, .slice p2 m2 c2, .slice p3 m3 c3], fv 0 0 0])) (Go.Proofs.YtkffjjlmoojffaaGreatDoor.plus Y x)) := Lib.hid ⟨hBY.out.trans ((below_plus Y x).mono hBY.out.size), _, _, _, _, rfl, (hNY.out.up n1 (grown_plus_any _ _ _)).lower (by omega)⟩
      simp [Leaves, settle, results, Tryz.results6, go_sem, y0, y1, y2, y3, y4, y5]
      exact hfin.out
  · have he := hno h0
    subst he
    obtain rfl : RT = .bad (lexR s).2.1 (lexR s).2.2 := hRT.out.symm.trans (if_neg h0)
    obtain ⟨⟨r0, r1, r2⟩, ⟨q0, q1, q2⟩, -, fq⟩ := k1
    have hlt : w.heap.size + 1 < W1.heap.size := by omega
    have hBW := Lib.hid hBW1
    clear kp hok hno h0 hBW1 hB1 hB0 hs1 hz0 ca cb_ fa fb hN
    go_wp2
    refine leaves_cons (f := 14) (args := #[.pointer (some ⟨w.heap.size + 1, 0, none⟩)]) (by simp) (by simp [go_sem]) ?_
    refine (tcatch_fault (w.heap.size + 1) _ _ _ [] W1 _ _ _ hlt q0 q1 q2 fq).mono ?_
    rintro e u' w'' ⟨rfl, rfl, hB, -, p0, p1, p2⟩
    have m0 := (hB.cell (p := ⟨w.heap.size, 0, none⟩) (Nat.lt_succ_self _)).trans r0
    have m1 := (hB.cell (p := ⟨w.heap.size, 1, none⟩) (Nat.lt_succ_self _)).trans r1
    have m2 := (hB.cell (p := ⟨w.heap.size, 2, none⟩) (Nat.lt_succ_self _)).trans r2
    have hfin : Hid (TRead w s (.bad (lexR s).2.1 (lexR s).2.2) (.returned (.tuple #[.agg #[.slice none 0 0, .slice none 0 0, .slice none 0 0], fv (lexR s).2.2 (lineOf s (lexR s).2.1 : Nat) (colOf s (lexR s).2.1 : Nat)])) w'') := Lib.hid ⟨hBW.out.trans (hB.mono (Nat.le_succ _)), rfl⟩
    simp [Leaves, settle, results, Tryz.results6, go_sem, p0, p1, p2, m0, m1, m2]
    exact hfin.out
theorem tp_read (s : ByteArray) (hs : s.size ≤ 2000) (w : World) (hS : Std w) : Calls Tryz.prog 6 #[.string s] w (TRead w s (readM s)) := tp_readW s (by omega) w hS
end Go.Proofs.YtkffjjlmoojffaaGreatDoor
