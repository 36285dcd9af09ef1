/-
  WHAT IS PROVED HERE: a part of the proof of the claim's theorem: NetP; NetQ.
-/
import Derived.Test.YtkffjjlmoojffaaGreatDoorRows
import Derived.Test.YtkffjjlmoojffaaGreatDoorM28
import Derived.Test.YtkffjjlmoojffaaGreatDoorM31
import Derived.Test.YtkffjjlmoojffaaGreatDoorM8
import Derived.Lib.Slices
import Derived.Lib.SlicesS
set_option linter.all false
namespace Go.Proofs.YtkffjjlmoojffaaGreatDoor
open Go.RowKit
theorem idxS_find (names : List ByteArray) (x : ByteArray) : Lib.idxOfS names x = findF names x := by
  by_cases h : ∃ (k : Nat), names[k]? = some x ∧ ∀ (j : Nat), j < k → names[j]? ≠ some x
  · obtain ⟨k, hk, hno⟩ := h
    have hlt := (List.getElem?_eq_some_iff.1 hk).1
    rw [findF_hit hk hno]
    have g : ∀ (j : Nat) (hj : j < names.length), names.getD j ByteArray.empty = names[j] := fun j hj => by simp [List.getD, hj]
    have := Lib.idxFromS_hit x names k 0 hlt (by rw [g k hlt]; exact (List.getElem?_eq_some_iff.1 hk).2) (fun j hj e => hno j hj (by rw [List.getElem?_eq_getElem (by omega)]; rw [g j (by omega)] at e; exact congrArg some e))
    unfold Lib.idxOfS
    rw [this, Nat.zero_add]
  · have hno : ∀ (j : Nat), j < names.length → names[j]? ≠ some x := by
      intro j
      induction j using Nat.strongRecOn with
      | _ j ih =>
        intro hj e
        exact h ⟨j, e, fun i hi => ih i hi (by omega)⟩
    rw [findF_miss hno]
    have g : ∀ (j : Nat) (hj : j < names.length), names.getD j ByteArray.empty = names[j] := fun j hj => by simp [List.getD, hj]
    have := Lib.idxOfS_miss names names.length x (fun j hj e => hno j hj (by rw [List.getElem?_eq_getElem hj]; rw [g j hj] at e; exact congrArg some e))
    rwa [List.take_length] at this
theorem tp_index {w : World} (v : Value) (names : List ByteArray) (x : ByteArray) (h : Lies w 1 strC v names) (hb : names.length ≤ 1048576) :
    Calls Tryz.prog 79 #[v, .string x] w fun e w' => e = .returned (.int .i64 (findF names x)) ∧ w' = w := by
  obtain ⟨p, c, rfl, hc⟩ := h
  by_cases hn : 0 < names.length
  · obtain ⟨g, rfl, hg, _⟩ := hc 0 (names[0]'hn) (List.getElem?_eq_getElem hn)
    have := Tryz.slices_Index_string g 0 names.length c names x w (Nat.le_refl _) (by omega) (fun j hj => by
      obtain ⟨g', hg', _, hcell⟩ := hc j (names[j]'hj) (List.getElem?_eq_getElem hj)
      obtain rfl : g = g' := by simpa using hg'
      have := hcell 0 _ rfl
      simpa [List.getD, hj] using this)
    rw [List.take_length, idxS_find] at this
    exact this
  · obtain rfl : names = [] := List.length_eq_zero_iff.1 (by omega)
    have := Tryz.slices_Index_string_empty p c x w
    rw [idxS_find] at this
    exact this
theorem tp_contains {w : World} (v : Value) (zs : List Int) (x : Int) (h : Lies w 1 intC v zs) (hb : zs.length ≤ 1048576) :
    Calls Tryz.prog 58 #[v, .int .i64 x] w fun e w' => e = .returned (.bool (decide (x ∈ zs))) ∧ w' = w := by
  obtain ⟨p, c, rfl, hc⟩ := h
  by_cases hn : 0 < zs.length
  · obtain ⟨g, rfl, hg, _⟩ := hc 0 (zs[0]'hn) (List.getElem?_eq_getElem hn)
    have := Tryz.slices_Contains_int g 0 zs.length c zs x w (Nat.le_refl _) (by omega) (fun j hj => by
      obtain ⟨g', hg', _, hcell⟩ := hc j (zs[j]'hj) (List.getElem?_eq_getElem hj)
      obtain rfl : g = g' := by simpa using hg'
      have := hcell 0 _ rfl
      simpa [List.getD, hj] using this)
    rw [List.take_length, show zs.contains x = decide (x ∈ zs) by rw [Bool.eq_iff_iff, List.contains_iff_mem, decide_eq_true_eq]] at this
    exact this
  · obtain rfl : zs = [] := List.length_eq_zero_iff.1 (by omega)
    exact Tryz.slices_Contains_int_empty p c x w
set_option maxHeartbeats 1000000 in
theorem tp_find {w : World} (v : Value) (names : List ByteArray) (x : ByteArray) (p2 p3 : Option Addr) (n2 c2 n3 c3 : Nat) (h : Lies w 1 strC v names) (hb : names.length ≤ 1048576) :
    Calls Tryz.prog 65 #[.agg #[v, .slice p2 n2 c2, .slice p3 n3 c3], .string x] w (Back w (.int .i64 (findF names x))) := by
  have hl := h
  obtain ⟨p, c, rfl, hc⟩ := hl
  obtain ⟨n, hn⟩ : ∃ n, names.length = n := ⟨_, rfl⟩
  rw [hn] at h ⊢
  obtain ⟨W, hW, hB, hz, ca, fa⟩ := box1 w #[.slice p n c, .slice p2 n2 c2, .slice p3 n3 c3] 27
  have a0 := ca 0 _ rfl ⟨#[], W.drawn⟩
  rw [plus_self] at a0
  have hI := Lib.hid (tp_index (w := W) (.slice p n c) names x (h.below hB) hb)
  have hB' := Lib.hid hB
  generalize findF names x = R at hI ⊢
  clear hc hn ca fa hB hz h
  go_enter Tryz.func65, Tryz.ntmps65
  go_upto_region 1 with (fail)
  rw [← hW]
  clear hW
  go_wp2_with fail
  refine hI.out.mono ?_
  rintro e w' ⟨rfl, rfl⟩
  go_wp2
  go_ret
  exact ⟨rfl, plus_of_below hB'.out⟩
set_option maxHeartbeats 2000000 in
theorem tp_there {w : World} (pvs : List Sl3) (n : Net') (e : End') (vp : Value) (p1 p3 : Option Addr) (n1 c1 n3 c3 : Nat) (h : PortsAt w vp pvs n.ports) (hb : n.ports.length ≤ 1048576) (hn1 : n.names.length = n1) :
    Calls Tryz.prog 39 #[.agg #[.slice p1 n1 c1, vp, .slice p3 n3 c3], endV e] w (Back w (.bool (thereF n e))) := by
  obtain ⟨p, c, rfl, hc⟩ := h.row
  obtain ⟨np, hnp⟩ : ∃ np, n.ports.length = np := ⟨_, rfl⟩
  have hpn : pvs.length = np := h.len.trans hnp
  rw [hpn]
  obtain ⟨sw, po⟩ := e
  obtain ⟨B, hB⟩ : ∃ B, thereF n ⟨sw, po⟩ = B := ⟨_, rfl⟩
  rw [hB]
  unfold thereF at hB
  simp only at hB
  rw [hnp] at hB hb
  rw [hn1] at hB
  obtain ⟨W, hW, hBW, hz, ca, cb, fa, fb⟩ := box2 w #[.slice p1 n1 c1, .slice p np c, .slice p3 n3 c3] #[.int .i64 sw, .int .i64 po] 27 41
  have a0 := ca 0 _ rfl
  have a1 := ca 1 _ rfl
  have b0 := cb 0 _ rfl
  have b1 := cb 1 _ rfl
  have hBW' := Lib.hid hBW
  unfold endV
  by_cases h0 : 0 ≤ sw
  · obtain ⟨k, rfl⟩ : ∃ k : Nat, sw = (k : Int) := ⟨sw.toNat, by omega⟩
    by_cases h2 : k < n1
    · by_cases h1 : k < np
      · obtain ⟨x, hx⟩ : ∃ x, pvs[k]? = some x := ⟨_, List.getElem?_eq_getElem (by omega)⟩
        obtain ⟨ps, hps⟩ : ∃ ps, n.ports[k]? = some ps := ⟨_, List.getElem?_eq_getElem (by omega)⟩
        obtain ⟨g, rfl, hg, hcell⟩ := hc k x hx
        have hcg := fun y => ((below_plus W y).cell (p := ⟨g, k, none⟩) (by show g < W.heap.size; omega)).trans ((hBW.cell (p := ⟨g, k, none⟩) hg).trans (by simpa using hcell 0 _ rfl))
        obtain ⟨hl, hlb⟩ := h.each k x ps hx hps
        have hH := Lib.hid (fun y => (tp_contains (w := Go.Proofs.YtkffjjlmoojffaaGreatDoor.plus W y) x.v ps po ((hl.below hBW).plus y) hlb).mono (fun _ _ ⟨he, hz⟩ => (⟨he, y, hz⟩ : (_ = Ending.returned (.bool (decide (po ∈ ps)))) ∧ ∃ z, _ = Go.Proofs.YtkffjjlmoojffaaGreatDoor.plus W z)))
        have hB2 : decide (po ∈ ps) = B := by
          rw [← hB]
          have e1 : ((k : Int)).toNat = k := by omega
          rw [e1, hps]
          simp [h1, h2]
        rw [hB2] at hH
        obtain ⟨xp, xn, xc⟩ := x
        unfold Sl3.v at hH
        simp only at hH hcg
        have k0 : ¬ ((k : Int) < 0) := by omega
        have k1 : (k : Int) < (np : Int) := by omega
        have k3 : (k : Int) < (n1 : Int) := by omega
        have k2 : (0 : Int) ≤ (k : Int) := by omega
        clear hB hB2 hl hlb hps hx hcell hc h hpn hnp hn1 hBW ca cb fa fb hz h0
        go_enter Tryz.func39, Tryz.ntmps39
        go_upto_region 1 with (fail)
        rw [← hW]
        clear hW
        refine wp_region_own0 (by kernel_rfl) (by kernel_rfl) ?_
        repeat (go_big_quiet_step (first | (with_reducible exact hH.out _)))
        refine wpQuiet_nil ?_
        rintro _ ⟨y, rfl⟩
        go_wp2
        go_ret
        exact ⟨rfl, plus_of_below (hBW'.out.trans ((below_plus W y).mono hBW'.out.size))⟩
      · obtain rfl : B = false := by rw [← hB]; simp [h1]
        have k3 : (k : Int) < (n1 : Int) := by omega
        have k2 : (0 : Int) ≤ (k : Int) := by omega
        have h1' : decide ((k : Int) < (np : Int)) = false := decide_eq_false (by omega)
        have h1'' : decide (k < np) = false := decide_eq_false h1
        clear hB hc h hpn hnp hn1 hBW ca cb fa fb hz h0
        go_enter Tryz.func39, Tryz.ntmps39
        go_upto_region 1 with (fail)
        rw [← hW]
        clear hW
        refine wp_region_own0 (by kernel_rfl) (by kernel_rfl) ?_
        repeat (go_big_quiet_step (fail))
        refine wpQuiet_nil ?_
        rintro _ ⟨y, rfl⟩
        go_wp2
        go_ret
        exact ⟨rfl, plus_of_below (hBW'.out.trans ((below_plus W y).mono hBW'.out.size))⟩
    · obtain rfl : B = false := by rw [← hB]; simp [h2]
      have k2 : (0 : Int) ≤ (k : Int) := by omega
      have h1' : decide ((k : Int) < (n1 : Int)) = false := decide_eq_false (by omega)
      have h1'' : decide (k < n1) = false := decide_eq_false h2
      clear hB hc h hpn hnp hn1 hBW ca cb fa fb hz h0
      go_enter Tryz.func39, Tryz.ntmps39
      go_upto_region 1 with (fail)
      rw [← hW]
      clear hW
      refine wp_region_own0 (by kernel_rfl) (by kernel_rfl) ?_
      repeat (go_big_quiet_step (fail))
      refine wpQuiet_nil ?_
      rintro _ ⟨y, rfl⟩
      go_wp2
      go_ret
      exact ⟨rfl, plus_of_below (hBW'.out.trans ((below_plus W y).mono hBW'.out.size))⟩
  · obtain rfl : B = false := by rw [← hB]; simp [h0]
    replace h0 : decide (0 ≤ sw) = false := decide_eq_false h0
    clear hB hc h hpn hnp hn1 hBW ca cb fa fb hz
    go_enter Tryz.func39, Tryz.ntmps39
    go_upto_region 1 with (fail)
    rw [← hW]
    clear hW
    refine wp_region_own0 (by kernel_rfl) (by kernel_rfl) ?_
    repeat (go_big_quiet_step (fail))
    refine wpQuiet_nil ?_
    rintro _ ⟨y, rfl⟩
    go_wp2
    go_ret
    exact ⟨rfl, plus_of_below (hBW'.out.trans ((below_plus W y).mono hBW'.out.size))⟩
end Go.Proofs.YtkffjjlmoojffaaGreatDoor
namespace Go.Proofs.YtkffjjlmoojffaaGreatDoor
open Go.RowKit
set_option maxHeartbeats 2000000 in
theorem tp_indexE {w : World} (v : Value) (zs : List End') (x : End') (h : Lies w 2 endC v zs) (hb : zs.length ≤ 1048576) :
    Calls Tryz.prog 80 #[v, endV x] w fun e w' => ∃ R : Int, e = .returned (.int .i64 R) ∧ (∃ y, w' = plus w y) ∧ (0 ≤ R ↔ x ∈ zs) := by
  obtain ⟨p, c, rfl, hc⟩ := h
  obtain ⟨n, hn⟩ : ∃ n, zs.length = n := ⟨_, rfl⟩
  rw [hn] at hb ⊢
  have hn' := Lib.hid hn
  have hc' := Lib.hid hc
  obtain ⟨xs, xp⟩ := x
  unfold endV
  simp only
  obtain ⟨W, hW, hB, hz, ca, fa⟩ := box1 w #[.int .i64 xs, .int .i64 xp] 41
  have a0 := ca 0 _ rfl
  have a1 := ca 1 _ rfl
  have hB' := Lib.hid hB
  clear hc hn ca fa hB hz
  go_enter Tryz.func80, Tryz.ntmps80
  go_upto_region 1 with (fail)
  rw [← hW, ← plus_self W]
  clear hW
  go_wp2
  go_loopw [8] (fun iv wr => ∃ k : Nat, k ≤ n ∧ iv = .int .i64 (k : Int) ∧ (∃ y, wr = Go.Proofs.YtkffjjlmoojffaaGreatDoor.plus W y) ∧ Hid (∀ (j : Nat), j < k → zs[j]? ≠ some ⟨xs, xp⟩)) (fun iv _ => n - (intOf iv).toNat)
  case atStart => exact ⟨0, Nat.zero_le _, rfl, ⟨_, rfl⟩, fun j hj => absurd hj (Nat.not_lt_zero _)⟩
  case round =>
    obtain ⟨k, hk, rfl, ⟨y, rfl⟩, hno⟩ := hrel
    by_cases hlt : k < n
    · obtain ⟨⟨q0, q1⟩, hq⟩ : ∃ q, zs[k]? = some q := ⟨zs[k]'(by rw [hn'.out]; exact hlt), List.getElem?_eq_getElem _⟩
      obtain ⟨g, rfl, hg, hcell⟩ := hc'.out k _ hq
      have cc := fun j u (hu : (endC ⟨q0, q1⟩)[j]? = some u) y => ((below_plus W y).cell (p := ⟨g, k * 2 + j, none⟩) (Nat.lt_of_lt_of_le hg hB'.out.size)).trans ((hB'.out.cell (p := ⟨g, k * 2 + j, none⟩) hg).trans (hcell j u hu))
      have d0 := cc 0 _ rfl
      have d1 := cc 1 _ rfl
      simp only [Nat.add_zero] at d0 d1
      have k0 : ¬ ((k : Int) < 0) := by omega
      have k1 : (k : Int) < (n : Int) := by omega
      obtain ⟨B, hBB⟩ : ∃ B, decide ((⟨xs, xp⟩ : End') = ⟨q0, q1⟩) = B := ⟨_, rfl⟩
      have qe := fun w => eql_end ⟨xs, xp⟩ ⟨q0, q1⟩ w
      rw [hBB] at qe
      simp only at qe
      replace hBB := Lib.hid hBB
      have hq' := Lib.hid hq
      clear hcell hq cc
      cases B with
      | true =>
        go_wp2
        refine wp_region_own (by kernel_rfl) (by kernel_rfl) ?_
        repeat (go_big_quiet_step (fail))
        refine wpQuiet_nil ?_
        rintro _ ⟨y3, rfl⟩
        go_wp2
        go_ret
        refine ⟨(k : Int), rfl, plus_of_below (hB'.out.trans ((below_plus W y3).mono hB'.out.size)), ?_⟩
        have e := of_decide_eq_true hBB.out
        rw [e]
        exact ⟨fun _ => List.mem_of_getElem? hq'.out, fun _ => by omega⟩
      | false =>
        go_wp2
        refine wp_region_own (by kernel_rfl) (by kernel_rfl) ?_
        repeat (go_big_quiet_step (fail))
        refine wpQuiet_nil ?_
        rintro _ ⟨y3, rfl⟩
        go_wp2
        go_roundw
        case rel =>
          refine ⟨k + 1, hlt, congrArg (Value.int .i64) (by omega), ⟨_, rfl⟩, Lib.hid fun j hj => ?_⟩
          by_cases hjk : j = k
          · subst hjk
            rw [hq'.out]
            exact fun e => of_decide_eq_false hBB.out (Option.some.inj e).symm
          · exact hno.out j (by omega)
        case measure => exact step_lt k n hlt
    · obtain rfl : k = n := by omega
      go_wp2
      go_ret
      refine ⟨-1, rfl, plus_of_below (hB'.out.trans ((below_plus W y).mono hB'.out.size)), ?_⟩
      refine ⟨fun h => absurd h (by decide), fun hm => ?_⟩
      obtain ⟨j, hj⟩ := List.mem_iff_getElem?.1 hm
      exact absurd hj (hno.out j (by have := (List.getElem?_eq_some_iff.1 hj).1; have := hn'.out; omega))
set_option maxHeartbeats 1000000 in
theorem tp_containsE {w : World} (v : Value) (zs : List End') (x : End') (h : Lies w 2 endC v zs) (hb : zs.length ≤ 1048576) :
    Calls Tryz.prog 55 #[v, endV x] w (Back w (.bool (decide (x ∈ zs)))) := by
  obtain ⟨W, hW, hB, hz, ca, fa⟩ := box1 w #[.int .i64 x.sw, .int .i64 x.po] 41
  have hI0 := tp_indexE (w := W) v zs x (h.below hB) hb
  obtain ⟨p, c, rfl, -⟩ := h
  unfold endV at hI0 ⊢
  have a0 := ca 0 _ rfl ⟨#[], W.drawn⟩
  have a1 := ca 1 _ rfl ⟨#[], W.drawn⟩
  rw [plus_self] at a0 a1
  have hI := Lib.hid hI0
  have hB' := Lib.hid hB
  obtain ⟨B, hBB⟩ : ∃ B, decide (x ∈ zs) = B := ⟨_, rfl⟩
  rw [hBB]
  replace hBB := Lib.hid hBB
  clear ca fa hB hz hI0
  go_enter Tryz.func55, Tryz.ntmps55
  go_upto_region 1 with (fail)
  rw [← hW]
  clear hW
  go_wp2_with fail
  refine hI.out.mono ?_
  rintro e w' ⟨R, rfl, ⟨y, rfl⟩, hR⟩
  have q : Hid (decide (0 ≤ R) = B) := by show _ = _; rw [← hBB.out, Bool.eq_iff_iff, decide_eq_true_eq, decide_eq_true_eq]; exact hR
  clear hR
  go_wp2
  go_ret
  exact ⟨by rw [← q.out]; rfl, plus_of_below (hB'.out.trans ((below_plus W y).mono hB'.out.size))⟩
structure Rp (w : World) (rb cb : Nat) (sw po li lk : Value) : Prop where
  lt : rb < w.heap.size
  c0 : w.cell? ⟨rb, 0, none⟩ = some (.pointer (some ⟨cb, 0, none⟩))
  c1 : w.cell? ⟨rb, 1, none⟩ = some sw
  c2 : w.cell? ⟨rb, 2, none⟩ = some po
  c3 : w.cell? ⟨rb, 3, none⟩ = some li
  c4 : w.cell? ⟨rb, 4, none⟩ = some lk
  fz : ∀ o, w.frozen? ⟨rb, o, none⟩ = false
section
variable {w w' : World} {rb cb : Nat} {sw po li lk : Value} {s : ByteArray} {g cap : Nat} {l : List Tok} {k : Nat}
theorem Rp.block (h : Rp w rb cb sw po li lk) (hs : w.heap.size ≤ w'.heap.size) (hb : w'.heap[rb]? = w.heap[rb]?) : Rp w' rb cb sw po li lk :=
  have c := fun i v (e : w.cell? ⟨rb, i, none⟩ = v) => (World.cell?_of_block (w := w) (a := ⟨rb, i, none⟩) hb).trans e
  ⟨Nat.lt_of_lt_of_le h.lt hs, c _ _ h.c0, c _ _ h.c1, c _ _ h.c2, c _ _ h.c3, c _ _ h.c4, fun o => (World.frozen?_of_block (w := w) (a := ⟨rb, o, none⟩) hb).trans (h.fz o)⟩
theorem Rp.grown (h : Rp w rb cb sw po li lk) {r : Option Nat} (hg : w.grownBy w' r) (hr : some rb ≠ r) : Rp w' rb cb sw po li lk := h.block hg.size (hg.block rb h.lt hr)
theorem Rp.below (h : Rp w rb cb sw po li lk) (hB : Below w.heap.size w w') : Rp w' rb cb sw po li lk := h.block hB.size (hB.block rb h.lt)
set_option maxHeartbeats 1000000 in
theorem tp_port (hR : w.cell? ⟨rb, 0, none⟩ = some (.pointer (some ⟨cb, 0, none⟩))) (hlt : rb < w.heap.size) (h : Cu w cb s g cap l k) (t : Tok) (hs : s.size ≤ 140737488355328) (ha : t.at_ ≤ s.size) (hN : t.n < 340282366920938463463374607431768211456) :
    Calls Tryz.prog 89 #[.pointer (some ⟨rb, 0, none⟩), tokA t] w (CuEnds w cb s g cap l (bareM t k 1 511 5) fun n => .int .i64 (n : Int)) := by
  obtain ⟨K, hK⟩ : ∃ K, (t.kind : Int) = K := ⟨_, rfl⟩
  have hTA : Hid (tokA t = .agg #[.int .u8 K, .string t.s, .int .i64 t.w, .int .u64 (hi t.n), .int .u64 (lo t.n), .int .i64 (t.at_ : Int)]) := by show _ = _; rw [← hK]
  obtain ⟨W, hW, hB, hz, ca, fa⟩ := box1 w #[.int .u8 K, .string t.s, .int .i64 t.w, .int .u64 (hi t.n), .int .u64 (lo t.n), .int .i64 (t.at_ : Int)] 60
  have hX : Cu W cb s g cap l k := h.below hB
  have r0 := fun y => ((below_plus W y).cell (p := ⟨rb, 0, none⟩) (by show rb < _; omega)).trans ((hB.cell (p := ⟨rb, 0, none⟩) hlt).trans hR)
  have a0 := ca 0 _ rfl
  have a1 := ca 1 _ rfl
  have a2 := ca 2 _ rfl
  have a3 := ca 3 _ rfl
  have a4 := ca 4 _ rfl
  have a5 := ca 5 _ rfl
  have hBa := fun y => cur_bare_any (hX.plus y) t 1 511 5 (by decide) hs ha hN (by decide) (by decide)
  rw [hTA.out] at hBa ⊢
  replace hBa := Lib.hid hBa
  have hg := Lib.hid (grown_of_below hB (some cb))
  obtain ⟨R, hRR⟩ : ∃ R, bareM t k 1 511 5 = R := ⟨_, rfl⟩
  rw [hRR] at hBa ⊢
  clear ca fa hB hz hX h hR hK hRR
  go_enter Tryz.func89, Tryz.ntmps89
  go_upto_region 1 with (fail)
  rw [← hW]
  clear hW
  refine wp_region_own_tail0 5 (by kernel_rfl) (by kernel_rfl) ?_
  simp only [List.take_succ_cons, List.take_zero, List.drop_succ_cons, List.drop_zero]
  repeat (go_big_quiet_step (fail))
  refine wpQuiet_nil ?_
  rintro _ ⟨y, rfl⟩
  go_wp2_with fail
  refine (hBa.out y).mono ?_
  intro e w' hE
  cases R with
  | ok a k' =>
    obtain ⟨rfl, hg2, hX2⟩ := hE
    have hE2 := Lib.hid (And.intro hg2 hX2)
    clear hg2 hX2
    go_wp2
    go_ret
    exact ⟨rfl, grown_trans (grown_trans hg.out (grown_plus_any _ _ _)) hE2.out.1, hE2.out.2⟩
  | bad p E =>
    obtain ⟨rfl, hg2⟩ := hE
    have hE2 := Lib.hid hg2
    clear hg2
    go_wp2
    exact ⟨rfl, rfl, grown_trans (grown_trans hg.out (grown_plus_any _ _ _)) hE2.out⟩
end
end Go.Proofs.YtkffjjlmoojffaaGreatDoor
