/-
  WHAT IS PROVED HERE: a part of the proof of the claim's theorem: NetM; NetN; NetQ.
-/
import Derived.Test.YtkffjjlmoojffaaGreatDoorRows
import Derived.Test.YtkffjjlmoojffaaGreatDoorB20
import Derived.Deep.RegionLaw
import Derived.Deep.AppendLies
import Derived.BigRegion
import Derived.Test.YtkffjjlmoojffaaGreatDoorB22
set_option linter.all false
namespace Go.Proofs.YtkffjjlmoojffaaGreatDoor
open Go.RowKit
theorem Rd.app {w w' : World} {b g cap : Nat} {l : List Tok} {sw po li : Value} {d : DS} (h : Rd w b g cap l sw po li d) (hgb : g < b) {v : Value} (hg : w.grownBy w' v.ownBlock) (hv : ∀ k, v.ownBlock = some k → b + 1 ≤ k) : Rd w' b g cap l sw po li d :=
  h.keep hg.size (hg.block b h.lt (fun e => by have := hv b e.symm; omega)) (hg.block g h.glt (fun e => by have := hv g e.symm; omega))
structure RI (b g cap : Nat) (l : List Tok) (W5 : World) (sw po li : Value) (pvs : List Sl3) (n : Net') (d : DS) (W : World) : Prop where
  below : Below b W5 W
  size : b + 1 ≤ W.heap.size
  gb : g < b
  rd : Rd W b g cap l sw po li d
  ni : NI (b + 1) W sw po li pvs n
section
variable {b g cap : Nat} {l : List Tok} {W5 W W' : World} {sw po li sw' po' li' : Value} {pvs : List Sl3} {n : Net'} {d d' : DS}
theorem RI.step (h : RI b g cap l W5 sw po li pvs n d W) (hg : W.grownBy W' (some b)) (hX : Rd W' b g cap l sw po li d') : RI b g cap l W5 sw po li pvs n d' W' :=
  ⟨h.below.grown hg (by have := h.size; omega) (fun k e => by have := Option.some.inj e; omega), Nat.le_trans h.size hg.size, h.gb, hX, h.ni.up (Nat.lt_succ_self b) hg⟩
theorem RI.plus (h : RI b g cap l W5 sw po li pvs n d W) (x : Ext) : RI b g cap l W5 sw po li pvs n d (Go.Proofs.YtkffjjlmoojffaaGreatDoor.plus W x) := h.step (grown_plus_any _ _ _) (h.rd.plus x)
theorem RI.alloc (h : RI b g cap l W5 sw po li pvs n d W) (o : Obj) : RI b g cap l W5 sw po li pvs n d (W.alloc o) := h.step (grown_alloc _ _ _) (h.rd.alloc o)
theorem rd_drewR (h : Rd W b g cap l sw po li d) : Rd W.drew b g cap l sw po li d := h.keep (Nat.le_refl _) rfl rfl
theorem grown_drew (W : World) (r : Option Nat) : W.grownBy W.drew r := ⟨rfl, rfl, rfl, Nat.le_refl _, fun _ _ _ => rfl⟩
theorem RI.drew (h : RI b g cap l W5 sw po li pvs n d W) : RI b g cap l W5 sw po li pvs n d W.drew := h.step (grown_drew _ _) (rd_drewR h.rd)
theorem RI.row (h : RI b g cap l W5 sw po li pvs n d W) {v : Value} {n' : Net'} {pvs' : List Sl3} (hg : W.grownBy W' v.ownBlock) (hv : ∀ k, v.ownBlock = some k → b + 1 ≤ k) (hni : NI (b + 1) W' sw' po' li' pvs' n') (i : Nat) (u : Value)
    (e : [.slice (some ⟨g, 0, none⟩) l.length cap, .int .i64 (d.k : Int), sw', po', li', .bool d.bad, .int .i64 d.e, .int .i64 (d.p : Int)] = [.slice (some ⟨g, 0, none⟩) l.length cap, .int .i64 (d.k : Int), sw, po, li, .bool d.bad, .int .i64 d.e, .int .i64 (d.p : Int)].set i u) : RI b g cap l W5 sw' po' li' pvs' n' d (W'.setCell ⟨b, i, none⟩ u) := by
  have hR := h.rd.app h.gb hg hv
  have hB := h.below.grown hg (by have := h.size; omega) (fun k e => by have := hv k e; omega)
  refine ⟨hB.setCell (p := ⟨b, i, none⟩) (Nat.le_refl _) _, by have := hg.size; have := h.size; simp; omega, h.gb, hR.put i u e, hni.up (Nat.lt_succ_self b) (grown_put _ _ _ _)⟩
end
end Go.Proofs.YtkffjjlmoojffaaGreatDoor
namespace Go.Proofs.YtkffjjlmoojffaaGreatDoor
open Go.RowKit
theorem dHas_not {l : List Tok} {d : DS} {x : ByteArray} (h : d.bad = true) : dHas l d x = false := by unfold dHas dNow; rw [h]; rfl
section
variable {b g cap : Nat} {l : List Tok} {W5 : World} {sw po li : Value} {pvs : List Sl3} {n : Net'} {d : DS}
theorem NI.base {base base' : Nat} {W : World} {sw po li : Value} {pvs : List Sl3} {n : Net'} (h : NI base W sw po li pvs n) (hb : base' ≤ base) : NI base' W sw po li pvs n :=
  ⟨own_base h.sw hb, own_base h.po hb, own_base h.li hb, h.len, fun i x ps hx hp => ⟨own_base (h.each i x ps hx hp).1 hb, (h.each i x ps hx hp).2⟩⟩
end
end Go.Proofs.YtkffjjlmoojffaaGreatDoor
namespace Go.Proofs.YtkffjjlmoojffaaGreatDoor
open Go.RowKit
set_option maxHeartbeats 2000000 in
theorem tp_indexE {w : World} (v : Value) (zs : List End') (x : End') (h : Lies w 2 endC v zs) (hb : zs.length ≤ 1048576) :
    Calls Tryz.prog 80 #[v, endV x] w fun e w' => ∃ R : Int, e = .returned (.int .i64 R) ∧ (∃ y, w' = plus w y) ∧ (0 ≤ R ↔ x ∈ zs) := by
  obtain ⟨p, c, rfl, hc⟩ := h
  obtain ⟨n, hn⟩ : ∃ n, zs.length = n := ⟨_, rfl⟩
  rw [hn] at hb ⊢
  have hn' := Lib.hid hn
  have hc' := Lib.hid hc
  obtain ⟨xs, xp⟩ := x
  unfold endV
  simp only
  obtain ⟨W, hW, hB, hz, ca, fa⟩ := box1 w #[.int .i64 xs, .int .i64 xp] 41
  have a0 := ca 0 _ rfl
  have a1 := ca 1 _ rfl
  have hB' := Lib.hid hB
  clear hc hn ca fa hB hz
  go_enter Tryz.func80, Tryz.ntmps80
  go_upto_region 1 with (fail)
  rw [← hW, ← plus_self W]
  clear hW
  go_wp2
  go_loopw [8] (fun iv wr => ∃ k : Nat, k ≤ n ∧ iv = .int .i64 (k : Int) ∧ (∃ y, wr = Go.Proofs.YtkffjjlmoojffaaGreatDoor.plus W y) ∧ Hid (∀ (j : Nat), j < k → zs[j]? ≠ some ⟨xs, xp⟩)) (fun iv _ => n - (intOf iv).toNat)
  case atStart => exact ⟨0, Nat.zero_le _, rfl, ⟨_, rfl⟩, fun j hj => absurd hj (Nat.not_lt_zero _)⟩
  case round =>
    obtain ⟨k, hk, rfl, ⟨y, rfl⟩, hno⟩ := hrel
    by_cases hlt : k < n
    · obtain ⟨⟨q0, q1⟩, hq⟩ : ∃ q, zs[k]? = some q := ⟨zs[k]'(by rw [hn'.out]; exact hlt), List.getElem?_eq_getElem _⟩
      obtain ⟨g, rfl, hg, hcell⟩ := hc'.out k _ hq
      have cc := fun j u (hu : (endC ⟨q0, q1⟩)[j]? = some u) y => ((below_plus W y).cell (p := ⟨g, k * 2 + j, none⟩) (Nat.lt_of_lt_of_le hg hB'.out.size)).trans ((hB'.out.cell (p := ⟨g, k * 2 + j, none⟩) hg).trans (hcell j u hu))
      have d0 := cc 0 _ rfl
      have d1 := cc 1 _ rfl
      simp only [Nat.add_zero] at d0 d1
      have k0 : ¬ ((k : Int) < 0) := by omega
      have k1 : (k : Int) < (n : Int) := by omega
      obtain ⟨B, hBB⟩ : ∃ B, decide ((⟨xs, xp⟩ : End') = ⟨q0, q1⟩) = B := ⟨_, rfl⟩
      have qe := fun w => eql_end ⟨xs, xp⟩ ⟨q0, q1⟩ w
      rw [hBB] at qe
      simp only at qe
      replace hBB := Lib.hid hBB
      have hq' := Lib.hid hq
      clear hcell hq cc
      cases B with
      | true =>
        go_wp2
        refine wp_region_own (by kernel_rfl) (by kernel_rfl) ?_
        repeat (go_big_quiet_step (fail))
        refine wpQuiet_nil ?_
        rintro _ ⟨y3, rfl⟩
        go_wp2
        go_ret
        refine ⟨(k : Int), rfl, plus_of_below (hB'.out.trans ((below_plus W y3).mono hB'.out.size)), ?_⟩
        have e := of_decide_eq_true hBB.out
        rw [e]
        exact ⟨fun _ => List.mem_of_getElem? hq'.out, fun _ => by omega⟩
      | false =>
        go_wp2
        refine wp_region_own (by kernel_rfl) (by kernel_rfl) ?_
        repeat (go_big_quiet_step (fail))
        refine wpQuiet_nil ?_
        rintro _ ⟨y3, rfl⟩
        go_wp2
        go_roundw
        case rel =>
          refine ⟨k + 1, hlt, congrArg (Value.int .i64) (by omega), ⟨_, rfl⟩, Lib.hid fun j hj => ?_⟩
          by_cases hjk : j = k
          · subst hjk
            rw [hq'.out]
            exact fun e => of_decide_eq_false hBB.out (Option.some.inj e).symm
          · exact hno.out j (by omega)
        case measure => exact step_lt k n hlt
    · obtain rfl : k = n := by omega
      go_wp2
      go_ret
      refine ⟨-1, rfl, plus_of_below (hB'.out.trans ((below_plus W y).mono hB'.out.size)), ?_⟩
      refine ⟨fun h => absurd h (by decide), fun hm => ?_⟩
      obtain ⟨j, hj⟩ := List.mem_iff_getElem?.1 hm
      exact absurd hj (hno.out j (by have := (List.getElem?_eq_some_iff.1 hj).1; have := hn'.out; omega))
set_option maxHeartbeats 1000000 in
theorem tp_containsE {w : World} (v : Value) (zs : List End') (x : End') (h : Lies w 2 endC v zs) (hb : zs.length ≤ 1048576) :
    Calls Tryz.prog 55 #[v, endV x] w (Back w (.bool (decide (x ∈ zs)))) := by
  obtain ⟨W, hW, hB, hz, ca, fa⟩ := box1 w #[.int .i64 x.sw, .int .i64 x.po] 41
  have hI0 := tp_indexE (w := W) v zs x (h.below hB) hb
  obtain ⟨p, c, rfl, -⟩ := h
  unfold endV at hI0 ⊢
  have a0 := ca 0 _ rfl ⟨#[], W.drawn⟩
  have a1 := ca 1 _ rfl ⟨#[], W.drawn⟩
  rw [plus_self] at a0 a1
  have hI := Lib.hid hI0
  have hB' := Lib.hid hB
  obtain ⟨B, hBB⟩ : ∃ B, decide (x ∈ zs) = B := ⟨_, rfl⟩
  rw [hBB]
  replace hBB := Lib.hid hBB
  clear ca fa hB hz hI0
  go_enter Tryz.func55, Tryz.ntmps55
  go_upto_region 1 with (fail)
  rw [← hW]
  clear hW
  go_wp2_with fail
  refine hI.out.mono ?_
  rintro e w' ⟨R, rfl, ⟨y, rfl⟩, hR⟩
  have q : Hid (decide (0 ≤ R) = B) := by show _ = _; rw [← hBB.out, Bool.eq_iff_iff, decide_eq_true_eq, decide_eq_true_eq]; exact hR
  clear hR
  go_wp2
  go_ret
  exact ⟨by rw [← q.out]; rfl, plus_of_below (hB'.out.trans ((below_plus W y).mono hB'.out.size))⟩
structure Rp (w : World) (rb cb : Nat) (sw po li lk : Value) : Prop where
  lt : rb < w.heap.size
  c0 : w.cell? ⟨rb, 0, none⟩ = some (.pointer (some ⟨cb, 0, none⟩))
  c1 : w.cell? ⟨rb, 1, none⟩ = some sw
  c2 : w.cell? ⟨rb, 2, none⟩ = some po
  c3 : w.cell? ⟨rb, 3, none⟩ = some li
  c4 : w.cell? ⟨rb, 4, none⟩ = some lk
  fz : ∀ o, w.frozen? ⟨rb, o, none⟩ = false
section
variable {w w' : World} {rb cb : Nat} {sw po li lk : Value} {s : ByteArray} {g cap : Nat} {l : List Tok} {k : Nat}
theorem Rp.block (h : Rp w rb cb sw po li lk) (hs : w.heap.size ≤ w'.heap.size) (hb : w'.heap[rb]? = w.heap[rb]?) : Rp w' rb cb sw po li lk :=
  have c := fun i v (e : w.cell? ⟨rb, i, none⟩ = v) => (World.cell?_of_block (w := w) (a := ⟨rb, i, none⟩) hb).trans e
  ⟨Nat.lt_of_lt_of_le h.lt hs, c _ _ h.c0, c _ _ h.c1, c _ _ h.c2, c _ _ h.c3, c _ _ h.c4, fun o => (World.frozen?_of_block (w := w) (a := ⟨rb, o, none⟩) hb).trans (h.fz o)⟩
theorem Rp.grown (h : Rp w rb cb sw po li lk) {r : Option Nat} (hg : w.grownBy w' r) (hr : some rb ≠ r) : Rp w' rb cb sw po li lk := h.block hg.size (hg.block rb h.lt hr)
theorem Rp.below (h : Rp w rb cb sw po li lk) (hB : Below w.heap.size w w') : Rp w' rb cb sw po li lk := h.block hB.size (hB.block rb h.lt)
set_option maxHeartbeats 1000000 in
theorem tp_port (hR : w.cell? ⟨rb, 0, none⟩ = some (.pointer (some ⟨cb, 0, none⟩))) (hlt : rb < w.heap.size) (h : Cu w cb s g cap l k) (t : Tok) (hs : s.size ≤ 140737488355328) (ha : t.at_ ≤ s.size) (hN : t.n < 340282366920938463463374607431768211456) :
    Calls Tryz.prog 89 #[.pointer (some ⟨rb, 0, none⟩), tokA t] w (CuEnds w cb s g cap l (bareM t k 1 511 5) fun n => .int .i64 (n : Int)) := by
  obtain ⟨K, hK⟩ : ∃ K, (t.kind : Int) = K := ⟨_, rfl⟩
  have hTA : Hid (tokA t = .agg #[.int .u8 K, .string t.s, .int .i64 t.w, .int .u64 (hi t.n), .int .u64 (lo t.n), .int .i64 (t.at_ : Int)]) := by show _ = _; rw [← hK]
  obtain ⟨W, hW, hB, hz, ca, fa⟩ := box1 w #[.int .u8 K, .string t.s, .int .i64 t.w, .int .u64 (hi t.n), .int .u64 (lo t.n), .int .i64 (t.at_ : Int)] 60
  have hX : Cu W cb s g cap l k := h.below hB
  have r0 := fun y => ((below_plus W y).cell (p := ⟨rb, 0, none⟩) (by show rb < _; omega)).trans ((hB.cell (p := ⟨rb, 0, none⟩) hlt).trans hR)
  have a0 := ca 0 _ rfl
  have a1 := ca 1 _ rfl
  have a2 := ca 2 _ rfl
  have a3 := ca 3 _ rfl
  have a4 := ca 4 _ rfl
  have a5 := ca 5 _ rfl
  have hBa := fun y => cur_bare_any (hX.plus y) t 1 511 5 (by decide) hs ha hN (by decide) (by decide)
  rw [hTA.out] at hBa ⊢
  replace hBa := Lib.hid hBa
  have hg := Lib.hid (grown_of_below hB (some cb))
  obtain ⟨R, hRR⟩ : ∃ R, bareM t k 1 511 5 = R := ⟨_, rfl⟩
  rw [hRR] at hBa ⊢
  clear ca fa hB hz hX h hR hK hRR
  go_enter Tryz.func89, Tryz.ntmps89
  go_upto_region 1 with (fail)
  rw [← hW]
  clear hW
  refine wp_region_own_tail0 5 (by kernel_rfl) (by kernel_rfl) ?_
  simp only [List.take_succ_cons, List.take_zero, List.drop_succ_cons, List.drop_zero]
  repeat (go_big_quiet_step (fail))
  refine wpQuiet_nil ?_
  rintro _ ⟨y, rfl⟩
  go_wp2_with fail
  refine (hBa.out y).mono ?_
  intro e w' hE
  cases R with
  | ok a k' =>
    obtain ⟨rfl, hg2, hX2⟩ := hE
    have hE2 := Lib.hid (And.intro hg2 hX2)
    clear hg2 hX2
    go_wp2
    go_ret
    exact ⟨rfl, grown_trans (grown_trans hg.out (grown_plus_any _ _ _)) hE2.out.1, hE2.out.2⟩
  | bad p E =>
    obtain ⟨rfl, hg2⟩ := hE
    have hE2 := Lib.hid hg2
    clear hg2
    go_wp2
    exact ⟨rfl, rfl, grown_trans (grown_trans hg.out (grown_plus_any _ _ _)) hE2.out⟩
end
end Go.Proofs.YtkffjjlmoojffaaGreatDoor
