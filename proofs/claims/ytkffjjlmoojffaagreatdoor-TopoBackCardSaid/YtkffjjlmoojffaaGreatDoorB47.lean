/-
  WHAT IS PROVED HERE: a part of the proof of the claim's theorem: NtE.
-/
import Derived.Test.YtkffjjlmoojffaaGreatDoorRows
import Derived.Test.YtkffjjlmoojffaaGreatDoorB24
set_option linter.all false
namespace Go.Proofs.YtkffjjlmoojffaaGreatDoor
open Go.RowKit
theorem to_equalS {w : World} (v1 v2 : Value) (l : List ByteArray) (h1 : LiesO w 1 strC v1 l) (h2 : LiesO w 1 strC v2 l) (hb : l.length ≤ 281474976710656) :
    Calls Tryz.prog 35 #[v1, v2] w (Back w (.bool true)) := by
  obtain ⟨p1, c1, rfl, a1⟩ := h1
  obtain ⟨p2, c2, rfl, a2⟩ := h2
  by_cases hn : 0 < l.length
  · obtain ⟨g1, o1, rfl, _, _⟩ := a1 0 (l[0]'hn) (List.getElem?_eq_getElem hn)
    obtain ⟨g2, o2, rfl, _, _⟩ := a2 0 (l[0]'hn) (List.getElem?_eq_getElem hn)
    have k : ∀ (g o : Nat), (∀ i x, l[i]? = some x → ∃ g' o', (some ⟨g, o, none⟩ : Option Addr) = some ⟨g', o', none⟩ ∧ g' < w.heap.size ∧ ∀ j u, (strC x)[j]? = some u → w.cell? ⟨g', o' + i * 1 + j, none⟩ = some u) → ∀ j, j < l.length → w.cell? ⟨g, o + j, none⟩ = some (.string (l.getD j ByteArray.empty)) := fun g o ha j hj => by
      obtain ⟨g', o', hg', _, hcell⟩ := ha j (l[j]'hj) (List.getElem?_eq_getElem hj)
      simp only [Option.some.injEq, Addr.mk.injEq, and_true] at hg'
      obtain ⟨rfl, rfl⟩ := hg'
      have := hcell 0 _ rfl
      simpa [List.getD, hj] using this
    refine (Tryz.slices_Equal_string g1 o1 l.length c1 g2 o2 l.length c2 l l w (Nat.le_refl _) (Nat.le_refl _) (by omega) (by omega) (k g1 o1 a1) (k g2 o2 a2)).mono ?_
    rintro e w' ⟨rfl, q, rfl⟩
    exact ⟨by rw [decide_eq_true rfl], plus_of_below ((Below.refl _ w).trans ⟨rfl, rfl, rfl, Nat.le_refl _, fun _ _ => rfl⟩)⟩
  · obtain rfl : l = [] := List.length_eq_zero_iff.1 (by omega)
    refine (Tryz.slices_Equal_string_empty p1 p2 c1 0 c2 w (by decide)).mono ?_
    rintro e w' ⟨rfl, rfl⟩
    exact ⟨rfl, ⟨#[], w'.drawn⟩, (plus_self w').symm⟩
theorem to_equalI {w : World} (v1 v2 : Value) (l : List Int) (h1 : LiesO w 1 intC v1 l) (h2 : LiesO w 1 intC v2 l) (hb : l.length ≤ 281474976710656) :
    Calls Tryz.prog 37 #[v1, v2] w (Back w (.bool true)) := by
  obtain ⟨p1, c1, rfl, a1⟩ := h1
  obtain ⟨p2, c2, rfl, a2⟩ := h2
  by_cases hn : 0 < l.length
  · obtain ⟨g1, o1, rfl, _, _⟩ := a1 0 (l[0]'hn) (List.getElem?_eq_getElem hn)
    obtain ⟨g2, o2, rfl, _, _⟩ := a2 0 (l[0]'hn) (List.getElem?_eq_getElem hn)
    have k : ∀ (g o : Nat), (∀ i x, l[i]? = some x → ∃ g' o', (some ⟨g, o, none⟩ : Option Addr) = some ⟨g', o', none⟩ ∧ g' < w.heap.size ∧ ∀ j u, (intC x)[j]? = some u → w.cell? ⟨g', o' + i * 1 + j, none⟩ = some u) → ∀ j, j < l.length → w.cell? ⟨g, o + j, none⟩ = some (.int .i64 (l.getD j 0)) := fun g o ha j hj => by
      obtain ⟨g', o', hg', _, hcell⟩ := ha j (l[j]'hj) (List.getElem?_eq_getElem hj)
      simp only [Option.some.injEq, Addr.mk.injEq, and_true] at hg'
      obtain ⟨rfl, rfl⟩ := hg'
      have := hcell 0 _ rfl
      simpa [List.getD, hj] using this
    refine (Tryz.slices_Equal_int g1 o1 l.length c1 g2 o2 l.length c2 l l w (Nat.le_refl _) (Nat.le_refl _) (by omega) (by omega) (k g1 o1 a1) (k g2 o2 a2)).mono ?_
    rintro e w' ⟨rfl, q, rfl⟩
    exact ⟨by simp, plus_of_below ((Below.refl _ w).trans ⟨rfl, rfl, rfl, Nat.le_refl _, fun _ _ => rfl⟩)⟩
  · obtain rfl : l = [] := List.length_eq_zero_iff.1 (by omega)
    refine (Tryz.slices_Equal_int_empty p1 p2 c1 0 c2 w (by decide)).mono ?_
    rintro e w' ⟨rfl, rfl⟩
    exact ⟨rfl, ⟨#[], w'.drawn⟩, (plus_self w').symm⟩
set_option maxHeartbeats 4000000 in
theorem to_equalL {w : World} (v1 v2 : Value) (l : List (End' × End')) (h1 : LiesO w 4 linkC v1 l) (h2 : LiesO w 4 linkC v2 l) (hb : l.length ≤ 281474976710656) :
    Calls Tryz.prog 38 #[v1, v2] w (Back w (.bool true)) := by
  obtain ⟨p1, c1, rfl, a3⟩ := h1
  obtain ⟨p2, c2, rfl, b3⟩ := h2
  obtain ⟨n3, hn3⟩ : ∃ n3, l.length = n3 := ⟨_, rfl⟩
  rw [hn3] at hb ⊢
  have hn3' := Lib.hid hn3
  replace a3 := Lib.hid a3
  replace b3 := Lib.hid b3
  clear hn3
  go_enter Tryz.func38, Tryz.ntmps38
  go_wp2
  rw [← plus_self w]
  go_loopw [5, 13] (fun _ iv wr => ∃ k : Nat, k ≤ n3 ∧ iv = .int .i64 (k : Int) ∧ ∃ y, wr = Go.Proofs.YtkffjjlmoojffaaGreatDoor.plus w y) (fun _ iv _ => n3 - (intOf iv).toNat)
  case atStart => exact ⟨0, Nat.zero_le _, rfl, ⟨_, rfl⟩⟩
  case round =>
    obtain ⟨j, hj, rfl, yj, rfl⟩ := hrel
    by_cases hjl : j < n3
    · obtain ⟨t, ht⟩ : ∃ t, l[j]? = some t := ⟨l[j]'(by rw [hn3'.out]; exact hjl), List.getElem?_eq_getElem _⟩
      obtain ⟨g1, o1, rfl, hg1, e1⟩ := a3.out j t ht
      obtain ⟨g2, o2, rfl, hg2, e2⟩ := b3.out j t ht
      have r0 := fun y => plus_cell hg1 (show w.cell? ⟨g1, o1 + j * 4, none⟩ = _ by simpa using e1 0 _ rfl) y
      have r1 := fun y => plus_cell hg1 (e1 1 _ rfl) y
      have r2 := fun y => plus_cell hg1 (e1 2 _ rfl) y
      have r3 := fun y => plus_cell hg1 (e1 3 _ rfl) y
      have t0 := fun y => plus_cell hg2 (show w.cell? ⟨g2, o2 + j * 4, none⟩ = _ by simpa using e2 0 _ rfl) y
      have t1 := fun y => plus_cell hg2 (e2 1 _ rfl) y
      have t2 := fun y => plus_cell hg2 (e2 2 _ rfl) y
      have t3 := fun y => plus_cell hg2 (e2 3 _ rfl) y
      have j0 : ¬ ((j : Int) < 0) := by omega
      have j1 : (j : Int) < (n3 : Int) := by omega
      have qn := fun w => neq_link t w
      clear e1 e2 ht
      go_wp2
      try simp only [List.append]
      refine wp_region_own (by kernel_rfl) (by kernel_rfl) ?_
      repeat (go_big_quiet_step (fail))
      refine wpQuiet_nil ?_
      rintro _ ⟨y1, rfl⟩
      go_wp2
      go_roundw
      case rel => exact ⟨j + 1, hjl, congrArg (Value.int .i64) (by omega), _, rfl⟩
      case measure => exact step_lt j n3 hjl
    · have hj' : j = n3 := by omega
      subst hj'
      go_wp2
      go_ret
      exact ⟨rfl, _, rfl⟩
set_option maxHeartbeats 4000000 in
theorem to_equalP {w : World} (v1 v2 : Value) (va vb : List Sl3) (ports : List (List Int)) (h1 : PortsO w v1 va ports) (h2 : PortsO w v2 vb ports) (hb : ports.length ≤ 281474976710656) :
    Calls Tryz.prog 36 #[v1, v2, .func (.func 37) #[] #[]] w (Back w (.bool true)) := by
  obtain ⟨p1, c1, rfl, a3⟩ := h1.row
  obtain ⟨p2, c2, rfl, b3⟩ := h2.row
  have la := h1.len
  have lb := h2.len
  obtain ⟨n3, hn3⟩ : ∃ n3, ports.length = n3 := ⟨_, rfl⟩
  rw [hn3] at hb la lb
  rw [la, lb]
  have hn3' := Lib.hid hn3
  have la' := Lib.hid la
  have lb' := Lib.hid lb
  replace a3 := Lib.hid a3
  replace b3 := Lib.hid b3
  have hE : Hid (∀ (y : Ext) (k : Nat) (s1 s2 : Sl3) (ps : List Int), va[k]? = some s1 → vb[k]? = some s2 → ports[k]? = some ps → Calls Tryz.prog 37 #[.slice s1.p s1.n s1.c, .slice s2.p s2.n s2.c] (Go.Proofs.YtkffjjlmoojffaaGreatDoor.plus w y) (Back (Go.Proofs.YtkffjjlmoojffaaGreatDoor.plus w y) (.bool true))) := Lib.hid fun y k s1 s2 ps e1 e2 e3 => by
    obtain ⟨x1, z1⟩ := h1.each k s1 ps e1 e3
    obtain ⟨x2, _⟩ := h2.each k s2 ps e2 e3
    exact to_equalI (w := Go.Proofs.YtkffjjlmoojffaaGreatDoor.plus w y) s1.v s2.v ps (x1.plus y) (x2.plus y) z1
  have hent := enters_of Tryz.func37 (by kernel_rfl) rfl
  clear hn3 la lb h1 h2
  go_enter Tryz.func36, Tryz.ntmps36
  go_wp2
  rw [← plus_self w]
  go_loopw [7, 8, 9, 17] (fun _ _ _ iv wr => ∃ k : Nat, k ≤ n3 ∧ iv = .int .i64 (k : Int) ∧ ∃ y, wr = Go.Proofs.YtkffjjlmoojffaaGreatDoor.plus w y) (fun _ _ _ iv _ => n3 - (intOf iv).toNat)
  case atStart => exact ⟨0, Nat.zero_le _, rfl, ⟨_, rfl⟩⟩
  case round =>
    obtain ⟨j, hj, rfl, yj, rfl⟩ := hrel
    by_cases hjl : j < n3
    · obtain ⟨ps, hps⟩ : ∃ t, ports[j]? = some t := ⟨ports[j]'(by rw [hn3'.out]; exact hjl), List.getElem?_eq_getElem _⟩
      obtain ⟨s1, hs1⟩ : ∃ t, va[j]? = some t := ⟨va[j]'(by rw [la'.out]; exact hjl), List.getElem?_eq_getElem _⟩
      obtain ⟨s2, hs2⟩ : ∃ t, vb[j]? = some t := ⟨vb[j]'(by rw [lb'.out]; exact hjl), List.getElem?_eq_getElem _⟩
      obtain ⟨g1, o1, rfl, hg1, e1⟩ := a3.out j s1 hs1
      obtain ⟨g2, o2, rfl, hg2, e2⟩ := b3.out j s2 hs2
      have r0 := fun y => plus_cell hg1 (show w.cell? ⟨g1, o1 + j, none⟩ = _ by simpa using e1 0 _ rfl) y
      have t0 := fun y => plus_cell hg2 (show w.cell? ⟨g2, o2 + j, none⟩ = _ by simpa using e2 0 _ rfl) y
      have hEE := Lib.hid (hE.out yj j s1 s2 ps hs1 hs2 hps)
      have j0 : ¬ ((j : Int) < 0) := by omega
      have j1 : (j : Int) < (n3 : Int) := by omega
      clear e1 e2 hps hs1 hs2
      go_wp2_with fail
      refine hEE.out.mono ?_
      rintro e w' ⟨rfl, x, rfl⟩
      rw [plus_plus]
      go_wp2
      go_roundw
      case rel => exact ⟨j + 1, hjl, congrArg (Value.int .i64) (by omega), _, rfl⟩
      case measure => exact step_lt j n3 hjl
    · have hj' : j = n3 := by omega
      subst hj'
      go_wp2
      go_ret
      exact ⟨rfl, _, rfl⟩
set_option maxHeartbeats 4000000 in
theorem to_same {w : World} (sa pa la sb pb lb : Value) (va vb : List Sl3) (n : Net') (A : NetO w sa pa la va n) (B : NetO w sb pb lb vb n) :
    Calls Tryz.prog 12 #[.agg #[sa, pa, la], .agg #[sb, pb, lb]] w (Back w (.bool true)) := by
  obtain ⟨p1, c1, rfl, -⟩ := id A.sw
  obtain ⟨p2, c2, rfl, -⟩ := id A.po.row
  obtain ⟨p3, c3, rfl, -⟩ := id A.li
  obtain ⟨q1, d1, rfl, -⟩ := id B.sw
  obtain ⟨q2, d2, rfl, -⟩ := id B.po.row
  obtain ⟨q3, d3, rfl, -⟩ := id B.li
  obtain ⟨W, hW, hBW, hz, ca, cb, fa, fb⟩ := box2 w #[.slice p1 n.names.length c1, .slice p2 va.length c2, .slice p3 n.links.length c3] #[.slice q1 n.names.length d1, .slice q2 vb.length d2, .slice q3 n.links.length d3] 27 27
  have x0 := ca 0 _ rfl
  have x1 := ca 1 _ rfl
  have x2 := ca 2 _ rfl
  have y0 := cb 0 _ rfl
  have y1 := cb 1 _ rfl
  have y2 := cb 2 _ rfl
  have hS := Lib.hid (fun y => to_equalS (w := Go.Proofs.YtkffjjlmoojffaaGreatDoor.plus W y) _ _ n.names ((A.sw.below hBW).plus y) ((B.sw.below hBW).plus y) A.b1)
  have hP := Lib.hid (fun y => to_equalP (w := Go.Proofs.YtkffjjlmoojffaaGreatDoor.plus W y) _ _ va vb n.ports ((A.po.below hBW).below (below_plus W y)) ((B.po.below hBW).below (below_plus W y)) A.b2)
  have hL := Lib.hid (fun y => to_equalL (w := Go.Proofs.YtkffjjlmoojffaaGreatDoor.plus W y) _ _ n.links ((A.li.below hBW).plus y) ((B.li.below hBW).plus y) A.b3)
  have hfin : Hid (∀ y : Ext, ∃ x, Go.Proofs.YtkffjjlmoojffaaGreatDoor.plus W y = Go.Proofs.YtkffjjlmoojffaaGreatDoor.plus w x) := Lib.hid fun y => plus_of_below (hBW.trans ((below_plus W y).mono hBW.size))
  clear A B ca cb fa fb hz hBW
  go_enter Tryz.func12, Tryz.ntmps12
  go_upto_region 1 with (fail)
  rw [← hW, ← plus_self W]
  clear hW
  go_wp2_with fail
  refine (hS.out _).mono ?_
  rintro e w' ⟨rfl, x, rfl⟩
  rw [plus_plus]
  go_wp2_with fail
  refine (hP.out _).mono ?_
  rintro e w' ⟨rfl, x, rfl⟩
  rw [plus_plus]
  go_wp2_with fail
  refine (hL.out _).mono ?_
  rintro e w' ⟨rfl, x, rfl⟩
  rw [plus_plus]
  go_wp2
  go_ret
  exact ⟨rfl, hfin.out _⟩
end Go.Proofs.YtkffjjlmoojffaaGreatDoor
