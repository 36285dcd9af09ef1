/-
  WHAT IS PROVED HERE: what slices.Equal hands back, of any two slices of strings, fields, numbers or sets that lie in memory and are not too long. Written by gen/eqs.py.
-/
import Derived.Test.YtddpmfilkhegmaaGreatRows
import Derived.Test.YtddpmfilkhegmaaGreatFG
import Derived.WalkKit
import Derived.Lib.Hide
import Derived.WalkSpells
import Derived.WalkLawsBesides
namespace Go.Proofs.YtddpmfilkhegmaaGreat
open Go.RowKit
def eqSe (a b : Se) : Bool := a.kind == b.kind && eqLt a.v b.v && eqLt a.m b.m
set_option maxHeartbeats 8000000 in
theorem eqs_string (A B : Sl ByteArray) (K K2 : ByteArray → Prop) (w : World) (hA : A.In w 1 strCells K) (hB : B.In w 1 strCells K2) (hl : A.l.length ≤ 1048576) :
    Kp Tryz.prog w 59 #[A.v, B.v] (.bool (eqAll eqStr A.l B.l)) := by
  intro y0
  obtain ⟨p, cap, l⟩ := A
  obtain ⟨q, cbp, r⟩ := B
  simp only [Sl.v] at hl ⊢
  obtain ⟨n, hn⟩ : ∃ n, l.length = n := ⟨_, rfl⟩
  obtain ⟨m, hm⟩ : ∃ n, r.length = n := ⟨_, rfl⟩
  have hA := hA.row.plus y0
  have hB := hB.row.plus y0
  obtain ⟨W, hW⟩ : ∃ W, plus w y0 = W := ⟨_, rfl⟩
  rw [hW] at hA hB ⊢
  clear hW
  rw [hn] at hl
  by_cases hne : n = m
  case neg =>
    have hF := Lib.hid (show false = eqAll eqStr l r from (eqAll_length eqStr l r (by omega)).symm)
    rw [hn, hm]
    clear hA hB hl hn hm
    go_enter Tryz.func59, Tryz.ntmps59
    go_wp2
    go_ret
    exact ⟨congrArg (fun z => Ending.returned (Value.bool z)) hF.out, _, (plus_self W).symm⟩
  subst hne
  rw [hn, hm]
  obtain ⟨R, hR⟩ : ∃ R, eqAll eqStr l r = R := ⟨_, rfl⟩
  rw [hR]
  have h0 : eqAll eqStr (l.drop 0) (r.drop 0) = R := hR
  have hA' := Lib.hid hA
  have hB' := Lib.hid hB
  have hn' := Lib.hid hn
  have hm' := Lib.hid hm
  have hl' := Lib.hid hl
  have h0' := Lib.hid h0
  clear hA hB hl hn hm hR h0
  go_enter Tryz.func59, Tryz.ntmps59
  go_wp2
  go_loopw [5, 13] (fun _ iv wr => ∃ k : Nat, k ≤ n ∧ iv = .int .i64 (k : Int) ∧ Hid (eqAll eqStr (l.drop k) (r.drop k) = R) ∧ ∃ y, wr = plus W y) (fun _ iv _ => n - (intOf iv).toNat)
  case atStart => exact ⟨0, Nat.zero_le _, rfl, h0', ⟨#[], W.drawn⟩, (plus_self W).symm⟩
  case round =>
    obtain ⟨k, hk, rfl, hs, y, rfl⟩ := hrel
    by_cases hlt : k < n
    · obtain ⟨a, ha⟩ : ∃ s, l[k]? = some s := ⟨l[k]'(by rw [hn'.out]; exact hlt), List.getElem?_eq_getElem _⟩
      obtain ⟨b, hb⟩ : ∃ s, r[k]? = some s := ⟨r[k]'(by rw [hm'.out]; exact hlt), List.getElem?_eq_getElem _⟩
      obtain ⟨pa, rfl, hc⟩ := hA'.out k a ha
      obtain ⟨pb, rfl, hd⟩ := hB'.out k b hb
      have hs1 : (eqStr a b && eqAll eqStr (l.drop (k + 1)) (r.drop (k + 1))) = R := by rw [← eqAll_drop eqStr l r k a b ha hb]; exact hs.out
      have d0 := fun y => (hc.plus y).c0 _ rfl
      have e0 := fun y => (hd.plus y).c0 _ rfl
      simp only [Nat.mul_one] at d0 e0
      have a6 := Lib.hid (wr_succ k n hlt hl'.out)
      clear hc hd ha hb hs
      simp only [eqStr] at hs1
      by_cases hq : (a.toList == b.toList) = true
      case neg =>
        have hq : (a.toList == b.toList) = false := by simpa using hq
        have hs2 := Lib.hid (show false = R by rw [← hs1]; simp [hq])
        clear hs1
        go_wp2
        refine wp_region_own (by kernel_rfl) (by kernel_rfl) ?_
        repeat (go_big_quiet_step (fail))
        refine wpQuiet_nil ?_
        rintro _ ⟨y1, rfl⟩
        go_wp2
        go_ret
        exact ⟨congrArg (fun z => Ending.returned (Value.bool z)) hs2.out, _, rfl⟩
      have g_a := hq
      clear hq
      have hs2 := Lib.hid (show eqAll eqStr (l.drop (k + 1)) (r.drop (k + 1)) = R by rw [← hs1]; simp [g_a])
      clear hs1
      go_wp2
      refine wp_region_own (by kernel_rfl) (by kernel_rfl) ?_
      repeat (go_big_quiet_step (fail))
      refine wpQuiet_nil ?_
      rintro _ ⟨y1, rfl⟩
      go_wp2
      go_roundw
      case rel => exact ⟨k + 1, hlt, congrArg (Value.int .i64) a6.out, hs2, y1, rfl⟩
      case measure => exact step_less k n hlt a6.out
    · obtain rfl : k = n := by omega
      have hs2 := Lib.hid (show true = R by
        rw [← hs.out, List.drop_of_length_le (by rw [hn'.out]; exact Nat.le_refl _), List.drop_of_length_le (by rw [hm'.out]; exact Nat.le_refl _), eqAll])
      clear hs hlt hk
      go_wp2
      go_ret
      exact ⟨congrArg (fun z => Ending.returned (Value.bool z)) hs2.out, _, rfl⟩
set_option maxHeartbeats 8000000 in
theorem eqs_Field (A B : Sl Fd) (K K2 : Fd → Prop) (w : World) (hA : A.In w 2 Fd.cells K) (hB : B.In w 2 Fd.cells K2) (hl : A.l.length ≤ 1048576) :
    Kp Tryz.prog w 51 #[A.v, B.v] (.bool (eqAll eqFd A.l B.l)) := by
  intro y0
  obtain ⟨p, cap, l⟩ := A
  obtain ⟨q, cbp, r⟩ := B
  simp only [Sl.v] at hl ⊢
  obtain ⟨n, hn⟩ : ∃ n, l.length = n := ⟨_, rfl⟩
  obtain ⟨m, hm⟩ : ∃ n, r.length = n := ⟨_, rfl⟩
  have hA := hA.row.plus y0
  have hB := hB.row.plus y0
  obtain ⟨W, hW⟩ : ∃ W, plus w y0 = W := ⟨_, rfl⟩
  rw [hW] at hA hB ⊢
  clear hW
  rw [hn] at hl
  by_cases hne : n = m
  case neg =>
    have hF := Lib.hid (show false = eqAll eqFd l r from (eqAll_length eqFd l r (by omega)).symm)
    rw [hn, hm]
    clear hA hB hl hn hm
    go_enter Tryz.func51, Tryz.ntmps51
    go_wp2
    go_ret
    exact ⟨congrArg (fun z => Ending.returned (Value.bool z)) hF.out, _, (plus_self W).symm⟩
  subst hne
  rw [hn, hm]
  obtain ⟨R, hR⟩ : ∃ R, eqAll eqFd l r = R := ⟨_, rfl⟩
  rw [hR]
  have h0 : eqAll eqFd (l.drop 0) (r.drop 0) = R := hR
  have hA' := Lib.hid hA
  have hB' := Lib.hid hB
  have hn' := Lib.hid hn
  have hm' := Lib.hid hm
  have hl' := Lib.hid hl
  have h0' := Lib.hid h0
  clear hA hB hl hn hm hR h0
  go_enter Tryz.func51, Tryz.ntmps51
  go_wp2
  go_loopw [5, 13] (fun _ iv wr => ∃ k : Nat, k ≤ n ∧ iv = .int .i64 (k : Int) ∧ Hid (eqAll eqFd (l.drop k) (r.drop k) = R) ∧ ∃ y, wr = plus W y) (fun _ iv _ => n - (intOf iv).toNat)
  case atStart => exact ⟨0, Nat.zero_le _, rfl, h0', ⟨#[], W.drawn⟩, (plus_self W).symm⟩
  case round =>
    obtain ⟨k, hk, rfl, hs, y, rfl⟩ := hrel
    by_cases hlt : k < n
    · obtain ⟨a, ha⟩ : ∃ s, l[k]? = some s := ⟨l[k]'(by rw [hn'.out]; exact hlt), List.getElem?_eq_getElem _⟩
      obtain ⟨b, hb⟩ : ∃ s, r[k]? = some s := ⟨r[k]'(by rw [hm'.out]; exact hlt), List.getElem?_eq_getElem _⟩
      obtain ⟨pa, rfl, hc⟩ := hA'.out k a ha
      obtain ⟨pb, rfl, hd⟩ := hB'.out k b hb
      have hs1 : (eqFd a b && eqAll eqFd (l.drop (k + 1)) (r.drop (k + 1))) = R := by rw [← eqAll_drop eqFd l r k a b ha hb]; exact hs.out
      obtain ⟨an, aw⟩ := a
      obtain ⟨bn, bw⟩ := b
      have d0 := fun y => (hc.plus y).c0 _ rfl
      have d1 := fun y => (hc.plus y).cs 0 _ rfl
      have e0 := fun y => (hd.plus y).c0 _ rfl
      have e1 := fun y => (hd.plus y).cs 0 _ rfl
      simp only at d0 d1 e0 e1
      have a6 := Lib.hid (wr_succ k n hlt hl'.out)
      clear hc hd ha hb hs
      simp only [eqFd] at hs1
      by_cases hq : (an.toList == bn.toList) = true
      case neg =>
        have hq : (an.toList == bn.toList) = false := by simpa using hq
        have hs2 := Lib.hid (show false = R by rw [← hs1]; simp [hq])
        clear hs1
        go_wp2
        refine wp_region_own (by kernel_rfl) (by kernel_rfl) ?_
        repeat (go_big_quiet_step (fail))
        refine wpQuiet_nil ?_
        rintro _ ⟨y1, rfl⟩
        go_wp2
        go_ret
        exact ⟨congrArg (fun z => Ending.returned (Value.bool z)) hs2.out, _, rfl⟩
      have g_an := hq
      clear hq
      by_cases hq : aw = bw
      case neg =>
        have hs2 := Lib.hid (show false = R by rw [← hs1]; simp [hq])
        clear hs1
        go_wp2
        refine wp_region_own (by kernel_rfl) (by kernel_rfl) ?_
        repeat (go_big_quiet_step (fail))
        refine wpQuiet_nil ?_
        rintro _ ⟨y1, rfl⟩
        go_wp2
        go_ret
        exact ⟨congrArg (fun z => Ending.returned (Value.bool z)) hs2.out, _, rfl⟩
      subst hq
      have hs2 := Lib.hid (show eqAll eqFd (l.drop (k + 1)) (r.drop (k + 1)) = R by rw [← hs1]; simp [g_an])
      clear hs1
      go_wp2
      refine wp_region_own (by kernel_rfl) (by kernel_rfl) ?_
      repeat (go_big_quiet_step (fail))
      refine wpQuiet_nil ?_
      rintro _ ⟨y1, rfl⟩
      go_wp2
      go_roundw
      case rel => exact ⟨k + 1, hlt, congrArg (Value.int .i64) a6.out, hs2, y1, rfl⟩
      case measure => exact step_less k n hlt a6.out
    · obtain rfl : k = n := by omega
      have hs2 := Lib.hid (show true = R by
        rw [← hs.out, List.drop_of_length_le (by rw [hn'.out]; exact Nat.le_refl _), List.drop_of_length_le (by rw [hm'.out]; exact Nat.le_refl _), eqAll])
      clear hs hlt hk
      go_wp2
      go_ret
      exact ⟨congrArg (fun z => Ending.returned (Value.bool z)) hs2.out, _, rfl⟩
set_option maxHeartbeats 8000000 in
theorem eqs_Lit (A B : Sl Lt) (K K2 : Lt → Prop) (w : World) (hA : A.In w 3 Lt.cells K) (hB : B.In w 3 Lt.cells K2) (hl : A.l.length ≤ 1048576) :
    Kp Tryz.prog w 102 #[A.v, B.v] (.bool (eqAll eqLt A.l B.l)) := by
  intro y0
  obtain ⟨p, cap, l⟩ := A
  obtain ⟨q, cbp, r⟩ := B
  simp only [Sl.v] at hl ⊢
  obtain ⟨n, hn⟩ : ∃ n, l.length = n := ⟨_, rfl⟩
  obtain ⟨m, hm⟩ : ∃ n, r.length = n := ⟨_, rfl⟩
  have hA := hA.row.plus y0
  have hB := hB.row.plus y0
  obtain ⟨W, hW⟩ : ∃ W, plus w y0 = W := ⟨_, rfl⟩
  rw [hW] at hA hB ⊢
  clear hW
  rw [hn] at hl
  by_cases hne : n = m
  case neg =>
    have hF := Lib.hid (show false = eqAll eqLt l r from (eqAll_length eqLt l r (by omega)).symm)
    rw [hn, hm]
    clear hA hB hl hn hm
    go_enter Tryz.func102, Tryz.ntmps102
    go_wp2
    go_ret
    exact ⟨congrArg (fun z => Ending.returned (Value.bool z)) hF.out, _, (plus_self W).symm⟩
  subst hne
  rw [hn, hm]
  obtain ⟨R, hR⟩ : ∃ R, eqAll eqLt l r = R := ⟨_, rfl⟩
  rw [hR]
  have h0 : eqAll eqLt (l.drop 0) (r.drop 0) = R := hR
  have hA' := Lib.hid hA
  have hB' := Lib.hid hB
  have hn' := Lib.hid hn
  have hm' := Lib.hid hm
  have hl' := Lib.hid hl
  have h0' := Lib.hid h0
  clear hA hB hl hn hm hR h0
  go_enter Tryz.func102, Tryz.ntmps102
  go_wp2
  go_loopw [5, 13] (fun _ iv wr => ∃ k : Nat, k ≤ n ∧ iv = .int .i64 (k : Int) ∧ Hid (eqAll eqLt (l.drop k) (r.drop k) = R) ∧ ∃ y, wr = plus W y) (fun _ iv _ => n - (intOf iv).toNat)
  case atStart => exact ⟨0, Nat.zero_le _, rfl, h0', ⟨#[], W.drawn⟩, (plus_self W).symm⟩
  case round =>
    obtain ⟨k, hk, rfl, hs, y, rfl⟩ := hrel
    by_cases hlt : k < n
    · obtain ⟨a, ha⟩ : ∃ s, l[k]? = some s := ⟨l[k]'(by rw [hn'.out]; exact hlt), List.getElem?_eq_getElem _⟩
      obtain ⟨b, hb⟩ : ∃ s, r[k]? = some s := ⟨r[k]'(by rw [hm'.out]; exact hlt), List.getElem?_eq_getElem _⟩
      obtain ⟨pa, rfl, hc⟩ := hA'.out k a ha
      obtain ⟨pb, rfl, hd⟩ := hB'.out k b hb
      have hs1 : (eqLt a b && eqAll eqLt (l.drop (k + 1)) (r.drop (k + 1))) = R := by rw [← eqAll_drop eqLt l r k a b ha hb]; exact hs.out
      obtain ⟨aw, ah, al⟩ := a
      obtain ⟨bw, bh, bl⟩ := b
      have d0 := fun y => (hc.plus y).c0 _ rfl
      have d1 := fun y => (hc.plus y).cs 0 _ rfl
      have d2 := fun y => (hc.plus y).cs 1 _ rfl
      have e0 := fun y => (hd.plus y).c0 _ rfl
      have e1 := fun y => (hd.plus y).cs 0 _ rfl
      have e2 := fun y => (hd.plus y).cs 1 _ rfl
      simp only at d0 d1 d2 e0 e1 e2
      have a6 := Lib.hid (wr_succ k n hlt hl'.out)
      clear hc hd ha hb hs
      simp only [eqLt] at hs1
      by_cases hq : aw = bw
      case neg =>
        have hs2 := Lib.hid (show false = R by rw [← hs1]; simp [hq])
        clear hs1
        go_wp2
        refine wp_region_own (by kernel_rfl) (by kernel_rfl) ?_
        repeat (go_big_quiet_step (fail))
        refine wpQuiet_nil ?_
        rintro _ ⟨y1, rfl⟩
        go_wp2
        go_ret
        exact ⟨congrArg (fun z => Ending.returned (Value.bool z)) hs2.out, _, rfl⟩
      subst hq
      by_cases hq : ah = bh
      case neg =>
        have hs2 := Lib.hid (show false = R by rw [← hs1]; simp [hq])
        clear hs1
        go_wp2
        refine wp_region_own (by kernel_rfl) (by kernel_rfl) ?_
        repeat (go_big_quiet_step (fail))
        refine wpQuiet_nil ?_
        rintro _ ⟨y1, rfl⟩
        go_wp2
        go_ret
        exact ⟨congrArg (fun z => Ending.returned (Value.bool z)) hs2.out, _, rfl⟩
      subst hq
      by_cases hq : al = bl
      case neg =>
        have hs2 := Lib.hid (show false = R by rw [← hs1]; simp [hq])
        clear hs1
        go_wp2
        refine wp_region_own (by kernel_rfl) (by kernel_rfl) ?_
        repeat (go_big_quiet_step (fail))
        refine wpQuiet_nil ?_
        rintro _ ⟨y1, rfl⟩
        go_wp2
        go_ret
        exact ⟨congrArg (fun z => Ending.returned (Value.bool z)) hs2.out, _, rfl⟩
      subst hq
      have hs2 := Lib.hid (show eqAll eqLt (l.drop (k + 1)) (r.drop (k + 1)) = R by rw [← hs1]; simp)
      clear hs1
      go_wp2
      refine wp_region_own (by kernel_rfl) (by kernel_rfl) ?_
      repeat (go_big_quiet_step (fail))
      refine wpQuiet_nil ?_
      rintro _ ⟨y1, rfl⟩
      go_wp2
      go_roundw
      case rel => exact ⟨k + 1, hlt, congrArg (Value.int .i64) a6.out, hs2, y1, rfl⟩
      case measure => exact step_less k n hlt a6.out
    · obtain rfl : k = n := by omega
      have hs2 := Lib.hid (show true = R by
        rw [← hs.out, List.drop_of_length_le (by rw [hn'.out]; exact Nat.le_refl _), List.drop_of_length_le (by rw [hm'.out]; exact Nat.le_refl _), eqAll])
      clear hs hlt hk
      go_wp2
      go_ret
      exact ⟨congrArg (fun z => Ending.returned (Value.bool z)) hs2.out, _, rfl⟩
set_option maxHeartbeats 8000000 in
theorem eqs_Set (A B : Sl Se) (K K2 : Se → Prop) (w : World) (hA : A.In w 7 Se.cells K) (hB : B.In w 7 Se.cells K2) (hl : A.l.length ≤ 1048576) :
    Kp Tryz.prog w 119 #[A.v, B.v] (.bool (eqAll eqSe A.l B.l)) := by
  intro y0
  obtain ⟨p, cap, l⟩ := A
  obtain ⟨q, cbp, r⟩ := B
  simp only [Sl.v] at hl ⊢
  obtain ⟨n, hn⟩ : ∃ n, l.length = n := ⟨_, rfl⟩
  obtain ⟨m, hm⟩ : ∃ n, r.length = n := ⟨_, rfl⟩
  have hA := hA.row.plus y0
  have hB := hB.row.plus y0
  obtain ⟨W, hW⟩ : ∃ W, plus w y0 = W := ⟨_, rfl⟩
  rw [hW] at hA hB ⊢
  clear hW
  rw [hn] at hl
  by_cases hne : n = m
  case neg =>
    have hF := Lib.hid (show false = eqAll eqSe l r from (eqAll_length eqSe l r (by omega)).symm)
    rw [hn, hm]
    clear hA hB hl hn hm
    go_enter Tryz.func119, Tryz.ntmps119
    go_wp2
    go_ret
    exact ⟨congrArg (fun z => Ending.returned (Value.bool z)) hF.out, _, (plus_self W).symm⟩
  subst hne
  rw [hn, hm]
  obtain ⟨R, hR⟩ : ∃ R, eqAll eqSe l r = R := ⟨_, rfl⟩
  rw [hR]
  have h0 : eqAll eqSe (l.drop 0) (r.drop 0) = R := hR
  have hA' := Lib.hid hA
  have hB' := Lib.hid hB
  have hn' := Lib.hid hn
  have hm' := Lib.hid hm
  have hl' := Lib.hid hl
  have h0' := Lib.hid h0
  clear hA hB hl hn hm hR h0
  go_enter Tryz.func119, Tryz.ntmps119
  go_wp2
  go_loopw [5, 13] (fun _ iv wr => ∃ k : Nat, k ≤ n ∧ iv = .int .i64 (k : Int) ∧ Hid (eqAll eqSe (l.drop k) (r.drop k) = R) ∧ ∃ y, wr = plus W y) (fun _ iv _ => n - (intOf iv).toNat)
  case atStart => exact ⟨0, Nat.zero_le _, rfl, h0', ⟨#[], W.drawn⟩, (plus_self W).symm⟩
  case round =>
    obtain ⟨k, hk, rfl, hs, y, rfl⟩ := hrel
    by_cases hlt : k < n
    · obtain ⟨a, ha⟩ : ∃ s, l[k]? = some s := ⟨l[k]'(by rw [hn'.out]; exact hlt), List.getElem?_eq_getElem _⟩
      obtain ⟨b, hb⟩ : ∃ s, r[k]? = some s := ⟨r[k]'(by rw [hm'.out]; exact hlt), List.getElem?_eq_getElem _⟩
      obtain ⟨pa, rfl, hc⟩ := hA'.out k a ha
      obtain ⟨pb, rfl, hd⟩ := hB'.out k b hb
      have hs1 : (eqSe a b && eqAll eqSe (l.drop (k + 1)) (r.drop (k + 1))) = R := by rw [← eqAll_drop eqSe l r k a b ha hb]; exact hs.out
      obtain ⟨ak, ⟨av, ah, al⟩, ⟨aw, ai, am⟩⟩ := a
      obtain ⟨bk, ⟨bv, bh, bl⟩, ⟨bw, bi, bm⟩⟩ := b
      have d0 := fun y => (hc.plus y).c0 _ rfl
      have d1 := fun y => (hc.plus y).cs 0 _ rfl
      have d2 := fun y => (hc.plus y).cs 1 _ rfl
      have d3 := fun y => (hc.plus y).cs 2 _ rfl
      have d4 := fun y => (hc.plus y).cs 3 _ rfl
      have d5 := fun y => (hc.plus y).cs 4 _ rfl
      have d6 := fun y => (hc.plus y).cs 5 _ rfl
      have e0 := fun y => (hd.plus y).c0 _ rfl
      have e1 := fun y => (hd.plus y).cs 0 _ rfl
      have e2 := fun y => (hd.plus y).cs 1 _ rfl
      have e3 := fun y => (hd.plus y).cs 2 _ rfl
      have e4 := fun y => (hd.plus y).cs 3 _ rfl
      have e5 := fun y => (hd.plus y).cs 4 _ rfl
      have e6 := fun y => (hd.plus y).cs 5 _ rfl
      simp only at d0 d1 d2 d3 d4 d5 d6 e0 e1 e2 e3 e4 e5 e6
      have a6 := Lib.hid (wr_succ k n hlt hl'.out)
      clear hc hd ha hb hs
      simp only [eqSe, eqLt] at hs1
      by_cases hq : ak = bk
      case neg =>
        have hs2 := Lib.hid (show false = R by rw [← hs1]; simp [hq])
        clear hs1
        go_wp2
        refine wp_region_own (by kernel_rfl) (by kernel_rfl) ?_
        repeat (go_big_quiet_step (fail))
        refine wpQuiet_nil ?_
        rintro _ ⟨y1, rfl⟩
        go_wp2
        go_ret
        exact ⟨congrArg (fun z => Ending.returned (Value.bool z)) hs2.out, _, rfl⟩
      subst hq
      by_cases hq : av = bv
      case neg =>
        have hs2 := Lib.hid (show false = R by rw [← hs1]; simp [hq])
        clear hs1
        go_wp2
        refine wp_region_own (by kernel_rfl) (by kernel_rfl) ?_
        repeat (go_big_quiet_step (fail))
        refine wpQuiet_nil ?_
        rintro _ ⟨y1, rfl⟩
        go_wp2
        go_ret
        exact ⟨congrArg (fun z => Ending.returned (Value.bool z)) hs2.out, _, rfl⟩
      subst hq
      by_cases hq : ah = bh
      case neg =>
        have hs2 := Lib.hid (show false = R by rw [← hs1]; simp [hq])
        clear hs1
        go_wp2
        refine wp_region_own (by kernel_rfl) (by kernel_rfl) ?_
        repeat (go_big_quiet_step (fail))
        refine wpQuiet_nil ?_
        rintro _ ⟨y1, rfl⟩
        go_wp2
        go_ret
        exact ⟨congrArg (fun z => Ending.returned (Value.bool z)) hs2.out, _, rfl⟩
      subst hq
      by_cases hq : al = bl
      case neg =>
        have hs2 := Lib.hid (show false = R by rw [← hs1]; simp [hq])
        clear hs1
        go_wp2
        refine wp_region_own (by kernel_rfl) (by kernel_rfl) ?_
        repeat (go_big_quiet_step (fail))
        refine wpQuiet_nil ?_
        rintro _ ⟨y1, rfl⟩
        go_wp2
        go_ret
        exact ⟨congrArg (fun z => Ending.returned (Value.bool z)) hs2.out, _, rfl⟩
      subst hq
      by_cases hq : aw = bw
      case neg =>
        have hs2 := Lib.hid (show false = R by rw [← hs1]; simp [hq])
        clear hs1
        go_wp2
        refine wp_region_own (by kernel_rfl) (by kernel_rfl) ?_
        repeat (go_big_quiet_step (fail))
        refine wpQuiet_nil ?_
        rintro _ ⟨y1, rfl⟩
        go_wp2
        go_ret
        exact ⟨congrArg (fun z => Ending.returned (Value.bool z)) hs2.out, _, rfl⟩
      subst hq
      by_cases hq : ai = bi
      case neg =>
        have hs2 := Lib.hid (show false = R by rw [← hs1]; simp [hq])
        clear hs1
        go_wp2
        refine wp_region_own (by kernel_rfl) (by kernel_rfl) ?_
        repeat (go_big_quiet_step (fail))
        refine wpQuiet_nil ?_
        rintro _ ⟨y1, rfl⟩
        go_wp2
        go_ret
        exact ⟨congrArg (fun z => Ending.returned (Value.bool z)) hs2.out, _, rfl⟩
      subst hq
      by_cases hq : am = bm
      case neg =>
        have hs2 := Lib.hid (show false = R by rw [← hs1]; simp [hq])
        clear hs1
        go_wp2
        refine wp_region_own (by kernel_rfl) (by kernel_rfl) ?_
        repeat (go_big_quiet_step (fail))
        refine wpQuiet_nil ?_
        rintro _ ⟨y1, rfl⟩
        go_wp2
        go_ret
        exact ⟨congrArg (fun z => Ending.returned (Value.bool z)) hs2.out, _, rfl⟩
      subst hq
      have hs2 := Lib.hid (show eqAll eqSe (l.drop (k + 1)) (r.drop (k + 1)) = R by rw [← hs1]; simp)
      clear hs1
      go_wp2
      refine wp_region_own (by kernel_rfl) (by kernel_rfl) ?_
      repeat (go_big_quiet_step (fail))
      refine wpQuiet_nil ?_
      rintro _ ⟨y1, rfl⟩
      go_wp2
      go_roundw
      case rel => exact ⟨k + 1, hlt, congrArg (Value.int .i64) a6.out, hs2, y1, rfl⟩
      case measure => exact step_less k n hlt a6.out
    · obtain rfl : k = n := by omega
      have hs2 := Lib.hid (show true = R by
        rw [← hs.out, List.drop_of_length_le (by rw [hn'.out]; exact Nat.le_refl _), List.drop_of_length_le (by rw [hm'.out]; exact Nat.le_refl _), eqAll])
      clear hs hlt hk
      go_wp2
      go_ret
      exact ⟨congrArg (fun z => Ending.returned (Value.bool z)) hs2.out, _, rfl⟩
end Go.Proofs.YtddpmfilkhegmaaGreat
