/-
  WHAT IS PROVED HERE: what Depth of the landed ast hands back, of any expression that lies in memory and is not too great.
-/
import Derived.Test.YtddpmfilkhegmaaGreatRows
import Derived.Test.YtddpmfilkhegmaaGreatHe
import Derived.WalkKit
import Derived.Lib.Hide
import Derived.WalkSpells
import Derived.WalkLawsBesides
import Derived.Laws.EntriesVeiled
import Derived.Shelf.Abstract
namespace Go.Proofs.YtddpmfilkhegmaaGreat
open Go.RowKit
/-- The deepest of these, and of so much. -/
def Ex.dm (m : Nat) : List Ex → Nat
  | [] => m
  | e :: l => Ex.dm (max m e.dp) l
theorem Ex.dps_dm : ∀ (l : List Ex) (m : Nat), Ex.dps (m + 1) l = Ex.dm m l + 1
  | [], m => by rw [Ex.dps, Ex.dm]
  | e :: l, m => by
    rw [Ex.dps, Ex.dm]
    have : (if m + 1 < 1 + e.dp then 1 + e.dp else m + 1) = max m e.dp + 1 := by split <;> omega
    rw [this, Ex.dps_dm l]
theorem Ex.dp_dm (e : Ex) : e.dp = Ex.dm 0 e.args + 1 := by rw [Ex.dp_eq, show (1 : Nat) = 0 + 1 from rfl, Ex.dps_dm]
theorem Ex.dm_take (l : List Ex) (m k : Nat) (x : Ex) (h : l[k]? = some x) : Ex.dm m (l.take (k + 1)) = max (Ex.dm m (l.take k)) x.dp := by
  induction l generalizing m k with
  | nil => simp at h
  | cons e l ih =>
    cases k with
    | zero =>
      simp only [List.getElem?_cons_zero, Option.some.injEq] at h
      subst h
      simp [Ex.dm]
    | succ k =>
      simp only [List.getElem?_cons_succ] at h
      simp only [List.take_succ_cons, Ex.dm]
      exact ih _ k h
def fv_depth (c : Nat) : Value := .func (.func 46) #[] #[.pointer (some ⟨c, 0, none⟩)]
set_option maxRecDepth 100000 in
set_option maxHeartbeats 8000000 in
theorem depth1 : ∀ (e : Ex) (w : World) (c : Nat), e.In w → e.wt ≤ 1048576 → w.cell? ⟨c, 0, none⟩ = some (fv_depth c) → Kp Tryz.prog w 46 #[.agg e.cells.toArray, .pointer (some ⟨c, 0, none⟩)] (.int .i64 (e.dp : Int)) := by
  intro e
  induction e using Ex.ind with
  | _ e ih =>
  intro w c hin hb hc y0
  have hin := hin.plus y0
  have hc := cell_keep hc y0
  obtain ⟨V, hV⟩ : ∃ V, plus w y0 = V := ⟨_, rfl⟩
  rw [hV] at hin hc ⊢
  clear hV
  obtain ⟨op, ⟨lw, lh, ll⟩, hd, nm, eh, el, p, cap, args⟩ := e
  obtain ⟨_, _, _, _, _, _, _, _, _, hrow, hkids⟩ := hin
  have hwt := Ex.wt_eq (.mk op ⟨lw, lh, ll⟩ hd nm eh el p cap args)
  have hdp := Ex.dp_dm (.mk op ⟨lw, lh, ll⟩ hd nm eh el p cap args)
  have hdl := Ex.dp_le (.mk op ⟨lw, lh, ll⟩ hd nm eh el p cap args)
  simp only [Ex.args, Ex.head, Ex.name, Ex.p] at ih hrow hkids hwt hdp
  rw [hwt] at hb
  show Calls Tryz.prog 46 #[.agg #[.int .u8 op, .int .i64 lw, .int .u64 lh, .int .u64 ll, .string hd, .string nm, .int .i64 eh, .int .i64 el, .slice p args.length cap], .pointer (some ⟨c, 0, none⟩)] V _
  obtain ⟨n, hn⟩ : ∃ n, args.length = n := ⟨_, rfl⟩
  have hl : n ≤ 1048576 := by have := length_le_sum Ex.wt Ex.wt_pos args; omega
  rw [hn]
  obtain ⟨R, hR⟩ : ∃ R, Ex.dp (.mk op ⟨lw, lh, ll⟩ hd nm eh el p cap args) = R := ⟨_, rfl⟩
  have hdl : R ≤ 1048576 := by rw [← hR]; omega
  rw [hR] at hdp ⊢
  have ih' := Lib.hid ih
  have hrow' := Lib.hid hrow
  have hkids' := Lib.hid hkids
  have hb' := Lib.hid hb
  have hn' := Lib.hid hn
  have hl' := Lib.hid hl
  have hdp' := Lib.hid hdp
  have hdl' := Lib.hid hdl
  have hc' := Lib.hid hc
  clear hl ih hrow hkids hb hn hdp hdl hR hwt hc
  go_enter Tryz.func46, Tryz.ntmps46
  go_wp2
  obtain ⟨W, hW, hB, hs, ca, fa⟩ := box1 V _ 38
  rw [← hW]
  obtain ⟨z, hz⟩ := plus_of_below hB
  have hz' := Lib.hid hz
  clear hW ca fa hz hB hs
  go_loopw [4, 6, 10] (fun nv _ iv wr => ∃ k : Nat, k ≤ n ∧ iv = .int .i64 (k : Int) ∧ nv = .int .i64 (Ex.dm 0 (args.take k) : Int) ∧ ∃ y, wr = plus W y) (fun _ _ iv _ => n - (intOf iv).toNat)
  case atStart => exact ⟨0, Nat.zero_le _, rfl, congrArg (Value.int .i64) (by simp [Ex.dm]), ⟨#[], W.drawn⟩, (plus_self W).symm⟩
  case round =>
    obtain ⟨k, hk, rfl, rfl, y, rfl⟩ := hrel
    by_cases hlt : k < n
    · obtain ⟨e, he⟩ : ∃ e, args[k]? = some e := ⟨args[k]'(by rw [hn'.out]; exact hlt), List.getElem?_eq_getElem _⟩
      obtain ⟨a, rfl, hc⟩ := hrow'.out k e he
      have hmem : e ∈ args := List.mem_of_getElem? he
      have hew := le_sum_of Ex.wt args e hmem
      have hst := Ex.dm_take args 0 k e he
      have hcW : W.cell? ⟨c, 0, none⟩ = some (fv_depth c) := cell_at hz'.out hc'.out
      have hkid := (ih'.out e hmem W c (hz'.out ▸ (hkids'.out e hmem).plus z) (by have := hb'.out; omega) hcW).pure
      obtain ⟨D, hD⟩ : ∃ D, e.dp = D := ⟨_, rfl⟩
      rw [hD] at hkid hst
      obtain ⟨D1, hD1⟩ : ∃ D, Ex.dm 0 (args.take (k + 1)) = D := ⟨_, rfl⟩
      obtain ⟨D0, hD0⟩ : ∃ D, Ex.dm 0 (args.take k) = D := ⟨_, rfl⟩
      rw [hD1, hD0] at hst
      rw [hD0]
      have hmax : (if D0 < D then (D : Int) else (D0 : Int)) = (D1 : Int) := by rw [hst]; split <;> omega
      have hD1' := Lib.hid hD1
      have hc2 : ∀ y, CellsAt (plus W y) (a.add (k * 9)) e.cells := fun y => by rw [hz'.out, plus_plus]; exact hc.plus _
      have hcv := fun y X => cell_alloc (cell_keep hcW y) X
      unfold fv_depth at hcv
      obtain ⟨eop, ⟨elw, elh, ell⟩, ehd, enm, eeh, eel, ep, ecap, eargs⟩ := e
      have hkid : PureIn Tryz.prog W 46 #[.agg #[.int .u8 eop, .int .i64 elw, .int .u64 elh, .int .u64 ell, .string ehd, .string enm, .int .i64 eeh, .int .i64 eel, .slice ep eargs.length ecap], .pointer (some ⟨c, 0, none⟩)] (.int .i64 (D : Int)) := hkid
      have d0 := fun y => (hc2 y).c0 _ rfl
      have d1 := fun y => (hc2 y).cs 0 _ rfl
      have d2 := fun y => (hc2 y).cs 1 _ rfl
      have d3 := fun y => (hc2 y).cs 2 _ rfl
      have d4 := fun y => (hc2 y).cs 3 _ rfl
      have d5 := fun y => (hc2 y).cs 4 _ rfl
      have d6 := fun y => (hc2 y).cs 5 _ rfl
      have d7 := fun y => (hc2 y).cs 6 _ rfl
      have d8 := fun y => (hc2 y).cs 7 _ rfl
      simp only [Ex.op, Ex.lit, Ex.head, Ex.name, Ex.hi, Ex.lo, Ex.p, Ex.cap, Ex.args] at d0 d1 d2 d3 d4 d5 d6 d7 d8
      have hkid' := Lib.hid hkid
      have a6 := Lib.hid (wr_succ k n hlt hl'.out)
      clear hc2 hc hew hkid hmem he hst hD hD0 hD1 hcW
      go_wp2_with (refine pure_call1 hkid'.out ?_; rintro r w' ⟨rfl, x, rfl⟩)
      go_roundw
      case rel => exact ⟨k + 1, hlt, congrArg (Value.int .i64) a6.out, congrArg (Value.int .i64) (by rw [hD1'.out]), x, rfl⟩
      case measure => exact step_less k n hlt a6.out
    · obtain rfl : k = n := by omega
      have hT1 : Ex.dm 0 (args.take k) = R - 1 := by rw [List.take_of_length_le (by rw [hn'.out]; exact Nat.le_refl _)]; have := hdp'.out; omega
      have hw : wrap64 ((Ex.dm 0 (args.take k) : Int) + 1) = (R : Int) := by
        have := hdp'.out
        have := hdl'.out
        rw [hT1, wr_in _ (by omega)]
        omega
      generalize Ex.dm 0 (args.take k) = M at hw ⊢
      have hw' := Lib.hid hw
      clear hT1 hlt hk hw
      go_wp2
      go_ret
      exact ⟨congrArg (fun z => Ending.returned (Value.int .i64 z)) hw'.out, by rw [hz'.out, plus_plus]; exact ⟨_, rfl⟩⟩
set_option maxRecDepth 100000 in
set_option maxHeartbeats 8000000 in
theorem ast_depth (e : Ex) (w : World) (he : e.In w) (wa : e.wt ≤ 1048576) : Kp Tryz.prog w 11 #[.agg e.cells.toArray] (.int .i64 (e.dp : Int)) := by
  intro y0
  have he := he.plus y0
  obtain ⟨V, hV⟩ : ∃ V, plus w y0 = V := ⟨_, rfl⟩
  rw [hV] at he ⊢
  clear hV
  have hq := fun (W : World) (c : Nat) (z : Ext) (hz : W = plus V z) (hc : W.cell? ⟨c, 0, none⟩ = some (fv_depth c)) => calls_self (depth1 e W c (hz ▸ he.plus z) wa hc)
  obtain ⟨S, hS⟩ : ∃ S, e.dp = S := ⟨_, rfl⟩
  rw [hS] at hq ⊢
  clear hS he wa
  obtain ⟨op, ⟨lw, lh, ll⟩, hd, nm, eh, el, p, cap, args⟩ := e
  have hq : ∀ (W : World) (c : Nat) (z : Ext), W = plus V z → W.cell? ⟨c, 0, none⟩ = some (fv_depth c) → Calls Tryz.prog 46 #[.agg #[.int .u8 op, .int .i64 lw, .int .u64 lh, .int .u64 ll, .string hd, .string nm, .int .i64 eh, .int .i64 el, .slice p args.length cap], .pointer (some ⟨c, 0, none⟩)] W fun e w' => e = .returned (.int .i64 (S : Int)) ∧ ∃ x, w' = plus W x := hq
  show Calls Tryz.prog 11 #[.agg #[.int .u8 op, .int .i64 lw, .int .u64 lh, .int .u64 ll, .string hd, .string nm, .int .i64 eh, .int .i64 el, .slice p args.length cap]] V _
  generalize args.length = n1 at hq ⊢
  have hq' := Lib.hid hq
  clear hq
  have hmf : ∀ (fn : Fn) (first cap : Array Value) (w : World), (Instr.makeFunc fn first cap).run Tryz.prog w = .ok (.func fn first cap) w := fun _ _ _ _ => rfl
  go_enter Tryz.func11, Tryz.ntmps11
  go_wp2_with fail
  obtain ⟨W, hW, ⟨z, hz⟩, hc⟩ := clo2 V _ _ _
  rw [hW]
  have hz' := Lib.hid hz
  refine (hq'.out W _ z hz hc).mono ?_
  clear hW hz hc
  rintro r w' ⟨rfl, x, rfl⟩
  go_wp2
  go_ret
  exact ⟨rfl, by rw [hz'.out, plus_plus]; exact ⟨_, rfl⟩⟩
end Go.Proofs.YtddpmfilkhegmaaGreat
