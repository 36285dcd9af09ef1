/-
  WHAT IS PROVED HERE: what the document's weigh of layer 4 hands back, of any expression tree that lies in memory and is not too great.
-/
import Derived.Test.YtpnaibfefpeikaaRows
import Derived.Test.YtpnaibfefpeikaaSa
import Derived.WalkKit
import Derived.Lib.Hide
import Derived.WalkSpells
import Derived.WalkLawsBesides
namespace Go.Proofs.Ytpnaibfefpeikaa
open Go.RowKit
theorem wr_in (n : Int) (h : -9223372036854775808 ≤ n ∧ n ≤ 9223372036854775807) : wrap64 n = n := by unfold wrap64; omega
theorem wr_succ (k n : Nat) (h : k < n) (hn : n ≤ 1048576) : wrap64 ((k : Int) + 1) = ((k + 1 : Nat) : Int) := by
  rw [wr_in _ (by omega)]
  simp
theorem step_less (k n : Nat) (h : k < n) (ha : wrap64 ((k : Int) + 1) = ((k + 1 : Nat) : Int)) : n - (intOf (.int .i64 (wrap64 ((k : Int) + 1)))).toNat < n - (intOf (.int .i64 (k : Int))).toNat := by
  rw [ha]
  simp only [intOf, Int.toNat_natCast]
  omega
theorem CellsAt.c0 {w : World} {a : Addr} {cs : List Value} (h : CellsAt w a cs) (v : Value) (hj : cs[0]? = some v) : w.cell? a = some v := h 0 v hj
theorem CellsAt.cs {w : World} {a : Addr} {cs : List Value} (h : CellsAt w a cs) (j : Nat) (v : Value) (hj : cs[j + 1]? = some v) : w.cell? ⟨a.block, a.off + (j + 1), none⟩ = some v := h (j + 1) v hj
theorem sum_take_succ {α : Type} (f : α → Nat) (l : List α) (k : Nat) (x : α) (h : l[k]? = some x) : ((l.take (k + 1)).map f).sum = ((l.take k).map f).sum + f x := by
  rw [List.take_add_one, h]
  simp
theorem sum_take_le {α : Type} (f : α → Nat) (l : List α) (k : Nat) : ((l.take k).map f).sum ≤ (l.map f).sum := by
  have : (l.map f).sum = ((l.take k).map f).sum + ((l.drop k).map f).sum := by
    rw [← List.sum_append, ← List.map_append, List.take_append_drop]
  omega
theorem length_le_sum {α : Type} (f : α → Nat) (hf : ∀ x, 1 ≤ f x) : ∀ l : List α, l.length ≤ (l.map f).sum
  | [] => by simp
  | x :: l => by have := length_le_sum f hf l; have := hf x; simp; omega
theorem Ex.wt_pos (e : Ex) : 1 ≤ e.wt := by rw [Ex.wt_eq]; omega
theorem le_sum_of {α : Type} (f : α → Nat) (l : List α) (x : α) (h : x ∈ l) : f x ≤ (l.map f).sum := by
  obtain ⟨k, hk⟩ := List.mem_iff_getElem?.1 h
  have := sum_take_succ f l k x hk
  have := sum_take_le f l (k + 1)
  omega
/-- So many, and what the first k of a list bear. -/
def tally {α : Type} (f : α → Nat) (m : Nat) (l : List α) (k : Nat) : Nat := m + ((l.take k).map f).sum
theorem tally_zero {α : Type} (f : α → Nat) (m : Nat) (l : List α) : tally f m l 0 = m := by simp [tally]
theorem tally_succ {α : Type} (f : α → Nat) (m : Nat) (l : List α) (k : Nat) (x : α) (h : l[k]? = some x) : tally f m l (k + 1) = tally f m l k + f x := by
  unfold tally
  rw [sum_take_succ f l k x h]
  omega
theorem tally_le {α : Type} (f : α → Nat) (m : Nat) (l : List α) (k : Nat) : tally f m l k ≤ m + (l.map f).sum := by
  have := sum_take_le f l k
  unfold tally
  omega
theorem tally_all {α : Type} (f : α → Nat) (m : Nat) (l : List α) (k : Nat) (h : l.length = k) : tally f m l k = m + (l.map f).sum := by
  unfold tally
  rw [List.take_of_length_le (by omega)]
set_option maxHeartbeats 8000000 in
theorem ref_weigh : ∀ (e : Ex) (w : World), e.In w → e.wt ≤ 1048576 → Calls Try.prog 16 #[e.val] w fun r w' => r = .returned (.int .i64 (e.wt : Int)) ∧ ∃ x, w' = plus w x := by
  intro e
  induction e using Ex.ind with
  | _ e ih =>
  intro w hin hb
  obtain ⟨op, ⟨lw, lh, ll⟩, hd, nm, eh, el, p, cap, args⟩ := e
  obtain ⟨_, _, _, _, _, h1, h2, h3, h4, hrow, hkids⟩ := hin
  have hwt := Ex.wt_eq (.mk op ⟨lw, lh, ll⟩ hd nm eh el p cap args)
  simp only [Ex.args, Ex.head, Ex.name, Ex.p, Ex.cap] at ih h1 h2 h3 h4 hrow hkids hwt
  have hR : ∃ R, Ex.wt (.mk op ⟨lw, lh, ll⟩ hd nm eh el p cap args) = R := ⟨_, rfl⟩
  obtain ⟨R, hR⟩ := hR
  rw [hR] at hb hwt ⊢
  clear hR
  show Calls Try.prog 16 #[.agg #[.int .u8 op, .int .i64 lw, .int .u64 lh, .int .u64 ll, .string hd, .string nm, .int .i64 eh, .int .i64 el, .slice p args.length cap]] w _
  have hn : ∃ n, args.length = n := ⟨_, rfl⟩
  obtain ⟨n, hn⟩ := hn
  rw [hn]
  have ih' := Lib.hid ih
  have hrow' := Lib.hid hrow
  have hkids' := Lib.hid hkids
  have hwt' := Lib.hid hwt
  have hb' := Lib.hid hb
  have hn' := Lib.hid hn
  have hl : n ≤ 1048576 := by have := length_le_sum Ex.wt Ex.wt_pos args; omega
  have hl' := Lib.hid hl
  clear hl ih hrow hkids hwt hb hn h1 h2 h3 h4
  go_enter Try.func16, Try.ntmps16
  go_wp2
  obtain ⟨W, hW, hB, hs, ca, fa⟩ := box1 w _ 38
  rw [← hW]
  have c8 := ca 8 (some (.slice p n cap)) rfl
  obtain ⟨z, hz⟩ := plus_of_below hB
  have hN : wrap64 (wrap64 (1 + (hd.size : Int)) + (nm.size : Int)) = (tally Ex.wt (1 + hd.size + nm.size) args 0 : Int) := by
    have a1 := hwt'.out
    have a2 := hb'.out
    rw [wr_in (1 + (hd.size : Int)) (by omega), wr_in _ (by omega), tally_zero]
    omega
  rw [hN]
  have hz' := Lib.hid hz
  clear hW ca fa hz hN
  go_loopw [3, 4] (fun nv iv wr => ∃ k : Nat, k ≤ n ∧ iv = .int .i64 (k : Int) ∧ nv = .int .i64 (tally Ex.wt (1 + hd.size + nm.size) args k : Int) ∧ ∃ y, wr = plus W y) (fun _ iv _ => n - (intOf iv).toNat)
  case atStart => exact ⟨0, Nat.zero_le _, rfl, rfl, ⟨#[], W.drawn⟩, (plus_self W).symm⟩
  case round =>
    obtain ⟨k, hk, rfl, rfl, y, rfl⟩ := hrel
    by_cases hlt : k < n
    · obtain ⟨e, he⟩ : ∃ e, args[k]? = some e := ⟨args[k]'(by rw [hn'.out]; exact hlt), List.getElem?_eq_getElem _⟩
      obtain ⟨a, rfl, hc⟩ := hrow'.out k e he
      have hmem : e ∈ args := List.mem_of_getElem? he
      have hsum := tally_succ Ex.wt (1 + hd.size + nm.size) args k e he
      have hle := tally_le Ex.wt (1 + hd.size + nm.size) args (k + 1)
      have hew := le_sum_of Ex.wt args e hmem
      have hkid := fun y => ih'.out e hmem (plus W y) (by rw [hz'.out, plus_plus]; exact (hkids'.out e hmem).plus _) (by have := hwt'.out; have := hb'.out; omega)
      have hkid' := Lib.hid hkid
      have hc' : ∀ y, CellsAt (plus W y) (a.add (k * 9)) e.cells := fun y => by rw [hz'.out, plus_plus]; exact hc.plus _
      have d0 := fun y => (hc' y).c0 _ rfl
      have d1 := fun y => (hc' y).cs 0 _ rfl
      have d2 := fun y => (hc' y).cs 1 _ rfl
      have d3 := fun y => (hc' y).cs 2 _ rfl
      have d4 := fun y => (hc' y).cs 3 _ rfl
      have d5 := fun y => (hc' y).cs 4 _ rfl
      have d6 := fun y => (hc' y).cs 5 _ rfl
      have d7 := fun y => (hc' y).cs 6 _ rfl
      have d8 := fun y => (hc' y).cs 7 _ rfl
      have hsum' := Lib.hid hsum
      have hle' := Lib.hid hle
      clear hc' hc hsum hle hew hkid hmem he
      go_wp2_with (go_at_call 16; refine (hkid'.out _).mono ?_; rintro r w' ⟨rfl, x, rfl⟩)
      have a1 := hwt'.out
      have a2 := hb'.out
      have a3 := hsum'.out
      have a4 := hle'.out
      have a6 := wr_succ k n hlt hl'.out
      have a7 : wrap64 ((tally Ex.wt (1 + hd.size + nm.size) args k : Int) + (e.wt : Int)) = (tally Ex.wt (1 + hd.size + nm.size) args (k + 1) : Int) := by
        rw [wr_in _ (by omega), a3]
        simp
      clear a1 a2 a3 a4
      go_roundw
      case rel => exact ⟨k + 1, hlt, congrArg (Value.int .i64) a6, congrArg (Value.int .i64) a7, _, plus_plus W y x⟩
      case measure => exact step_less k n hlt a6
    · obtain rfl : k = n := by omega
      have hR : (tally Ex.wt (1 + hd.size + nm.size) args k : Int) = (R : Int) := by
        have := hwt'.out
        rw [tally_all Ex.wt _ args k hn'.out]
        omega
      have hR' := Lib.hid hR
      clear hR
      go_wp2
      go_ret
      exact ⟨congrArg (fun z => Ending.returned (Value.int .i64 z)) hR'.out, by rw [hz'.out, plus_plus]; exact ⟨_, rfl⟩⟩
end Go.Proofs.Ytpnaibfefpeikaa
