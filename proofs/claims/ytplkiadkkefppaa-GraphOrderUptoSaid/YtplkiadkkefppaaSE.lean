/-
  WHAT IS PROVED HERE: what the document's weighs of layer 4 hands back, of any statements that lie in memory and are not too great. · what the document's Depth of layer 4 hands back, of any expression tree that lies in memory and is not too great. · what the document's SameNames, SameFields and SameLits of layer 4 hand back, of any such slices that lie in memory and are not too great. Written by gen/same3.py.
-/
import Derived.Test.YtplkiadkkefppaaRows
import Derived.Test.YtplkiadkkefppaaSA
import Derived.WalkKit
import Derived.Lib.Hide
import Derived.WalkSpells
import Derived.WalkLawsBesides
namespace Go.Proofs.Ytplkiadkkefppaa
open Go.RowKit
theorem wr_sum (t h n E A B u : Nat) (hu : u = t + (1 + h + n + E + A + B)) (hb : u ≤ 1048576) : wrap64 (wrap64 (wrap64 (wrap64 (wrap64 (wrap64 ((t : Int) + 1) + h) + n) + E) + A) + B) = (u : Int) := by
  rw [wr_in ((t : Int) + 1) (by omega), wr_in ((t : Int) + 1 + h) (by omega), wr_in ((t : Int) + 1 + h + n) (by omega), wr_in ((t : Int) + 1 + h + n + E) (by omega), wr_in ((t : Int) + 1 + h + n + E + A) (by omega), wr_in _ (by omega)]
  omega
theorem PureIn.of_plus {P : Program} {w : World} {f : FuncId} {args : Array Value} {v : Value} (h : ∀ w', (∃ y, w' = plus w y) → Calls P f args w' fun e w'' => e = .returned v ∧ ∃ x, w'' = plus w' x) : PureIn P w f args v := fun y =>
  (h _ ⟨y, rfl⟩).mono fun _ _ ⟨he, x, hx⟩ => ⟨he, by rw [hx, plus_plus]; exact ⟨_, rfl⟩⟩
theorem PureIn.plus {P : Program} {w : World} {f : FuncId} {args : Array Value} {v : Value} (h : PureIn P w f args v) (z : Ext) : ∀ y, Calls P f args (plus (plus w z) y) fun e w' => e = .returned v ∧ ∃ x, w' = Go.Proofs.Ytplkiadkkefppaa.plus w x := fun y => by
  rw [plus_plus]; exact h _
theorem weigh_in (e : Ex) (w : World) (h : e.In w) (hb : e.wt ≤ 1048576) : PureIn Try.prog w 26 #[e.val] (.int .i64 (e.wt : Int)) :=
  PureIn.of_plus fun _ ⟨y, hy⟩ => ref_weigh e _ (hy ▸ h.plus y) hb
def St.thnS (s : St) : Sl St := ⟨s.p, s.cap, s.thn⟩
def St.elsS (s : St) : Sl St := ⟨s.q, s.cbp, s.els⟩
def WeighsAt (L : Sl St) : Prop := ∀ w : World, L.In w 14 St.cells (St.In w) → L.size St.sz ≤ 1048576 → PureIn Try.prog w 24 #[L.v] (.int .i64 (L.size St.sz : Int))
theorem St.sz_pos (s : St) : 1 ≤ s.sz := by rw [St.sz_eq]; omega
set_option maxHeartbeats 8000000 in
theorem weighs_of (L : Sl St) (ih : ∀ x ∈ L.l, WeighsAt x.thnS ∧ WeighsAt x.elsS) : WeighsAt L := by
  intro w hin hb y0
  obtain ⟨p, cap, l⟩ := L
  obtain ⟨h1, h2, hrow, hkids⟩ := hin
  simp only [Sl.size, Sl.v] at hb h1 hrow hkids ih ⊢
  have hn : ∃ n, l.length = n := ⟨_, rfl⟩
  obtain ⟨n, hn⟩ := hn
  have hl : n ≤ 1048576 := by have := length_le_sum St.sz St.sz_pos l; omega
  rw [hn]
  have hR : ∃ R, (l.map St.sz).sum = R := ⟨_, rfl⟩
  obtain ⟨R, hR⟩ := hR
  rw [hR] at hb ⊢
  have ih' := Lib.hid ih
  have hrow' := Lib.hid (hrow.plus y0)
  have hkids' := Lib.hid (fun x hx => (hkids x hx).plus y0)
  have hR' := Lib.hid hR
  have hb' := Lib.hid hb
  have hn' := Lib.hid hn
  have hl' := Lib.hid hl
  clear hrow hkids hb hn hl hR h1 h2 ih
  obtain ⟨W, hW⟩ : ∃ W, plus w y0 = W := ⟨_, rfl⟩
  rw [hW] at hrow' hkids' ⊢
  have hW' := Lib.hid hW
  clear hW
  go_enter Try.func24, Try.ntmps24
  go_wp2
  go_loopw [3, 4] (fun nv iv wr => ∃ k : Nat, k ≤ n ∧ iv = .int .i64 (k : Int) ∧ nv = .int .i64 (tally St.sz 0 l k : Int) ∧ ∃ y, wr = plus W y) (fun _ iv _ => n - (intOf iv).toNat)
  case atStart => exact ⟨0, Nat.zero_le _, rfl, congrArg (Value.int .i64) (by rw [tally_zero]; rfl), ⟨#[], W.drawn⟩, (plus_self W).symm⟩
  case round =>
    obtain ⟨k, hk, rfl, rfl, y, rfl⟩ := hrel
    by_cases hlt : k < n
    · obtain ⟨s, hs⟩ : ∃ s, l[k]? = some s := ⟨l[k]'(by rw [hn'.out]; exact hlt), List.getElem?_eq_getElem _⟩
      obtain ⟨a, rfl, hc⟩ := hrow'.out k s hs
      have a3 := tally_succ St.sz 0 l k s hs
      have a4 := tally_le St.sz 0 l (k + 1)
      have hmem : s ∈ l := List.mem_of_getElem? hs
      obtain ⟨i1, i2⟩ := ih'.out s hmem
      have hst := hkids'.out s hmem
      obtain ⟨kind, hd, nm, e, sp, scap, thn, sq, scbp, els⟩ := s
      have hsz := St.sz_eq (.mk kind hd nm e sp scap thn sq scbp els)
      obtain ⟨_, _, _, _, he, l1, l2, l3, l4, l5, l6, l7, l8⟩ := hst
      simp only [St.head, St.name, St.e, St.p, St.cap, St.thn, St.q, St.cbp, St.els] at he l1 l2 l3 l4 l5 l6 l7 l8 hsz
      have hS : ∃ S, St.sz (.mk kind hd nm e sp scap thn sq scbp els) = S := ⟨_, rfl⟩
      obtain ⟨S, hS⟩ := hS
      rw [hS] at hsz a3
      have b0 : S ≤ 1048576 := by have := hb'.out; have := hR'.out; omega
      have q1 := weigh_in e W he (by omega)
      have q2 := i1 W ⟨l1, l2, l3, l4⟩ (show (thn.map St.sz).sum ≤ 1048576 by omega)
      have q3 := i2 W ⟨l5, l6, l7, l8⟩ (show (els.map St.sz).sum ≤ 1048576 by omega)
      simp only [Sl.size, Sl.v, St.thnS, St.elsS, St.p, St.cap, St.thn, St.q, St.cbp, St.els] at q2 q3
      obtain ⟨eop, ⟨elw, elh, ell⟩, ehd, enm, eeh, eel, ep, ecap, eargs⟩ := e
      have d0 := fun y => (hc.plus y).c0 _ rfl
      have d1 := fun y => (hc.plus y).cs 0 _ rfl
      have d2 := fun y => (hc.plus y).cs 1 _ rfl
      have d3 := fun y => (hc.plus y).cs 2 _ rfl
      have d4 := fun y => (hc.plus y).cs 3 _ rfl
      have d5 := fun y => (hc.plus y).cs 4 _ rfl
      have d6 := fun y => (hc.plus y).cs 5 _ rfl
      have d7 := fun y => (hc.plus y).cs 6 _ rfl
      have d8 := fun y => (hc.plus y).cs 7 _ rfl
      have d9 := fun y => (hc.plus y).cs 8 _ rfl
      have d10 := fun y => (hc.plus y).cs 9 _ rfl
      have d11 := fun y => (hc.plus y).cs 10 _ rfl
      have d12 := fun y => (hc.plus y).cs 11 _ rfl
      have d13 := fun y => (hc.plus y).cs 12 _ rfl
      simp only [St.kind, St.head, St.name, St.e, St.p, St.cap, St.thn, St.q, St.cbp, St.els, Ex.op, Ex.lit, Ex.head, Ex.name, Ex.hi, Ex.lo, Ex.p, Ex.cap, Ex.args] at d0 d1 d2 d3 d4 d5 d6 d7 d8 d9 d10 d11 d12 d13
      have q1 : PureIn Try.prog W 26 #[.agg #[.int .u8 eop, .int .i64 elw, .int .u64 elh, .int .u64 ell, .string ehd, .string enm, .int .i64 eeh, .int .i64 eel, .slice ep eargs.length ecap]] _ := q1
      have hE : ∃ E, Ex.wt (.mk eop ⟨elw, elh, ell⟩ ehd enm eeh eel ep ecap eargs) = E := ⟨_, rfl⟩
      obtain ⟨E, hE⟩ := hE
      rw [hE] at q1 hsz
      have hA : ∃ A, (thn.map St.sz).sum = A := ⟨_, rfl⟩
      obtain ⟨A, hA⟩ := hA
      rw [hA] at q2 hsz
      have hB : ∃ B, (els.map St.sz).sum = B := ⟨_, rfl⟩
      obtain ⟨B, hB⟩ := hB
      rw [hB] at q3 hsz
      have q1' := Lib.hid q1
      have q2' := Lib.hid q2
      have q3' := Lib.hid q3
      have a6 := wr_succ k n hlt hl'.out
      have hsz' := Lib.hid hsz
      have a3' := Lib.hid a3
      have a4' := Lib.hid a4
      have b0' := Lib.hid b0
      clear hE hA hB a3 a4 hs hc he l1 l2 l3 l4 l5 l6 l7 l8 hS i1 i2 q1 q2 q3 hsz hmem b0
      go_wp2
      refine wp_region_own (by kernel_rfl) (by kernel_rfl) ?_
      repeat (go_big_quiet_step (first | (with_reducible exact q1'.out _) | (with_reducible exact q2'.out _) | (with_reducible exact q3'.out _)))
      refine wpQuiet_nil ?_
      rintro _ ⟨y1, rfl⟩
      have a7 := wr_sum (tally St.sz 0 l k) hd.size nm.size E A B (tally St.sz 0 l (k + 1)) (by rw [a3'.out, hsz'.out]) (by have := a4'.out; have := hR'.out; have := hb'.out; omega)
      have a7' := Lib.hid a7
      have a6' := Lib.hid a6
      clear a6 a7
      go_wp2
      go_roundw
      case rel => exact ⟨k + 1, hlt, congrArg (Value.int .i64) a6'.out, congrArg (Value.int .i64) a7'.out, y1, rfl⟩
      case measure => exact step_less k n hlt a6'.out
    · obtain rfl : k = n := by omega
      have hT : (tally St.sz 0 l k : Int) = (R : Int) := by
        have := hR'.out
        rw [tally_all St.sz _ l k hn'.out]
        omega
      have hT' := Lib.hid hT
      clear hT
      go_wp2
      go_ret
      exact ⟨congrArg (fun z => Ending.returned (Value.int .i64 z)) hT'.out, by rw [← hW'.out, plus_plus]; exact ⟨_, rfl⟩⟩
theorem weighs_at (L : Sl St) : WeighsAt L :=
  weighs_of L fun x _ => St.ind (Q := fun s => WeighsAt s.thnS ∧ WeighsAt s.elsS) (fun s h1 h2 => ⟨weighs_of s.thnS h1, weighs_of s.elsS h2⟩) x
end Go.Proofs.Ytplkiadkkefppaa
namespace Go.Proofs.Ytplkiadkkefppaa
open Go.RowKit
mutual
/-- How deep it is. -/
def Ex.dp : Ex → Nat
  | .mk _ _ _ _ _ _ _ _ args => Ex.dps 1 args
def Ex.dps (m : Nat) : List Ex → Nat
  | [] => m
  | e :: l => Ex.dps (if m < 1 + e.dp then 1 + e.dp else m) l
end
theorem Ex.dp_eq (e : Ex) : e.dp = Ex.dps 1 e.args := by cases e; rw [Ex.dp]; rfl
theorem Ex.dps_take (l : List Ex) (m k : Nat) (x : Ex) (h : l[k]? = some x) : Ex.dps m (l.take (k + 1)) = (if Ex.dps m (l.take k) < 1 + x.dp then 1 + x.dp else Ex.dps m (l.take k)) := by
  induction l generalizing m k with
  | nil => simp at h
  | cons e l ih =>
    cases k with
    | zero =>
      simp only [List.getElem?_cons_zero, Option.some.injEq] at h
      subst h
      simp [Ex.dps]
    | succ k =>
      simp only [List.getElem?_cons_succ] at h
      simp only [List.take_succ_cons, Ex.dps]
      exact ih _ k h
theorem Ex.dps_le (l : List Ex) (m : Nat) (hm : 1 ≤ m) (ih : ∀ x ∈ l, x.dp ≤ x.wt) : Ex.dps m l ≤ m + (l.map Ex.wt).sum := by
  induction l generalizing m with
  | nil => simp [Ex.dps]
  | cons e l ih2 =>
    have h1 := ih e (List.mem_cons_self)
    have h2 := ih2 (if m < 1 + e.dp then 1 + e.dp else m) (by split <;> omega) (fun x hx => ih x (List.mem_cons_of_mem _ hx))
    simp only [Ex.dps, List.map_cons, List.sum_cons]
    split at h2 <;> split <;> omega
theorem Ex.dp_le : ∀ e : Ex, e.dp ≤ e.wt := fun e => Ex.ind (Q := fun e => e.dp ≤ e.wt) (fun e ih => by
  have := Ex.dps_le e.args 1 (Nat.le_refl _) ih
  rw [Ex.dp_eq, Ex.wt_eq]
  omega) e
theorem dp_up {D D0 D1 : Nat} (a : wrap64 (1 + (D : Int)) = ((1 + D : Nat) : Int)) (h : (1 + D = D1 ∧ (D0 : Int) < wrap64 (1 + (D : Int))) ∨ (D0 = D1 ∧ wrap64 (1 + (D : Int)) ≤ (D0 : Int))) (hl : (D0 : Int) < wrap64 (1 + (D : Int))) : wrap64 (1 + (D : Int)) = (D1 : Int) := by
  rcases h with ⟨h, _⟩ | ⟨_, h⟩
  · rw [a, h]
  · omega
theorem dp_keep {D D0 D1 : Nat} (h : (1 + D = D1 ∧ (D0 : Int) < wrap64 (1 + (D : Int))) ∨ (D0 = D1 ∧ wrap64 (1 + (D : Int)) ≤ (D0 : Int))) (hl : wrap64 (1 + (D : Int)) ≤ (D0 : Int)) : (D0 : Int) = (D1 : Int) := by
  rcases h with ⟨_, h⟩ | ⟨h, _⟩
  · omega
  · rw [h]
end Go.Proofs.Ytplkiadkkefppaa
namespace Go.Proofs.Ytplkiadkkefppaa
open Go.RowKit
/-- The same ones, one by one? -/
def eqAll {α : Type} (f : α → α → Bool) : List α → List α → Bool
  | [], [] => true
  | a :: l, b :: r => f a b && eqAll f l r
  | [], _ :: _ => false
  | _ :: _, [] => false
theorem eqAll_drop {α : Type} (f : α → α → Bool) (l r : List α) (k : Nat) (x y : α) (hx : l[k]? = some x) (hy : r[k]? = some y) : eqAll f (l.drop k) (r.drop k) = (f x y && eqAll f (l.drop (k + 1)) (r.drop (k + 1))) := by
  obtain ⟨h1, rfl⟩ := List.getElem?_eq_some_iff.1 hx
  obtain ⟨h2, rfl⟩ := List.getElem?_eq_some_iff.1 hy
  rw [List.drop_eq_getElem_cons h1, List.drop_eq_getElem_cons h2, eqAll]
theorem eqAll_length {α : Type} (f : α → α → Bool) : ∀ l r : List α, l.length ≠ r.length → eqAll f l r = false
  | [], [], h => by simp at h
  | [], _ :: _, _ => by rw [eqAll]
  | _ :: _, [], _ => by rw [eqAll]
  | a :: l, b :: r, h => by
    rw [eqAll, eqAll_length f l r (by simpa using h), Bool.and_false]
def eqStr (a b : ByteArray) : Bool := a.toList == b.toList
def eqFd (a b : Fd) : Bool := a.name.toList == b.name.toList && a.w == b.w
def eqLt (a b : Lt) : Bool := a.w == b.w && (a.h == b.h && a.l == b.l)
end Go.Proofs.Ytplkiadkkefppaa
