/-
  WHAT IS PROVED HERE: what the document's weighs of layer 4 hands back, of any statements that lie in memory and are not too great.
-/
import Derived.Test.YtpnaibfefpeikaaRows
import Derived.Test.YtpnaibfefpeikaaSd
import Derived.WalkKit
import Derived.Lib.Hide
import Derived.WalkSpells
import Derived.WalkLawsBesides
namespace Go.Proofs.Ytpnaibfefpeikaa
open Go.RowKit
theorem wr_sum (t h n E A B u : Nat) (hu : u = t + (1 + h + n + E + A + B)) (hb : u ≤ 1048576) : wrap64 (wrap64 (wrap64 (wrap64 (wrap64 (wrap64 ((t : Int) + 1) + h) + n) + E) + A) + B) = (u : Int) := by
  rw [wr_in ((t : Int) + 1) (by omega), wr_in ((t : Int) + 1 + h) (by omega), wr_in ((t : Int) + 1 + h + n) (by omega), wr_in ((t : Int) + 1 + h + n + E) (by omega), wr_in ((t : Int) + 1 + h + n + E + A) (by omega), wr_in _ (by omega)]
  omega
theorem PureIn.of_plus {P : Program} {w : World} {f : FuncId} {args : Array Value} {v : Value} (h : ∀ w', (∃ y, w' = plus w y) → Calls P f args w' fun e w'' => e = .returned v ∧ ∃ x, w'' = plus w' x) : PureIn P w f args v := fun y =>
  (h _ ⟨y, rfl⟩).mono fun _ _ ⟨he, x, hx⟩ => ⟨he, by rw [hx, plus_plus]; exact ⟨_, rfl⟩⟩
theorem PureIn.plus {P : Program} {w : World} {f : FuncId} {args : Array Value} {v : Value} (h : PureIn P w f args v) (z : Ext) : ∀ y, Calls P f args (plus (plus w z) y) fun e w' => e = .returned v ∧ ∃ x, w' = Go.Proofs.Ytpnaibfefpeikaa.plus w x := fun y => by
  rw [plus_plus]; exact h _
theorem weigh_in (e : Ex) (w : World) (h : e.In w) (hb : e.wt ≤ 1048576) : PureIn Try.prog w 16 #[e.val] (.int .i64 (e.wt : Int)) :=
  PureIn.of_plus fun _ ⟨y, hy⟩ => ref_weigh e _ (hy ▸ h.plus y) hb
def St.thnS (s : St) : Sl St := ⟨s.p, s.cap, s.thn⟩
def St.elsS (s : St) : Sl St := ⟨s.q, s.cbp, s.els⟩
def WeighsAt (L : Sl St) : Prop := ∀ w : World, L.In w 14 St.cells (St.In w) → L.size St.sz ≤ 1048576 → PureIn Try.prog w 14 #[L.v] (.int .i64 (L.size St.sz : Int))
theorem St.sz_pos (s : St) : 1 ≤ s.sz := by rw [St.sz_eq]; omega
set_option maxHeartbeats 8000000 in
theorem weighs_of (L : Sl St) (ih : ∀ x ∈ L.l, WeighsAt x.thnS ∧ WeighsAt x.elsS) : WeighsAt L := by
  intro w hin hb y0
  obtain ⟨p, cap, l⟩ := L
  obtain ⟨h1, h2, hrow, hkids⟩ := hin
  simp only [Sl.size, Sl.v] at hb h1 hrow hkids ih ⊢
  have hn : ∃ n, l.length = n := ⟨_, rfl⟩
  obtain ⟨n, hn⟩ := hn
  have hl : n ≤ 1048576 := by have := length_le_sum St.sz St.sz_pos l; omega
  rw [hn]
  have hR : ∃ R, (l.map St.sz).sum = R := ⟨_, rfl⟩
  obtain ⟨R, hR⟩ := hR
  rw [hR] at hb ⊢
  have ih' := Lib.hid ih
  have hrow' := Lib.hid (hrow.plus y0)
  have hkids' := Lib.hid (fun x hx => (hkids x hx).plus y0)
  have hR' := Lib.hid hR
  have hb' := Lib.hid hb
  have hn' := Lib.hid hn
  have hl' := Lib.hid hl
  clear hrow hkids hb hn hl hR h1 h2 ih
  obtain ⟨W, hW⟩ : ∃ W, plus w y0 = W := ⟨_, rfl⟩
  rw [hW] at hrow' hkids' ⊢
  have hW' := Lib.hid hW
  clear hW
  go_enter Try.func14, Try.ntmps14
  go_wp2
  go_loopw [3, 4] (fun nv iv wr => ∃ k : Nat, k ≤ n ∧ iv = .int .i64 (k : Int) ∧ nv = .int .i64 (tally St.sz 0 l k : Int) ∧ ∃ y, wr = plus W y) (fun _ iv _ => n - (intOf iv).toNat)
  case atStart => exact ⟨0, Nat.zero_le _, rfl, congrArg (Value.int .i64) (by rw [tally_zero]; rfl), ⟨#[], W.drawn⟩, (plus_self W).symm⟩
  case round =>
    obtain ⟨k, hk, rfl, rfl, y, rfl⟩ := hrel
    by_cases hlt : k < n
    · obtain ⟨s, hs⟩ : ∃ s, l[k]? = some s := ⟨l[k]'(by rw [hn'.out]; exact hlt), List.getElem?_eq_getElem _⟩
      obtain ⟨a, rfl, hc⟩ := hrow'.out k s hs
      have a3 := tally_succ St.sz 0 l k s hs
      have a4 := tally_le St.sz 0 l (k + 1)
      have hmem : s ∈ l := List.mem_of_getElem? hs
      obtain ⟨i1, i2⟩ := ih'.out s hmem
      have hst := hkids'.out s hmem
      obtain ⟨kind, hd, nm, e, sp, scap, thn, sq, scbp, els⟩ := s
      have hsz := St.sz_eq (.mk kind hd nm e sp scap thn sq scbp els)
      obtain ⟨_, _, _, _, he, l1, l2, l3, l4, l5, l6, l7, l8⟩ := hst
      simp only [St.head, St.name, St.e, St.p, St.cap, St.thn, St.q, St.cbp, St.els] at he l1 l2 l3 l4 l5 l6 l7 l8 hsz
      have hS : ∃ S, St.sz (.mk kind hd nm e sp scap thn sq scbp els) = S := ⟨_, rfl⟩
      obtain ⟨S, hS⟩ := hS
      rw [hS] at hsz a3
      have b0 : S ≤ 1048576 := by have := hb'.out; have := hR'.out; omega
      have q1 := weigh_in e W he (by omega)
      have q2 := i1 W ⟨l1, l2, l3, l4⟩ (show (thn.map St.sz).sum ≤ 1048576 by omega)
      have q3 := i2 W ⟨l5, l6, l7, l8⟩ (show (els.map St.sz).sum ≤ 1048576 by omega)
      simp only [Sl.size, Sl.v, St.thnS, St.elsS, St.p, St.cap, St.thn, St.q, St.cbp, St.els] at q2 q3
      obtain ⟨eop, ⟨elw, elh, ell⟩, ehd, enm, eeh, eel, ep, ecap, eargs⟩ := e
      have d0 := fun y => (hc.plus y).c0 _ rfl
      have d1 := fun y => (hc.plus y).cs 0 _ rfl
      have d2 := fun y => (hc.plus y).cs 1 _ rfl
      have d3 := fun y => (hc.plus y).cs 2 _ rfl
      have d4 := fun y => (hc.plus y).cs 3 _ rfl
      have d5 := fun y => (hc.plus y).cs 4 _ rfl
      have d6 := fun y => (hc.plus y).cs 5 _ rfl
      have d7 := fun y => (hc.plus y).cs 6 _ rfl
      have d8 := fun y => (hc.plus y).cs 7 _ rfl
      have d9 := fun y => (hc.plus y).cs 8 _ rfl
      have d10 := fun y => (hc.plus y).cs 9 _ rfl
      have d11 := fun y => (hc.plus y).cs 10 _ rfl
      have d12 := fun y => (hc.plus y).cs 11 _ rfl
      have d13 := fun y => (hc.plus y).cs 12 _ rfl
      simp only [St.kind, St.head, St.name, St.e, St.p, St.cap, St.thn, St.q, St.cbp, St.els, Ex.op, Ex.lit, Ex.head, Ex.name, Ex.hi, Ex.lo, Ex.p, Ex.cap, Ex.args] at d0 d1 d2 d3 d4 d5 d6 d7 d8 d9 d10 d11 d12 d13
      have q1 : PureIn Try.prog W 16 #[.agg #[.int .u8 eop, .int .i64 elw, .int .u64 elh, .int .u64 ell, .string ehd, .string enm, .int .i64 eeh, .int .i64 eel, .slice ep eargs.length ecap]] _ := q1
      have hE : ∃ E, Ex.wt (.mk eop ⟨elw, elh, ell⟩ ehd enm eeh eel ep ecap eargs) = E := ⟨_, rfl⟩
      obtain ⟨E, hE⟩ := hE
      rw [hE] at q1 hsz
      have hA : ∃ A, (thn.map St.sz).sum = A := ⟨_, rfl⟩
      obtain ⟨A, hA⟩ := hA
      rw [hA] at q2 hsz
      have hB : ∃ B, (els.map St.sz).sum = B := ⟨_, rfl⟩
      obtain ⟨B, hB⟩ := hB
      rw [hB] at q3 hsz
      have q1' := Lib.hid q1
      have q2' := Lib.hid q2
      have q3' := Lib.hid q3
      have a6 := wr_succ k n hlt hl'.out
      have hsz' := Lib.hid hsz
      have a3' := Lib.hid a3
      have a4' := Lib.hid a4
      have b0' := Lib.hid b0
      clear hE hA hB a3 a4 hs hc he l1 l2 l3 l4 l5 l6 l7 l8 hS i1 i2 q1 q2 q3 hsz hmem b0
      go_wp2
      refine wp_region_own (by kernel_rfl) (by kernel_rfl) ?_
      repeat (go_big_quiet_step (first | (with_reducible exact q1'.out _) | (with_reducible exact q2'.out _) | (with_reducible exact q3'.out _)))
      refine wpQuiet_nil ?_
      rintro _ ⟨y1, rfl⟩
      have a7 := wr_sum (tally St.sz 0 l k) hd.size nm.size E A B (tally St.sz 0 l (k + 1)) (by rw [a3'.out, hsz'.out]) (by have := a4'.out; have := hR'.out; have := hb'.out; omega)
      have a7' := Lib.hid a7
      have a6' := Lib.hid a6
      clear a6 a7
      go_wp2
      go_roundw
      case rel => exact ⟨k + 1, hlt, congrArg (Value.int .i64) a6'.out, congrArg (Value.int .i64) a7'.out, y1, rfl⟩
      case measure => exact step_less k n hlt a6'.out
    · obtain rfl : k = n := by omega
      have hT : (tally St.sz 0 l k : Int) = (R : Int) := by
        have := hR'.out
        rw [tally_all St.sz _ l k hn'.out]
        omega
      have hT' := Lib.hid hT
      clear hT
      go_wp2
      go_ret
      exact ⟨congrArg (fun z => Ending.returned (Value.int .i64 z)) hT'.out, by rw [← hW'.out, plus_plus]; exact ⟨_, rfl⟩⟩
theorem weighs_at (L : Sl St) : WeighsAt L :=
  weighs_of L fun x _ => St.ind (Q := fun s => WeighsAt s.thnS ∧ WeighsAt s.elsS) (fun s h1 h2 => ⟨weighs_of s.thnS h1, weighs_of s.elsS h2⟩) x
end Go.Proofs.Ytpnaibfefpeikaa
