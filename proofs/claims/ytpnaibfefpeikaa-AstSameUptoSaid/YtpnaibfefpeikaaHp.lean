/-
  WHAT IS PROVED HERE: what the literal in Items of the landed ast hands back, of any statements that lie in memory and are not too great.
-/
import Derived.Test.YtpnaibfefpeikaaRows
import Derived.Test.YtpnaibfefpeikaaHl
import Derived.WalkKit
import Derived.Lib.Hide
import Derived.WalkSpells
import Derived.WalkLawsBesides
import Derived.Laws.EntriesVeiled
import Derived.Shelf.Abstract
namespace Go.Proofs.Ytpnaibfefpeikaa
open Go.RowKit
mutual
/-- How many items statements have. -/
def St.it : St → Nat
  | .mk _ _ _ _ _ _ thn _ _ els => 1 + (St.its thn + St.its els)
def St.its : List St → Nat
  | [] => 0
  | s :: l => s.it + St.its l
end
theorem St.it_eq (s : St) : s.it = 1 + (St.its s.thn + St.its s.els) := by cases s; rw [St.it]; rfl
/-- What a statement holds beside itself. -/
def St.more (s : St) : Nat := St.its s.thn + St.its s.els
theorem St.its_sum : ∀ l : List St, St.its l = l.length + (l.map St.more).sum
  | [] => by simp [St.its]
  | s :: l => by
    rw [St.its, St.its_sum l, St.it_eq]
    simp only [List.length_cons, List.map_cons, List.sum_cons, St.more]
    omega
theorem St.its_le (l : List St) (h : ∀ s ∈ l, s.it ≤ s.sz) : St.its l ≤ (l.map St.sz).sum := by
  induction l with
  | nil => simp [St.its]
  | cons s l ih =>
    have := h s (List.mem_cons_self)
    have := ih (fun s hs => h s (List.mem_cons_of_mem _ hs))
    simp only [St.its, List.map_cons, List.sum_cons]
    omega
theorem St.it_le : ∀ s : St, s.it ≤ s.sz := fun s => St.ind (Q := fun s => s.it ≤ s.sz) (fun s h1 h2 => by
  have := St.its_le s.thn h1
  have := St.its_le s.els h2
  rw [St.it_eq, St.sz_eq]
  omega) s
theorem St.its_sz (l : List St) : St.its l ≤ (l.map St.sz).sum := St.its_le l fun s _ => St.it_le s
theorem it_step (T0 T1 I1 I2 n M S R : Nat) (h3 : T1 = T0 + (I1 + I2)) (h4 : T1 ≤ n + M) (hsum : R = n + M) (hle : R ≤ S) (hb : S ≤ 1048576) : wrap64 ((T0 : Int) + wrap64 ((I1 : Int) + (I2 : Int))) = (T1 : Int) := by
  rw [wr_in ((I1 : Int) + (I2 : Int)) (by omega), wr_in _ (by omega)]
  omega
theorem St.thn_sz (s : St) {m n : Nat} (h : s.sz ≤ m) (k : m ≤ n) : (s.thn.map St.sz).sum ≤ n := by rw [St.sz_eq] at h; omega
theorem St.els_sz (s : St) {m n : Nat} (h : s.sz ≤ m) (k : m ≤ n) : (s.els.map St.sz).sum ≤ n := by rw [St.sz_eq] at h; omega
def fv_items (c : Nat) : Value := .func (.func 47) #[] #[.pointer (some ⟨c, 0, none⟩)]
def ItemsAt (L : Sl St) : Prop := ∀ (w : World) (c : Nat), L.In w 14 St.cells (St.In w) → L.size St.sz ≤ 1048576 → w.cell? ⟨c, 0, none⟩ = some (fv_items c) → Kp Try.prog w 47 #[L.v, .pointer (some ⟨c, 0, none⟩)] (.int .i64 (St.its L.l : Int))
set_option maxRecDepth 100000 in
set_option maxHeartbeats 8000000 in
theorem items_of (L : Sl St) (ih : ∀ x ∈ L.l, ItemsAt x.thnS ∧ ItemsAt x.elsS) : ItemsAt L := by
  intro w c hin hb hc y0
  have hin := hin.plus (fun _ a => a.plus y0) y0
  have hc := cell_keep hc y0
  obtain ⟨W, hV⟩ : ∃ V, plus w y0 = V := ⟨_, rfl⟩
  rw [hV] at hin hc ⊢
  clear hV
  obtain ⟨p, cap, l⟩ := L
  obtain ⟨_, _, hrow, hkids⟩ := hin
  simp only [Sl.size, Sl.v] at hb ih hrow hkids ⊢
  obtain ⟨n, hn⟩ : ∃ n, l.length = n := ⟨_, rfl⟩
  have hl : n ≤ 1048576 := by have := length_le_sum St.sz St.sz_pos l; omega
  have hsum := St.its_sum l
  have hle := St.its_sz l
  rw [hn] at hsum ⊢
  obtain ⟨R, hR⟩ : ∃ R, St.its l = R := ⟨_, rfl⟩
  rw [hR] at hsum hle ⊢
  have ih' := Lib.hid ih
  have hrow' := Lib.hid hrow
  have hkids' := Lib.hid hkids
  have hb' := Lib.hid hb
  have hn' := Lib.hid hn
  have hl' := Lib.hid hl
  have hsum' := Lib.hid hsum
  have hle' := Lib.hid hle
  have hc' := Lib.hid hc
  clear hl ih hrow hkids hb hn hsum hR hc hle
  go_enter Try.func47, Try.ntmps47
  go_wp2
  have h0 : (n : Int) = (tally St.more n l 0 : Int) := by rw [tally_zero]
  go_loopw [4, 6, 11] (fun nv _ iv wr => ∃ k : Nat, k ≤ n ∧ iv = .int .i64 (k : Int) ∧ nv = .int .i64 (tally St.more n l k : Int) ∧ ∃ y, wr = plus W y) (fun _ _ iv _ => n - (intOf iv).toNat)
  case atStart => exact ⟨0, Nat.zero_le _, rfl, congrArg (Value.int .i64) h0, ⟨#[], W.drawn⟩, (plus_self W).symm⟩
  case round =>
    obtain ⟨k, hk, rfl, rfl, y, rfl⟩ := hrel
    by_cases hlt : k < n
    · obtain ⟨e, he⟩ : ∃ e, l[k]? = some e := ⟨l[k]'(by rw [hn'.out]; exact hlt), List.getElem?_eq_getElem _⟩
      obtain ⟨a, rfl, hc⟩ := hrow'.out k e he
      have hmem : e ∈ l := List.mem_of_getElem? he
      have hew := le_sum_of St.sz l e hmem
      have hin := hkids'.out e hmem
      have i1 := ((ih'.out e hmem).1 W c hin.inThn (St.thn_sz e hew hb'.out) hc'.out)
      have i2 := ((ih'.out e hmem).2 W c hin.inEls (St.els_sz e hew hb'.out) hc'.out)
      have a3 := tally_succ St.more n l k e he
      have a4 := tally_le St.more n l (k + 1)
      have hcv := fun y X => cell_alloc (cell_keep hc'.out y) X
      unfold fv_items at hcv
      obtain ⟨T0, hT0⟩ : ∃ T, tally St.more n l k = T := ⟨_, rfl⟩
      obtain ⟨T1, hT1⟩ : ∃ T, tally St.more n l (k + 1) = T := ⟨_, rfl⟩
      rw [hT0, hT1] at a3
      rw [hT1] at a4
      rw [hT0]
      have hm : e.more = St.its e.thn + St.its e.els := rfl
      rw [hm] at a3
      obtain ⟨kd, hd, nm, ⟨eop, ⟨elw, elh, ell⟩, ehd, enm, eeh, eel, ep, ecap, eargs⟩, tp, tc, tl, up, uc, ul⟩ := e
      simp only [St.thnS, St.elsS, Sl.v, St.p, St.cap, St.thn, St.q, St.cbp, St.els] at i1 i2 a3
      obtain ⟨I1, hI1⟩ : ∃ I, St.its tl = I := ⟨_, rfl⟩
      obtain ⟨I2, hI2⟩ : ∃ I, St.its ul = I := ⟨_, rfl⟩
      rw [hI1] at i1 a3
      rw [hI2] at i2 a3
      have a9 := Lib.hid (it_step T0 T1 I1 I2 n _ _ R a3 a4 hsum'.out hle'.out hb'.out)
      have hT1' := Lib.hid hT1
      have d0 := fun y => (hc.plus y).c0 _ rfl
      have d1 := fun y => (hc.plus y).cs 0 _ rfl
      have d2 := fun y => (hc.plus y).cs 1 _ rfl
      have d3 := fun y => (hc.plus y).cs 2 _ rfl
      have d4 := fun y => (hc.plus y).cs 3 _ rfl
      have d5 := fun y => (hc.plus y).cs 4 _ rfl
      have d6 := fun y => (hc.plus y).cs 5 _ rfl
      have d7 := fun y => (hc.plus y).cs 6 _ rfl
      have d8 := fun y => (hc.plus y).cs 7 _ rfl
      have d9 := fun y => (hc.plus y).cs 8 _ rfl
      have d10 := fun y => (hc.plus y).cs 9 _ rfl
      have d11 := fun y => (hc.plus y).cs 10 _ rfl
      have d12 := fun y => (hc.plus y).cs 11 _ rfl
      have d13 := fun y => (hc.plus y).cs 12 _ rfl
      simp only [St.kind, St.head, St.name, St.e, St.p, St.cap, St.thn, St.q, St.cbp, St.els, Ex.op, Ex.lit, Ex.head, Ex.name, Ex.hi, Ex.lo, Ex.p, Ex.cap, Ex.args] at d0 d1 d2 d3 d4 d5 d6 d7 d8 d9 d10 d11 d12 d13
      have i1' := Lib.hid i1
      have i2' := Lib.hid i2
      have a6 := Lib.hid (wr_succ k n hlt hl'.out)
      clear hc hew hmem he hin i1 i2 a3 a4 hT0 hT1 hm hI1 hI2 hcv
      go_wp2
      obtain ⟨W2, y2, hW2, ⟨z2, hz2⟩, ca⟩ := box1n (plus W y) _ 103
      rw [hW2]
      have ca12 := ca 12 _ rfl
      have ca13 := ca 13 _ rfl
      have hW3 : ∃ z, W2 = plus W z := ⟨_, hz2.trans (plus_plus _ _ _)⟩
      obtain ⟨z3, hz3⟩ := hW3
      have q1 := Lib.hid (kp_at hz3 i1'.out)
      have q2 := Lib.hid (kp_at hz3 i2'.out)
      have hcv := fun y => cell_keep (cell_at hz3 hc'.out) y
      unfold fv_items at hcv
      have hz3' := Lib.hid hz3
      clear hW2 ca hz2 hz3 i1' i2'
      refine wp_region_own (by kernel_rfl) (by kernel_rfl) ?_
      repeat (go_big_quiet_step (first | (with_reducible exact q1.out _) | (with_reducible exact q2.out _)))
      refine wpQuiet_nil ?_
      rintro _ ⟨y1, rfl⟩
      go_wp2
      go_roundw
      case rel => exact ⟨k + 1, hlt, congrArg (Value.int .i64) a6.out, congrArg (Value.int .i64) (a9.out.trans (by rw [hT1'.out])), by rw [hz3'.out, plus_plus]; exact ⟨_, rfl⟩⟩
      case measure => exact step_less k n hlt a6.out
    · obtain rfl : k = n := by omega
      have hw : (tally St.more k l k : Int) = (R : Int) := by
        rw [tally_all St.more k l k hn'.out, ← hsum'.out]
      have hw' := Lib.hid hw
      clear hlt hk hw
      go_wp2
      go_ret
      exact ⟨congrArg (fun z => Ending.returned (Value.int .i64 z)) hw'.out, _, rfl⟩
theorem items_kids : ∀ s : St, ItemsAt s.thnS ∧ ItemsAt s.elsS := fun s => St.ind (Q := fun s => ItemsAt s.thnS ∧ ItemsAt s.elsS) (fun s h1 h2 => ⟨items_of s.thnS fun x hx => h1 x hx, items_of s.elsS fun x hx => h2 x hx⟩) s
theorem items_at (L : Sl St) : ItemsAt L := items_of L fun x _ => items_kids x
end Go.Proofs.Ytpnaibfefpeikaa
