/-
  WHAT IS PROVED HERE: what the literal in Items of the landed ast hands back, of any statements that lie in memory and are not too great. · what Items of the landed ast hands back, of any program that lies in memory and is not too great. Written by gen/hc.py.
-/
import Derived.Test.YtplkiadkkefppaaRows
import Derived.Test.YtplkiadkkefppaaHL
import Derived.WalkKit
import Derived.Lib.Hide
import Derived.WalkSpells
import Derived.WalkLawsBesides
import Derived.Laws.EntriesVeiled
import Derived.Shelf.Abstract
import Derived.Test.YtplkiadkkefppaaSf
import Derived.Test.YtplkiadkkefppaaGE
namespace Go.Proofs.Ytplkiadkkefppaa
open Go.RowKit
mutual
/-- How many items statements have. -/
def St.it : St → Nat
  | .mk _ _ _ _ _ _ thn _ _ els => 1 + (St.its thn + St.its els)
def St.its : List St → Nat
  | [] => 0
  | s :: l => s.it + St.its l
end
theorem St.it_eq (s : St) : s.it = 1 + (St.its s.thn + St.its s.els) := by cases s; rw [St.it]; rfl
/-- What a statement holds beside itself. -/
def St.more (s : St) : Nat := St.its s.thn + St.its s.els
theorem St.its_sum : ∀ l : List St, St.its l = l.length + (l.map St.more).sum
  | [] => by simp [St.its]
  | s :: l => by
    rw [St.its, St.its_sum l, St.it_eq]
    simp only [List.length_cons, List.map_cons, List.sum_cons, St.more]
    omega
theorem St.its_le (l : List St) (h : ∀ s ∈ l, s.it ≤ s.sz) : St.its l ≤ (l.map St.sz).sum := by
  induction l with
  | nil => simp [St.its]
  | cons s l ih =>
    have := h s (List.mem_cons_self)
    have := ih (fun s hs => h s (List.mem_cons_of_mem _ hs))
    simp only [St.its, List.map_cons, List.sum_cons]
    omega
theorem St.it_le : ∀ s : St, s.it ≤ s.sz := fun s => St.ind (Q := fun s => s.it ≤ s.sz) (fun s h1 h2 => by
  have := St.its_le s.thn h1
  have := St.its_le s.els h2
  rw [St.it_eq, St.sz_eq]
  omega) s
theorem St.its_sz (l : List St) : St.its l ≤ (l.map St.sz).sum := St.its_le l fun s _ => St.it_le s
theorem it_step (T0 T1 I1 I2 n M S R : Nat) (h3 : T1 = T0 + (I1 + I2)) (h4 : T1 ≤ n + M) (hsum : R = n + M) (hle : R ≤ S) (hb : S ≤ 1048576) : wrap64 ((T0 : Int) + wrap64 ((I1 : Int) + (I2 : Int))) = (T1 : Int) := by
  rw [wr_in ((I1 : Int) + (I2 : Int)) (by omega), wr_in _ (by omega)]
  omega
theorem St.thn_sz (s : St) {m n : Nat} (h : s.sz ≤ m) (k : m ≤ n) : (s.thn.map St.sz).sum ≤ n := by rw [St.sz_eq] at h; omega
theorem St.els_sz (s : St) {m n : Nat} (h : s.sz ≤ m) (k : m ≤ n) : (s.els.map St.sz).sum ≤ n := by rw [St.sz_eq] at h; omega
def fv_items (c : Nat) : Value := .func (.func 33) #[] #[.pointer (some ⟨c, 0, none⟩)]
def ItemsAt (L : Sl St) : Prop := ∀ (w : World) (c : Nat), L.In w 14 St.cells (St.In w) → L.size St.sz ≤ 1048576 → w.cell? ⟨c, 0, none⟩ = some (fv_items c) → Kp Try.prog w 33 #[L.v, .pointer (some ⟨c, 0, none⟩)] (.int .i64 (St.its L.l : Int))
set_option maxRecDepth 100000 in
set_option maxHeartbeats 8000000 in
theorem items_of (L : Sl St) (ih : ∀ x ∈ L.l, ItemsAt x.thnS ∧ ItemsAt x.elsS) : ItemsAt L := by
  intro w c hin hb hc y0
  have hin := hin.plus (fun _ a => a.plus y0) y0
  have hc := cell_keep hc y0
  obtain ⟨W, hV⟩ : ∃ V, plus w y0 = V := ⟨_, rfl⟩
  rw [hV] at hin hc ⊢
  clear hV
  obtain ⟨p, cap, l⟩ := L
  obtain ⟨_, _, hrow, hkids⟩ := hin
  simp only [Sl.size, Sl.v] at hb ih hrow hkids ⊢
  obtain ⟨n, hn⟩ : ∃ n, l.length = n := ⟨_, rfl⟩
  have hl : n ≤ 1048576 := by have := length_le_sum St.sz St.sz_pos l; omega
  have hsum := St.its_sum l
  have hle := St.its_sz l
  rw [hn] at hsum ⊢
  obtain ⟨R, hR⟩ : ∃ R, St.its l = R := ⟨_, rfl⟩
  rw [hR] at hsum hle ⊢
  have ih' := Lib.hid ih
  have hrow' := Lib.hid hrow
  have hkids' := Lib.hid hkids
  have hb' := Lib.hid hb
  have hn' := Lib.hid hn
  have hl' := Lib.hid hl
  have hsum' := Lib.hid hsum
  have hle' := Lib.hid hle
  have hc' := Lib.hid hc
  clear hl ih hrow hkids hb hn hsum hR hc hle
  go_enter Try.func33, Try.ntmps33
  go_wp2
  have h0 : (n : Int) = (tally St.more n l 0 : Int) := by rw [tally_zero]
  go_loopw [4, 6, 11] (fun nv _ iv wr => ∃ k : Nat, k ≤ n ∧ iv = .int .i64 (k : Int) ∧ nv = .int .i64 (tally St.more n l k : Int) ∧ ∃ y, wr = plus W y) (fun _ _ iv _ => n - (intOf iv).toNat)
  case atStart => exact ⟨0, Nat.zero_le _, rfl, congrArg (Value.int .i64) h0, ⟨#[], W.drawn⟩, (plus_self W).symm⟩
  case round =>
    obtain ⟨k, hk, rfl, rfl, y, rfl⟩ := hrel
    by_cases hlt : k < n
    · obtain ⟨e, he⟩ : ∃ e, l[k]? = some e := ⟨l[k]'(by rw [hn'.out]; exact hlt), List.getElem?_eq_getElem _⟩
      obtain ⟨a, rfl, hc⟩ := hrow'.out k e he
      have hmem : e ∈ l := List.mem_of_getElem? he
      have hew := le_sum_of St.sz l e hmem
      have hin := hkids'.out e hmem
      have i1 := ((ih'.out e hmem).1 W c hin.inThn (St.thn_sz e hew hb'.out) hc'.out)
      have i2 := ((ih'.out e hmem).2 W c hin.inEls (St.els_sz e hew hb'.out) hc'.out)
      have a3 := tally_succ St.more n l k e he
      have a4 := tally_le St.more n l (k + 1)
      have hcv := fun y X => cell_alloc (cell_keep hc'.out y) X
      unfold fv_items at hcv
      obtain ⟨T0, hT0⟩ : ∃ T, tally St.more n l k = T := ⟨_, rfl⟩
      obtain ⟨T1, hT1⟩ : ∃ T, tally St.more n l (k + 1) = T := ⟨_, rfl⟩
      rw [hT0, hT1] at a3
      rw [hT1] at a4
      rw [hT0]
      have hm : e.more = St.its e.thn + St.its e.els := rfl
      rw [hm] at a3
      obtain ⟨kd, hd, nm, ⟨eop, ⟨elw, elh, ell⟩, ehd, enm, eeh, eel, ep, ecap, eargs⟩, tp, tc, tl, up, uc, ul⟩ := e
      simp only [St.thnS, St.elsS, Sl.v, St.p, St.cap, St.thn, St.q, St.cbp, St.els] at i1 i2 a3
      obtain ⟨I1, hI1⟩ : ∃ I, St.its tl = I := ⟨_, rfl⟩
      obtain ⟨I2, hI2⟩ : ∃ I, St.its ul = I := ⟨_, rfl⟩
      rw [hI1] at i1 a3
      rw [hI2] at i2 a3
      have a9 := Lib.hid (it_step T0 T1 I1 I2 n _ _ R a3 a4 hsum'.out hle'.out hb'.out)
      have hT1' := Lib.hid hT1
      have d0 := fun y => (hc.plus y).c0 _ rfl
      have d1 := fun y => (hc.plus y).cs 0 _ rfl
      have d2 := fun y => (hc.plus y).cs 1 _ rfl
      have d3 := fun y => (hc.plus y).cs 2 _ rfl
      have d4 := fun y => (hc.plus y).cs 3 _ rfl
      have d5 := fun y => (hc.plus y).cs 4 _ rfl
      have d6 := fun y => (hc.plus y).cs 5 _ rfl
      have d7 := fun y => (hc.plus y).cs 6 _ rfl
      have d8 := fun y => (hc.plus y).cs 7 _ rfl
      have d9 := fun y => (hc.plus y).cs 8 _ rfl
      have d10 := fun y => (hc.plus y).cs 9 _ rfl
      have d11 := fun y => (hc.plus y).cs 10 _ rfl
      have d12 := fun y => (hc.plus y).cs 11 _ rfl
      have d13 := fun y => (hc.plus y).cs 12 _ rfl
      simp only [St.kind, St.head, St.name, St.e, St.p, St.cap, St.thn, St.q, St.cbp, St.els, Ex.op, Ex.lit, Ex.head, Ex.name, Ex.hi, Ex.lo, Ex.p, Ex.cap, Ex.args] at d0 d1 d2 d3 d4 d5 d6 d7 d8 d9 d10 d11 d12 d13
      have i1' := Lib.hid i1
      have i2' := Lib.hid i2
      have a6 := Lib.hid (wr_succ k n hlt hl'.out)
      clear hc hew hmem he hin i1 i2 a3 a4 hT0 hT1 hm hI1 hI2 hcv
      go_wp2
      obtain ⟨W2, y2, hW2, ⟨z2, hz2⟩, ca⟩ := box1n (plus W y) _ 95
      rw [hW2]
      have ca12 := ca 12 _ rfl
      have ca13 := ca 13 _ rfl
      have hW3 : ∃ z, W2 = plus W z := ⟨_, hz2.trans (plus_plus _ _ _)⟩
      obtain ⟨z3, hz3⟩ := hW3
      have q1 := Lib.hid (kp_at hz3 i1'.out)
      have q2 := Lib.hid (kp_at hz3 i2'.out)
      have hcv := fun y => cell_keep (cell_at hz3 hc'.out) y
      unfold fv_items at hcv
      have hz3' := Lib.hid hz3
      clear hW2 ca hz2 hz3 i1' i2'
      refine wp_region_own (by kernel_rfl) (by kernel_rfl) ?_
      repeat (go_big_quiet_step (first | (with_reducible exact q1.out _) | (with_reducible exact q2.out _)))
      refine wpQuiet_nil ?_
      rintro _ ⟨y1, rfl⟩
      go_wp2
      go_roundw
      case rel => exact ⟨k + 1, hlt, congrArg (Value.int .i64) a6.out, congrArg (Value.int .i64) (a9.out.trans (by rw [hT1'.out])), by rw [hz3'.out, plus_plus]; exact ⟨_, rfl⟩⟩
      case measure => exact step_less k n hlt a6.out
    · obtain rfl : k = n := by omega
      have hw : (tally St.more k l k : Int) = (R : Int) := by
        rw [tally_all St.more k l k hn'.out, ← hsum'.out]
      have hw' := Lib.hid hw
      clear hlt hk hw
      go_wp2
      go_ret
      exact ⟨congrArg (fun z => Ending.returned (Value.int .i64 z)) hw'.out, _, rfl⟩
theorem items_kids : ∀ s : St, ItemsAt s.thnS ∧ ItemsAt s.elsS := fun s => St.ind (Q := fun s => ItemsAt s.thnS ∧ ItemsAt s.elsS) (fun s h1 h2 => ⟨items_of s.thnS fun x hx => h1 x hx, items_of s.elsS fun x hx => h2 x hx⟩) s
theorem items_at (L : Sl St) : ItemsAt L := items_of L fun x _ => items_kids x
end Go.Proofs.Ytplkiadkkefppaa
namespace Go.Proofs.Ytplkiadkkefppaa
open Go.RowKit
def hrN (h : Hr) : Nat := h.fields.l.length
def saN (s : Sa) : Nat := s.takes.l.length + s.cases.l.length
def acN (a : Ac) : Nat := a.params.l.length + St.its a.body.l
def taN (t : Ta) : Nat := t.keys.l.length + t.actions.l.length
/-- How many items, but for those within headers, states, actions, tables. -/
def prN (p : Pr) : Nat := p.headers.l.length + p.metas.l.length + 2 * p.states.l.length + p.actions.l.length + 2 * p.tables.l.length + St.its p.control.l + p.emit.l.length
/-- How many items. -/
def prI (p : Pr) : Nat := prN p + (p.headers.l.map hrN).sum + (p.states.l.map saN).sum + (p.actions.l.map acN).sum + (p.tables.l.map taN).sum
theorem sum_mono {α : Type} (f g : α → Nat) (h : ∀ x, f x + 1 ≤ g x) : ∀ l : List α, l.length + (l.map f).sum ≤ (l.map g).sum
  | [] => by simp
  | x :: l => by
    have := sum_mono f g h l
    have := h x
    simp only [List.length_cons, List.map_cons, List.sum_cons]
    omega
theorem len_sz {α : Type} (f : α → Nat) (hf : ∀ x, 1 ≤ f x) (L : Sl α) : L.l.length ≤ L.size f := length_le_sum f hf L.l
theorem prI_le (p : Pr) (h : p.sz ≤ 1048576) : prI p ≤ 2097152 := by
  unfold Pr.sz at h
  have h1 := sum_mono hrN Hr.sz (fun x => by have := len_sz Fd.sz Fd.sz_pos x.fields; unfold hrN Hr.sz; omega) p.headers.l
  have h2 := sum_mono saN Sa.sz (fun x => by have := len_sz strSize strSize_pos x.takes; have := len_sz Ca.sz sz_pos_ca x.cases; unfold saN Sa.sz; omega) p.states.l
  have h3 := sum_mono acN Ac.sz (fun x => by have := len_sz Fd.sz Fd.sz_pos x.params; have : St.its x.body.l ≤ x.body.size St.sz := St.its_sz x.body.l; unfold acN Ac.sz; omega) p.actions.l
  have h4 := sum_mono taN Ta.sz (fun x => by have := len_sz Ke.sz sz_pos_ke x.keys; have := len_sz strSize strSize_pos x.actions; unfold taN Ta.sz; omega) p.tables.l
  have h5 := len_sz Fd.sz Fd.sz_pos p.metas
  have h6 := len_sz strSize strSize_pos p.emit
  have h7 : St.its p.control.l ≤ p.control.size St.sz := St.its_sz p.control.l
  have e1 : p.headers.size Hr.sz = (p.headers.l.map Hr.sz).sum := rfl
  have e2 : p.states.size Sa.sz = (p.states.l.map Sa.sz).sum := rfl
  have e3 : p.actions.size Ac.sz = (p.actions.l.map Ac.sz).sum := rfl
  have e4 : p.tables.size Ta.sz = (p.tables.l.map Ta.sz).sum := rfl
  unfold prI prN
  omega
theorem n0_eq (h m s a t c e B : Nat) (hB : h + m + 2 * s + a + 2 * t + c + e = B) (hb : B ≤ 2097152) : wrap64 (wrap64 (wrap64 (wrap64 (wrap64 (wrap64 ((h : Int) + (m : Int)) + wrap64 (2 * (s : Int))) + (a : Int)) + wrap64 (2 * (t : Int))) + (c : Int)) + (e : Int)) = (B : Int) := by
  rw [wr_in ((h : Int) + (m : Int)) (by omega), wr_in (2 * (s : Int)) (by omega), wr_in ((h : Int) + (m : Int) + 2 * (s : Int)) (by omega), wr_in ((h : Int) + (m : Int) + 2 * (s : Int) + (a : Int)) (by omega), wr_in (2 * (t : Int)) (by omega), wr_in ((h : Int) + (m : Int) + 2 * (s : Int) + (a : Int) + 2 * (t : Int)) (by omega), wr_in ((h : Int) + (m : Int) + 2 * (s : Int) + (a : Int) + 2 * (t : Int) + (c : Int)) (by omega), wr_in _ (by omega)]
  omega
theorem add1 (T0 T1 x : Nat) {n M : Nat} (h : T1 = T0 + x) (h4 : T1 ≤ n + M) (hb : n + M ≤ 2097152) : wrap64 ((T0 : Int) + (x : Int)) = (T1 : Int) := by
  rw [wr_in _ (by omega)]; omega
theorem add2 (T0 T1 x y : Nat) {n M : Nat} (h : T1 = T0 + (x + y)) (h4 : T1 ≤ n + M) (hb : n + M ≤ 2097152) : wrap64 ((T0 : Int) + wrap64 ((x : Int) + (y : Int))) = (T1 : Int) := by
  rw [wr_in ((x : Int) + (y : Int)) (by omega), wr_in _ (by omega)]; omega
theorem bound_of {x y : Nat} (h : x + y ≤ 2097152) : x ≤ 2097152 := by omega
set_option maxRecDepth 100000 in
set_option maxHeartbeats 16000000 in
theorem ast_items (p : Pr) (w : World) (hin : p.In w) (hz : p.sz ≤ 1048576) : Kp Try.prog w 28 #[.agg p.cells.toArray] (.int .i64 (prI p : Int)) := by
  intro y0
  have hin := hin.plus y0
  obtain ⟨V, hV⟩ : ∃ V, plus w y0 = V := ⟨_, rfl⟩
  rw [hV] at hin ⊢
  clear hV
  have htot := prI_le p hz
  have hzu := hz
  unfold Pr.sz at hzu
  have bc : p.control.size St.sz ≤ 1048576 := by omega
  have ba : p.actions.size Ac.sz ≤ 1048576 := by omega
  have bh : p.headers.l.length ≤ 1048576 := len_le Hr.sz sz_pos_hr _ (by omega)
  have bs : p.states.l.length ≤ 1048576 := len_le Sa.sz sz_pos_sa _ (by omega)
  have bA : p.actions.l.length ≤ 1048576 := len_le Ac.sz sz_pos_ac _ ba
  have bt : p.tables.l.length ≤ 1048576 := len_le Ta.sz sz_pos_ta _ (by omega)
  have hic := fun (W : World) (c : Nat) (z : Ext) (h : W = plus V z) (hc : W.cell? ⟨c, 0, none⟩ = some (fv_items c)) => (items_at p.control W c (h ▸ hin.control.plus (fun _ a => a.plus z) z) bc hc).pure
  have hia := fun (W : World) (c : Nat) (z : Ext) (h : W = plus V z) (hc : W.cell? ⟨c, 0, none⟩ = some (fv_items c)) (x : Ac) (hx : x ∈ p.actions.l) => items_at x.body W c (h ▸ (hin.actions.kids x hx).body.plus (fun _ a => a.plus z) z) (by have := one_sz ba hx; unfold Ac.sz at this; omega) hc
  have r0 := hin.headers.row
  have r1 := hin.states.row
  have r2 := hin.actions.row
  have r3 := hin.tables.row
  obtain ⟨⟨hp, hcp, hl⟩, ⟨mp, mcp, ml⟩, ⟨sp, scp, sl⟩, ⟨ap, acp, al⟩, ⟨tp, tcp, tl⟩, ⟨cp, ccp, cl⟩, ⟨ep, ecp, el⟩⟩ := p
  have hprI : prI ⟨⟨hp, hcp, hl⟩, ⟨mp, mcp, ml⟩, ⟨sp, scp, sl⟩, ⟨ap, acp, al⟩, ⟨tp, tcp, tl⟩, ⟨cp, ccp, cl⟩, ⟨ep, ecp, el⟩⟩ = hl.length + ml.length + 2 * sl.length + al.length + 2 * tl.length + St.its cl + el.length + (hl.map hrN).sum + (sl.map saN).sum + (al.map acN).sum + (tl.map taN).sum := rfl
  obtain ⟨R, hR⟩ : ∃ R, prI ⟨⟨hp, hcp, hl⟩, ⟨mp, mcp, ml⟩, ⟨sp, scp, sl⟩, ⟨ap, acp, al⟩, ⟨tp, tcp, tl⟩, ⟨cp, ccp, cl⟩, ⟨ep, ecp, el⟩⟩ = R := ⟨_, rfl⟩
  rw [hR] at hprI htot ⊢
  simp only [Sl.v] at bh bs bA bt hic hia r0 r1 r2 r3
  show Calls Try.prog 28 #[.agg #[.slice hp hl.length hcp, .slice mp ml.length mcp, .slice sp sl.length scp, .slice ap al.length acp, .slice tp tl.length tcp, .slice cp cl.length ccp, .slice ep el.length ecp]] V _
  obtain ⟨nh, hnh⟩ : ∃ n, hl.length = n := ⟨_, rfl⟩
  obtain ⟨ns, hns⟩ : ∃ n, sl.length = n := ⟨_, rfl⟩
  obtain ⟨na, hna⟩ : ∃ n, al.length = n := ⟨_, rfl⟩
  obtain ⟨nt, hnt⟩ : ∃ n, tl.length = n := ⟨_, rfl⟩
  rw [hnh] at bh hprI ⊢
  rw [hns] at bs hprI ⊢
  rw [hna] at bA hprI ⊢
  rw [hnt] at bt hprI ⊢
  obtain ⟨I, hI⟩ : ∃ I, St.its cl = I := ⟨_, rfl⟩
  rw [hI] at hprI
  have hic : ∀ (W : World) (c : Nat) (z : Ext), W = plus V z → W.cell? ⟨c, 0, none⟩ = some (fv_items c) → PureIn Try.prog W 33 #[.slice cp cl.length ccp, .pointer (some ⟨c, 0, none⟩)] (.int .i64 (I : Int)) := hI ▸ hic
  generalize ml.length = nm at hprI ⊢
  generalize cl.length = nc at hic ⊢
  generalize el.length = ne at hprI ⊢
  obtain ⟨B0, hB0⟩ : ∃ B, nh + nm + 2 * ns + na + 2 * nt + I + ne = B := ⟨_, rfl⟩
  rw [hB0] at hprI
  obtain ⟨B1, hB1⟩ : ∃ B, B0 + (hl.map hrN).sum = B := ⟨_, rfl⟩
  obtain ⟨B2, hB2⟩ : ∃ B, B1 + (sl.map saN).sum = B := ⟨_, rfl⟩
  obtain ⟨B3, hB3⟩ : ∃ B, B2 + (al.map acN).sum = B := ⟨_, rfl⟩
  obtain ⟨B4, hB4⟩ : ∃ B, B3 + (tl.map taN).sum = B := ⟨_, rfl⟩
  have hE0 : wrap64 (wrap64 (wrap64 (wrap64 (wrap64 (wrap64 ((nh : Int) + (nm : Int)) + wrap64 (2 * (ns : Int))) + (na : Int)) + wrap64 (2 * (nt : Int))) + (I : Int)) + (ne : Int)) = (B0 : Int) := n0_eq nh nm ns na nt I ne B0 hB0 (by omega)
  have t1 : B0 + (hl.map hrN).sum ≤ 2097152 := by omega
  have t2 : B1 + (sl.map saN).sum ≤ 2097152 := by omega
  have t3 : B2 + (al.map acN).sum ≤ 2097152 := by omega
  have t4 : B3 + (tl.map taN).sum ≤ 2097152 := by omega
  have hfin : B4 = R := by omega
  have hE0' := Lib.hid hE0
  have t1' := Lib.hid t1
  have t2' := Lib.hid t2
  have t3' := Lib.hid t3
  have t4' := Lib.hid t4
  have hfin' := Lib.hid hfin
  have hB1' := Lib.hid hB1
  have hB2' := Lib.hid hB2
  have hB3' := Lib.hid hB3
  have hB4' := Lib.hid hB4
  have r0' := Lib.hid r0
  have r1' := Lib.hid r1
  have r2' := Lib.hid r2
  have r3' := Lib.hid r3
  have hnh' := Lib.hid hnh
  have hns' := Lib.hid hns
  have hna' := Lib.hid hna
  have hnt' := Lib.hid hnt
  have bh' := Lib.hid bh
  have bs' := Lib.hid bs
  have bA' := Lib.hid bA
  have bt' := Lib.hid bt
  have hic' := Lib.hid hic
  have hia' := Lib.hid hia
  clear hE0 t1 t2 t3 t4 hfin hB1 hB2 hB3 hB4 r0 r1 r2 r3 hnh hns hna hnt bh bs bA bt hic hia hR hprI htot hz hzu bc ba hin hI hB0
  have hmf : ∀ (fn : Fn) (first cap : Array Value) (w : World), (Instr.makeFunc fn first cap).run Try.prog w = .ok (.func fn first cap) w := fun _ _ _ _ => rfl
  go_enter Try.func28, Try.ntmps28
  go_wp2
  obtain ⟨W, yy, hW, ⟨z, hz⟩, ca, cb⟩ := box2n V _ _ 30 _
  rw [hW]
  have ca0 := ca 0 _ rfl
  have ca1 := ca 1 _ rfl
  have ca2 := ca 2 _ rfl
  have ca3 := ca 3 _ rfl
  have ca4 := ca 4 _ rfl
  have ca5 := ca 5 _ rfl
  have ca6 := ca 6 _ rfl
  have cb0 := cb 0 _ rfl
  have hcW : W.cell? ⟨V.heap.size + 1, 0, none⟩ = some (fv_items (V.heap.size + 1)) := by have := cb0 ⟨#[], W.drawn⟩; rwa [plus_self] at this
  have hcW' := Lib.hid hcW
  have hz' := Lib.hid hz
  have q1 := Lib.hid (hic'.out W _ z hz hcW)
  clear hW hz ca cb hcW hic'
  refine wp_region_own (by kernel_rfl) (by kernel_rfl) ?_
  repeat (go_big_quiet_step (first | (with_reducible exact q1.out _)))
  refine wpQuiet_nil ?_
  rintro _ ⟨y1, rfl⟩
  go_wp2
  go_loopw [4, 6, 47] (fun nv _ iv wr => ∃ k : Nat, k ≤ nh ∧ iv = .int .i64 (k : Int) ∧ nv = .int .i64 (tally hrN B0 hl k : Int) ∧ ∃ y, wr = plus W y) (fun _ _ iv _ => nh - (intOf iv).toNat)
  case atStart => exact ⟨0, Nat.zero_le _, rfl, congrArg (Value.int .i64) (hE0'.out.trans (by rw [tally_zero])), _, rfl⟩
  case round =>
    obtain ⟨k, hk, rfl, rfl, y, rfl⟩ := hrel
    by_cases hlt : k < nh
    · obtain ⟨e, he⟩ : ∃ e, hl[k]? = some e := ⟨hl[k]'(by rw [hnh'.out]; exact hlt), List.getElem?_eq_getElem _⟩
      obtain ⟨a, rfl, hc⟩ := r0'.out k e he
      have hc := hz'.out ▸ hc.plus z
      have a3 := tally_succ hrN B0 hl k e he
      have a4 := tally_le hrN B0 hl (k + 1)
      obtain ⟨T0, hT0⟩ : ∃ T, tally hrN B0 hl k = T := ⟨_, rfl⟩
      obtain ⟨T1, hT1⟩ : ∃ T, tally hrN B0 hl (k + 1) = T := ⟨_, rfl⟩
      rw [hT0, hT1] at a3
      rw [hT1] at a4
      rw [hT0]
      have hT1' := Lib.hid hT1
      obtain ⟨xn, ⟨fp, fc, fl⟩⟩ := e
      simp only [hrN] at a3
      have a9 := Lib.hid (add1 T0 T1 _ a3 a4 t1'.out)
      have d0 := fun y => (hc.plus y).c0 _ rfl
      have d1 := fun y => (hc.plus y).cs 0 _ rfl
      simp only [Sl.v] at d0 d1
      have a6 := Lib.hid (wr_succ k nh hlt bh'.out)
      clear hc he a3 a4 hT0 hT1
      go_wp2
      go_roundw
      case rel => exact ⟨k + 1, hlt, congrArg (Value.int .i64) a6.out, congrArg (Value.int .i64) (a9.out.trans (by rw [hT1'.out])), plus_alloc1 W y _⟩
      case measure => exact step_less k nh hlt a6.out
    · obtain rfl : k = nh := by omega
      have hw : tally hrN B0 hl k = B1 := by
        rw [tally_all hrN B0 hl k hnh'.out, hB1'.out]
      rw [hw]
      clear hlt hk hw
      go_wp2
      go_loopw [4, 8, 60] (fun nv _ iv wr => ∃ k : Nat, k ≤ ns ∧ iv = .int .i64 (k : Int) ∧ nv = .int .i64 (tally saN B1 sl k : Int) ∧ ∃ y, wr = plus W y) (fun _ _ iv _ => ns - (intOf iv).toNat)
      case atStart => exact ⟨0, Nat.zero_le _, rfl, congrArg (Value.int .i64) (by rw [tally_zero]), _, rfl⟩
      case round =>
        obtain ⟨k, hk, rfl, rfl, y, rfl⟩ := hrel
        by_cases hlt : k < ns
        · obtain ⟨e, he⟩ : ∃ e, sl[k]? = some e := ⟨sl[k]'(by rw [hns'.out]; exact hlt), List.getElem?_eq_getElem _⟩
          obtain ⟨a, rfl, hc⟩ := r1'.out k e he
          have hc := hz'.out ▸ hc.plus z
          have a3 := tally_succ saN B1 sl k e he
          have a4 := tally_le saN B1 sl (k + 1)
          obtain ⟨T0, hT0⟩ : ∃ T, tally saN B1 sl k = T := ⟨_, rfl⟩
          obtain ⟨T1, hT1⟩ : ∃ T, tally saN B1 sl (k + 1) = T := ⟨_, rfl⟩
          rw [hT0, hT1] at a3
          rw [hT1] at a4
          rw [hT0]
          have hT1' := Lib.hid hT1
          obtain ⟨xn, ⟨xp, xc, xl⟩, xt, ⟨kp, kc, kl⟩, ⟨zp, zc, zl⟩⟩ := e
          simp only [saN] at a3
          have a9 := Lib.hid (add2 T0 T1 _ _ a3 a4 t2'.out)
          have d0 := fun y => (hc.plus y).c0 _ rfl
          have d1 := fun y => (hc.plus y).cs 0 _ rfl
          have d2 := fun y => (hc.plus y).cs 1 _ rfl
          have d3 := fun y => (hc.plus y).cs 2 _ rfl
          have d4 := fun y => (hc.plus y).cs 3 _ rfl
          simp only [Sl.v] at d0 d1 d2 d3 d4
          have a6 := Lib.hid (wr_succ k ns hlt bs'.out)
          clear hc he a3 a4 hT0 hT1
          go_wp2
          go_roundw
          case rel => exact ⟨k + 1, hlt, congrArg (Value.int .i64) a6.out, congrArg (Value.int .i64) (a9.out.trans (by rw [hT1'.out])), plus_alloc1 W y _⟩
          case measure => exact step_less k ns hlt a6.out
        · obtain rfl : k = ns := by omega
          have hw : tally saN B1 sl k = B2 := by
            rw [tally_all saN B1 sl k hns'.out, hB2'.out]
          rw [hw]
          clear hlt hk hw
          go_wp2
          go_loopw [4, 10, 77] (fun nv _ iv wr => ∃ k : Nat, k ≤ na ∧ iv = .int .i64 (k : Int) ∧ nv = .int .i64 (tally acN B2 al k : Int) ∧ ∃ y, wr = plus W y) (fun _ _ iv _ => na - (intOf iv).toNat)
          case atStart => exact ⟨0, Nat.zero_le _, rfl, congrArg (Value.int .i64) (by rw [tally_zero]), _, rfl⟩
          case round =>
            obtain ⟨k, hk, rfl, rfl, y, rfl⟩ := hrel
            by_cases hlt : k < na
            · obtain ⟨e, he⟩ : ∃ e, al[k]? = some e := ⟨al[k]'(by rw [hna'.out]; exact hlt), List.getElem?_eq_getElem _⟩
              obtain ⟨a, rfl, hc⟩ := r2'.out k e he
              have hc := hz'.out ▸ hc.plus z
              have a3 := tally_succ acN B2 al k e he
              have a4 := tally_le acN B2 al (k + 1)
              have i1 := hia'.out W _ z hz'.out hcW'.out e (List.mem_of_getElem? he)
              obtain ⟨T0, hT0⟩ : ∃ T, tally acN B2 al k = T := ⟨_, rfl⟩
              obtain ⟨T1, hT1⟩ : ∃ T, tally acN B2 al (k + 1) = T := ⟨_, rfl⟩
              rw [hT0, hT1] at a3
              rw [hT1] at a4
              rw [hT0]
              have hT1' := Lib.hid hT1
              obtain ⟨xn, ⟨xp, xc, xl⟩, ⟨zp, zc, zl⟩⟩ := e
              simp only [acN] at a3
              have a9 := Lib.hid (add2 T0 T1 _ _ a3 a4 t3'.out)
              have d0 := fun y => (hc.plus y).c0 _ rfl
              have d1 := fun y => (hc.plus y).cs 0 _ rfl
              have d2 := fun y => (hc.plus y).cs 1 _ rfl
              simp only [Sl.v] at d0 d1 d2
              have a6 := Lib.hid (wr_succ k na hlt bA'.out)
              simp only at i1
              generalize St.its zl = I1 at i1 a9
              have i1' := Lib.hid i1
              clear hc he a3 a4 hT0 hT1 i1
              go_wp2
              obtain ⟨W2, y2, hW2, ⟨z2, hz2⟩, cx⟩ := box1n (plus W y) _ 77
              rw [hW2]
              have cx1 := cx 1 _ rfl
              have cx2 := cx 2 _ rfl
              obtain ⟨z3, hz3⟩ : ∃ z, W2 = plus W z := ⟨_, hz2.trans (plus_plus _ _ _)⟩
              have q2 := Lib.hid (kp_at hz3 i1'.out)
              have hcv := fun y => cell_keep (cell_at hz3 hcW'.out) y
              unfold fv_items at hcv
              have hz3' := Lib.hid hz3
              have cp0 := fun y => cell_keep (cell_at hz2 (ca0 _)) y
              clear hW2 cx hz2 hz3 i1'
              refine wp_region_own (by kernel_rfl) (by kernel_rfl) ?_
              repeat (go_big_quiet_step (first | (with_reducible exact q2.out _)))
              refine wpQuiet_nil ?_
              rintro _ ⟨y1, rfl⟩
              go_wp2
              go_roundw
              case rel => exact ⟨k + 1, hlt, congrArg (Value.int .i64) a6.out, congrArg (Value.int .i64) (a9.out.trans (by rw [hT1'.out])), by rw [hz3'.out, plus_plus]; exact ⟨_, rfl⟩⟩
              case measure => exact step_less k na hlt a6.out
            · obtain rfl : k = na := by omega
              have hw : tally acN B2 al k = B3 := by
                rw [tally_all acN B2 al k hna'.out, hB3'.out]
              rw [hw]
              clear hlt hk hw
              go_wp2
              go_loopw [4, 12, 95] (fun nv _ iv wr => ∃ k : Nat, k ≤ nt ∧ iv = .int .i64 (k : Int) ∧ nv = .int .i64 (tally taN B3 tl k : Int) ∧ ∃ y, wr = plus W y) (fun _ _ iv _ => nt - (intOf iv).toNat)
              case atStart => exact ⟨0, Nat.zero_le _, rfl, congrArg (Value.int .i64) (by rw [tally_zero]), _, rfl⟩
              case round =>
                obtain ⟨k, hk, rfl, rfl, y, rfl⟩ := hrel
                by_cases hlt : k < nt
                · obtain ⟨e, he⟩ : ∃ e, tl[k]? = some e := ⟨tl[k]'(by rw [hnt'.out]; exact hlt), List.getElem?_eq_getElem _⟩
                  obtain ⟨a, rfl, hc⟩ := r3'.out k e he
                  have hc := hz'.out ▸ hc.plus z
                  have a3 := tally_succ taN B3 tl k e he
                  have a4 := tally_le taN B3 tl (k + 1)
                  obtain ⟨T0, hT0⟩ : ∃ T, tally taN B3 tl k = T := ⟨_, rfl⟩
                  obtain ⟨T1, hT1⟩ : ∃ T, tally taN B3 tl (k + 1) = T := ⟨_, rfl⟩
                  rw [hT0, hT1] at a3
                  rw [hT1] at a4
                  rw [hT0]
                  have hT1' := Lib.hid hT1
                  obtain ⟨xn, ⟨xp, xc, xl⟩, ⟨zp, zc, zl⟩, ⟨dn, ⟨dp, dc, dl⟩⟩⟩ := e
                  simp only [taN] at a3
                  have a9 := Lib.hid (add2 T0 T1 _ _ a3 a4 t4'.out)
                  have d0 := fun y => (hc.plus y).c0 _ rfl
                  have d1 := fun y => (hc.plus y).cs 0 _ rfl
                  have d2 := fun y => (hc.plus y).cs 1 _ rfl
                  have d3 := fun y => (hc.plus y).cs 2 _ rfl
                  have d4 := fun y => (hc.plus y).cs 3 _ rfl
                  simp only [Sl.v] at d0 d1 d2 d3 d4
                  have a6 := Lib.hid (wr_succ k nt hlt bt'.out)
                  clear hc he a3 a4 hT0 hT1
                  go_wp2
                  go_roundw
                  case rel => exact ⟨k + 1, hlt, congrArg (Value.int .i64) a6.out, congrArg (Value.int .i64) (a9.out.trans (by rw [hT1'.out])), plus_alloc1 W y _⟩
                  case measure => exact step_less k nt hlt a6.out
                · obtain rfl : k = nt := by omega
                  have hw : tally taN B3 tl k = B4 := by
                    rw [tally_all taN B3 tl k hnt'.out, hB4'.out]
                  rw [hw]
                  clear hlt hk hw
                  go_wp2
                  go_ret
                  exact ⟨congrArg (fun z : Nat => Ending.returned (Value.int .i64 (z : Int))) hfin'.out, by rw [hz'.out, plus_plus]; exact ⟨_, rfl⟩⟩
end Go.Proofs.Ytplkiadkkefppaa
