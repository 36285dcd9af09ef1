/-
  WHAT IS PROVED HERE: what the document's Stmts and Items of layer 4 hand back. Written by gen/hc.py.
-/
import Derived.Test.YtlmhldcebllckaaGreatRows
import Derived.Test.YtlmhldcebllckaaGreatHP
import Derived.WalkKit
import Derived.Lib.Hide
import Derived.WalkSpells
import Derived.WalkLawsBesides
import Derived.Laws.EntriesVeiled
import Derived.Shelf.Abstract
namespace Go.Proofs.YtlmhldcebllckaaGreat
open Go.RowKit
theorem it_step2 (T0 T1 I1 I2 n M S R : Nat) (h3 : T1 = T0 + (I1 + I2)) (h4 : T1 ≤ n + M) (hsum : R = n + M) (hle : R ≤ S) (hb : S ≤ 1048576) : wrap64 (wrap64 ((T0 : Int) + (I1 : Int)) + (I2 : Int)) = (T1 : Int) := by
  rw [wr_in ((T0 : Int) + (I1 : Int)) (by omega), wr_in _ (by omega)]
  omega
def StmtsAt (L : Sl St) : Prop := ∀ (w : World), L.In w 14 St.cells (St.In w) → L.size St.sz ≤ 1048576 → Kp Tryz.prog w 25 #[L.v] (.int .i64 (St.its L.l : Int))
set_option maxRecDepth 100000 in
set_option maxHeartbeats 8000000 in
theorem rstmts_of (L : Sl St) (ih : ∀ x ∈ L.l, StmtsAt x.thnS ∧ StmtsAt x.elsS) : StmtsAt L := by
  intro w hin hb y0
  have hin := hin.plus (fun _ a => a.plus y0) y0
  obtain ⟨W, hV⟩ : ∃ V, plus w y0 = V := ⟨_, rfl⟩
  rw [hV] at hin ⊢
  clear hV
  obtain ⟨p, cap, l⟩ := L
  obtain ⟨_, _, hrow, hkids⟩ := hin
  simp only [Sl.size, Sl.v] at hb ih hrow hkids ⊢
  obtain ⟨n, hn⟩ : ∃ n, l.length = n := ⟨_, rfl⟩
  have hl : n ≤ 1048576 := by have := length_le_sum St.sz St.sz_pos l; omega
  have hsum := St.its_sum l
  have hle := St.its_sz l
  rw [hn] at hsum ⊢
  obtain ⟨R, hR⟩ : ∃ R, St.its l = R := ⟨_, rfl⟩
  rw [hR] at hsum hle ⊢
  have ih' := Lib.hid ih
  have hrow' := Lib.hid hrow
  have hkids' := Lib.hid hkids
  have hb' := Lib.hid hb
  have hn' := Lib.hid hn
  have hl' := Lib.hid hl
  have hsum' := Lib.hid hsum
  have hle' := Lib.hid hle
  clear hl ih hrow hkids hb hn hsum hR hle
  go_enter Tryz.func25, Tryz.ntmps25
  go_wp2
  have h0 : (n : Int) = (tally St.more n l 0 : Int) := by rw [tally_zero]
  go_loopw [3, 4] (fun nv iv wr => ∃ k : Nat, k ≤ n ∧ iv = .int .i64 (k : Int) ∧ nv = .int .i64 (tally St.more n l k : Int) ∧ ∃ y, wr = plus W y) (fun _ iv _ => n - (intOf iv).toNat)
  case atStart => exact ⟨0, Nat.zero_le _, rfl, congrArg (Value.int .i64) h0, ⟨#[], W.drawn⟩, (plus_self W).symm⟩
  case round =>
    obtain ⟨k, hk, rfl, rfl, y, rfl⟩ := hrel
    by_cases hlt : k < n
    · obtain ⟨e, he⟩ : ∃ e, l[k]? = some e := ⟨l[k]'(by rw [hn'.out]; exact hlt), List.getElem?_eq_getElem _⟩
      obtain ⟨a, rfl, hc⟩ := hrow'.out k e he
      have hmem : e ∈ l := List.mem_of_getElem? he
      have hew := le_sum_of St.sz l e hmem
      have hin := hkids'.out e hmem
      have i1 := ((ih'.out e hmem).1 W hin.inThn (St.thn_sz e hew hb'.out)).pure
      have i2 := ((ih'.out e hmem).2 W hin.inEls (St.els_sz e hew hb'.out)).pure
      have a3 := tally_succ St.more n l k e he
      have a4 := tally_le St.more n l (k + 1)
      obtain ⟨T0, hT0⟩ : ∃ T, tally St.more n l k = T := ⟨_, rfl⟩
      obtain ⟨T1, hT1⟩ : ∃ T, tally St.more n l (k + 1) = T := ⟨_, rfl⟩
      rw [hT0, hT1] at a3
      rw [hT1] at a4
      rw [hT0]
      have hm : e.more = St.its e.thn + St.its e.els := rfl
      rw [hm] at a3
      obtain ⟨kd, hd, nm, ⟨eop, ⟨elw, elh, ell⟩, ehd, enm, eeh, eel, ep, ecap, eargs⟩, tp, tc, tl, up, uc, ul⟩ := e
      simp only [St.thnS, St.elsS, Sl.v, St.p, St.cap, St.thn, St.q, St.cbp, St.els] at i1 i2 a3
      obtain ⟨I1, hI1⟩ : ∃ I, St.its tl = I := ⟨_, rfl⟩
      obtain ⟨I2, hI2⟩ : ∃ I, St.its ul = I := ⟨_, rfl⟩
      rw [hI1] at i1 a3
      rw [hI2] at i2 a3
      have a9 := Lib.hid (it_step2 T0 T1 I1 I2 n _ _ R a3 a4 hsum'.out hle'.out hb'.out)
      have hT1' := Lib.hid hT1
      have d12 := fun y => (hc.plus y).cs 11 _ rfl
      have d13 := fun y => (hc.plus y).cs 12 _ rfl
      simp only [St.p, St.cap, St.thn, St.q, St.cbp, St.els] at d12 d13
      have i1' := Lib.hid i1
      have i2' := Lib.hid i2
      have a6 := Lib.hid (wr_succ k n hlt hl'.out)
      clear hc hew hmem he hin i1 i2 a3 a4 hT0 hT1 hm hI1 hI2
      go_wp2
      refine wp_region_own (by kernel_rfl) (by kernel_rfl) ?_
      repeat (go_big_quiet_step (first | (with_reducible exact i1'.out _) | (with_reducible exact i2'.out _)))
      refine wpQuiet_nil ?_
      rintro _ ⟨y1, rfl⟩
      go_wp2
      go_roundw
      case rel => exact ⟨k + 1, hlt, congrArg (Value.int .i64) a6.out, congrArg (Value.int .i64) (a9.out.trans (by rw [hT1'.out])), _, rfl⟩
      case measure => exact step_less k n hlt a6.out
    · obtain rfl : k = n := by omega
      have hw : tally St.more k l k = R := by rw [tally_all St.more k l k hn'.out, hsum'.out]
      rw [hw]
      clear hlt hk hw
      go_wp2
      go_ret
      exact ⟨rfl, _, rfl⟩
theorem rstmts_at : ∀ s : St, StmtsAt s.thnS ∧ StmtsAt s.elsS := fun s => St.ind (Q := fun s => StmtsAt s.thnS ∧ StmtsAt s.elsS) (fun s h1 h2 => ⟨rstmts_of s.thnS h1, rstmts_of s.elsS h2⟩) s
theorem rstmts_in (L : Sl St) : StmtsAt L := rstmts_of L fun x _ => rstmts_at x
def hrM (h : Hr) : Nat := hrN h + 1
def saM (s : Sa) : Nat := saN s + 2
def acM (a : Ac) : Nat := acN a + 1
def taM (t : Ta) : Nat := taN t + 2
theorem sum_more {α : Type} (f g : α → Nat) (c : Nat) (h : ∀ x, g x = f x + c) : ∀ l : List α, (l.map g).sum = (l.map f).sum + c * l.length
  | [] => by simp
  | x :: l => by
    have := sum_more f g c h l
    simp only [List.map_cons, List.sum_cons, List.length_cons, h, this, Nat.mul_add]
    omega
theorem iaddA (T0 T1 x : Nat) {B M : Nat} (h : T1 = T0 + (x + 1)) (h4 : T1 ≤ B + M) (hb : B + M ≤ 2097152) : wrap64 (wrap64 ((T0 : Int) + (x : Int)) + 1) = (T1 : Int) := by
  rw [wr_in ((T0 : Int) + (x : Int)) (by omega), wr_in _ (by omega)]; omega
theorem iaddB (T0 T1 x y : Nat) {B M : Nat} (h : T1 = T0 + (x + y + 2)) (h4 : T1 ≤ B + M) (hb : B + M ≤ 2097152) : wrap64 (wrap64 (wrap64 (wrap64 ((T0 : Int) + 1) + (x : Int)) + 1) + (y : Int)) = (T1 : Int) := by
  rw [wr_in ((T0 : Int) + 1) (by omega), wr_in ((T0 : Int) + 1 + (x : Int)) (by omega), wr_in ((T0 : Int) + 1 + (x : Int) + 1) (by omega), wr_in _ (by omega)]; omega
theorem iaddC (T0 T1 x y : Nat) {B M : Nat} (h : T1 = T0 + (x + y + 1)) (h4 : T1 ≤ B + M) (hb : B + M ≤ 2097152) : wrap64 (wrap64 (wrap64 ((T0 : Int) + 1) + (x : Int)) + (y : Int)) = (T1 : Int) := by
  rw [wr_in ((T0 : Int) + 1) (by omega), wr_in ((T0 : Int) + 1 + (x : Int)) (by omega), wr_in _ (by omega)]; omega
theorem iaddD (T0 T1 x y : Nat) {B M : Nat} (h : T1 = T0 + (x + y + 2)) (h4 : T1 ≤ B + M) (hb : B + M ≤ 2097152) : wrap64 (wrap64 (wrap64 (wrap64 ((T0 : Int) + 1) + (x : Int)) + (y : Int)) + 1) = (T1 : Int) := by
  rw [wr_in ((T0 : Int) + 1) (by omega), wr_in ((T0 : Int) + 1 + (x : Int)) (by omega), wr_in ((T0 : Int) + 1 + (x : Int) + (y : Int)) (by omega), wr_in _ (by omega)]; omega
theorem iaddM (T0 T1 x : Nat) (h : T0 + x = T1) (hb : T1 ≤ 2097152) : wrap64 ((T0 : Int) + (x : Int)) = (T1 : Int) := by
  rw [wr_in _ (by omega)]; omega
theorem iaddE (T0 T1 x y : Nat) (h : T0 + x + y = T1) (hb : T1 ≤ 2097152) : wrap64 (wrap64 ((T0 : Int) + (x : Int)) + (y : Int)) = (T1 : Int) := by
  rw [wr_in ((T0 : Int) + (x : Int)) (by omega), wr_in _ (by omega)]; omega
set_option maxRecDepth 100000 in
set_option maxHeartbeats 16000000 in
theorem ritems_in (p : Pr) (w : World) (hin : p.In w) (hz : p.sz ≤ 1048576) : Kp Tryz.prog w 9 #[.agg p.cells.toArray] (.int .i64 (prI p : Int)) := by
  intro y0
  have hin := hin.plus y0
  obtain ⟨V, hV⟩ : ∃ V, plus w y0 = V := ⟨_, rfl⟩
  rw [hV] at hin ⊢
  clear hV
  have htot := prI_le p hz
  have hzu := hz
  unfold Pr.sz at hzu
  have bc : p.control.size St.sz ≤ 1048576 := by omega
  have ba : p.actions.size Ac.sz ≤ 1048576 := by omega
  have bh : p.headers.l.length ≤ 1048576 := len_le Hr.sz sz_pos_hr _ (by omega)
  have bs : p.states.l.length ≤ 1048576 := len_le Sa.sz sz_pos_sa _ (by omega)
  have bA : p.actions.l.length ≤ 1048576 := len_le Ac.sz sz_pos_ac _ ba
  have bt : p.tables.l.length ≤ 1048576 := len_le Ta.sz sz_pos_ta _ (by omega)
  have hic := rstmts_in p.control V hin.control bc
  have hia := fun (x : Ac) (hx : x ∈ p.actions.l) => rstmts_in x.body V (hin.actions.kids x hx).body (by have := one_sz ba hx; unfold Ac.sz at this; omega)
  have r0 := hin.headers.row
  have r1 := hin.states.row
  have r2 := hin.actions.row
  have r3 := hin.tables.row
  obtain ⟨⟨hp, hcp, hl⟩, ⟨mp, mcp, ml⟩, ⟨sp, scp, sl⟩, ⟨ap, acp, al⟩, ⟨tp, tcp, tl⟩, ⟨cp, ccp, cl⟩, ⟨ep, ecp, el⟩⟩ := p
  have hprI : prI ⟨⟨hp, hcp, hl⟩, ⟨mp, mcp, ml⟩, ⟨sp, scp, sl⟩, ⟨ap, acp, al⟩, ⟨tp, tcp, tl⟩, ⟨cp, ccp, cl⟩, ⟨ep, ecp, el⟩⟩ = hl.length + ml.length + 2 * sl.length + al.length + 2 * tl.length + St.its cl + el.length + (hl.map hrN).sum + (sl.map saN).sum + (al.map acN).sum + (tl.map taN).sum := rfl
  have m1 := sum_more hrN hrM 1 (fun _ => rfl) hl
  have m2 := sum_more saN saM 2 (fun _ => rfl) sl
  have m3 := sum_more acN acM 1 (fun _ => rfl) al
  have m4 := sum_more taN taM 2 (fun _ => rfl) tl
  obtain ⟨R, hR⟩ : ∃ R, prI ⟨⟨hp, hcp, hl⟩, ⟨mp, mcp, ml⟩, ⟨sp, scp, sl⟩, ⟨ap, acp, al⟩, ⟨tp, tcp, tl⟩, ⟨cp, ccp, cl⟩, ⟨ep, ecp, el⟩⟩ = R := ⟨_, rfl⟩
  rw [hR] at hprI htot ⊢
  simp only [Sl.v] at bh bs bA bt hic hia r0 r1 r2 r3
  show Calls Tryz.prog 9 #[.agg #[.slice hp hl.length hcp, .slice mp ml.length mcp, .slice sp sl.length scp, .slice ap al.length acp, .slice tp tl.length tcp, .slice cp cl.length ccp, .slice ep el.length ecp]] V _
  obtain ⟨nh, hnh⟩ : ∃ n, hl.length = n := ⟨_, rfl⟩
  obtain ⟨ns, hns⟩ : ∃ n, sl.length = n := ⟨_, rfl⟩
  obtain ⟨na, hna⟩ : ∃ n, al.length = n := ⟨_, rfl⟩
  obtain ⟨nt, hnt⟩ : ∃ n, tl.length = n := ⟨_, rfl⟩
  rw [hnh] at bh hprI m1 ⊢
  rw [hns] at bs hprI m2 ⊢
  rw [hna] at bA hprI m3 ⊢
  rw [hnt] at bt hprI m4 ⊢
  obtain ⟨I, hI⟩ : ∃ I, St.its cl = I := ⟨_, rfl⟩
  rw [hI] at hprI hic
  generalize ml.length = nm at hprI ⊢
  generalize cl.length = nc at hic ⊢
  generalize el.length = ne at hprI ⊢
  obtain ⟨B1, hB1⟩ : ∃ B, 0 + (hl.map hrM).sum = B := ⟨_, rfl⟩
  obtain ⟨B2, hB2⟩ : ∃ B, B1 + nm = B := ⟨_, rfl⟩
  obtain ⟨B3, hB3⟩ : ∃ B, B2 + (sl.map saM).sum = B := ⟨_, rfl⟩
  obtain ⟨B4, hB4⟩ : ∃ B, B3 + (al.map acM).sum = B := ⟨_, rfl⟩
  obtain ⟨B5, hB5⟩ : ∃ B, B4 + (tl.map taM).sum = B := ⟨_, rfl⟩
  have hfin : B5 + I + ne = R := by omega
  have t1 : 0 + (hl.map hrM).sum ≤ 2097152 := by omega
  have t2 : B2 ≤ 2097152 := by omega
  have t3 : B2 + (sl.map saM).sum ≤ 2097152 := by omega
  have t4 : B3 + (al.map acM).sum ≤ 2097152 := by omega
  have t5 : B4 + (tl.map taM).sum ≤ 2097152 := by omega
  have hE2 : wrap64 ((B1 : Int) + (nm : Int)) = (B2 : Int) := iaddM B1 B2 nm hB2 t2
  have hE6 : wrap64 (wrap64 ((B5 : Int) + (I : Int)) + (ne : Int)) = (R : Int) := iaddE B5 R I ne hfin htot
  have hE2' := Lib.hid hE2
  have hE6' := Lib.hid hE6
  have t1' := Lib.hid t1
  have t3' := Lib.hid t3
  have t4' := Lib.hid t4
  have t5' := Lib.hid t5
  have hB1' := Lib.hid hB1
  have hB3' := Lib.hid hB3
  have hB4' := Lib.hid hB4
  have hB5' := Lib.hid hB5
  have r0' := Lib.hid r0
  have r1' := Lib.hid r1
  have r2' := Lib.hid r2
  have r3' := Lib.hid r3
  have hnh' := Lib.hid hnh
  have hns' := Lib.hid hns
  have hna' := Lib.hid hna
  have hnt' := Lib.hid hnt
  have bh' := Lib.hid bh
  have bs' := Lib.hid bs
  have bA' := Lib.hid bA
  have bt' := Lib.hid bt
  have hic' := Lib.hid hic
  have hia' := Lib.hid hia
  clear hE2 hE6 t1 t3 t4 t5 hB1 hB3 hB4 hB5 r0 r1 r2 r3 hnh hns hna hnt bh bs bA bt hic hia hfin t2 hB2 hR hprI htot hz hzu bc ba hin hI m1 m2 m3 m4
  go_enter Tryz.func9, Tryz.ntmps9
  go_upto_region 1 with (fail)
  obtain ⟨W, yy, hW, ⟨z, hz⟩, ca⟩ := box1n V _ 30
  rw [hW]
  have e0_0 := ca 0 _ rfl
  have e0_1 := ca 1 _ rfl
  have e0_2 := ca 2 _ rfl
  have e0_3 := ca 3 _ rfl
  have e0_4 := ca 4 _ rfl
  have e0_5 := ca 5 _ rfl
  have e0_6 := ca 6 _ rfl
  have q1 := Lib.hid (kp_at hz hic'.out)
  have hz' := Lib.hid hz
  clear hW hz ca hic'
  go_wp2_with fail
  go_loopw [3, 4] (fun nv iv wr => ∃ k : Nat, k ≤ nh ∧ iv = .int .i64 (k : Int) ∧ nv = .int .i64 (tally hrM 0 hl k : Int) ∧ ∃ y, wr = plus W y) (fun _ iv _ => nh - (intOf iv).toNat)
  case atStart => exact ⟨0, Nat.zero_le _, rfl, congrArg (Value.int .i64) (by rw [tally_zero]; rfl), _, rfl⟩
  case round =>
    obtain ⟨k, hk, rfl, rfl, y, rfl⟩ := hrel
    by_cases hlt : k < nh
    · obtain ⟨e, he⟩ : ∃ e, hl[k]? = some e := ⟨hl[k]'(by rw [hnh'.out]; exact hlt), List.getElem?_eq_getElem _⟩
      obtain ⟨a, rfl, hc⟩ := r0'.out k e he
      have hc := hz'.out ▸ hc.plus z
      have a3 := tally_succ hrM 0 hl k e he
      have a4 := tally_le hrM 0 hl (k + 1)
      obtain ⟨T0, hT0⟩ : ∃ T, tally hrM 0 hl k = T := ⟨_, rfl⟩
      obtain ⟨T1, hT1⟩ : ∃ T, tally hrM 0 hl (k + 1) = T := ⟨_, rfl⟩
      rw [hT0, hT1] at a3
      rw [hT1] at a4
      rw [hT0]
      have hT1' := Lib.hid hT1
      obtain ⟨xn, ⟨fp, fc, fl⟩⟩ := e
      simp only [hrM, hrN] at a3
      have a9 := Lib.hid (iaddA T0 T1 _ a3 a4 t1'.out)
      have d0 := fun y => (hc.plus y).c0 _ rfl
      have d1 := fun y => (hc.plus y).cs 0 _ rfl
      simp only [Sl.v] at d0 d1
      have a6 := Lib.hid (wr_succ k nh hlt bh'.out)
      clear hc he a3 a4 hT0 hT1
      go_wp2
      go_roundw
      case rel => exact ⟨k + 1, hlt, congrArg (Value.int .i64) a6.out, congrArg (Value.int .i64) (a9.out.trans (by rw [hT1'.out])), _, rfl⟩
      case measure => exact step_less k nh hlt a6.out
    · obtain rfl : k = nh := by omega
      have hw : tally hrM 0 hl k = B1 := by
        rw [tally_all hrM 0 hl k hnh'.out, hB1'.out]
      rw [hw]
      clear hlt hk hw
      go_wp2
      go_loopw [3, 5] (fun nv iv wr => ∃ k : Nat, k ≤ ns ∧ iv = .int .i64 (k : Int) ∧ nv = .int .i64 (tally saM B2 sl k : Int) ∧ ∃ y, wr = plus W y) (fun _ iv _ => ns - (intOf iv).toNat)
      case atStart => exact ⟨0, Nat.zero_le _, rfl, congrArg (Value.int .i64) (hE2'.out.trans (by rw [tally_zero])), _, rfl⟩
      case round =>
        obtain ⟨k, hk, rfl, rfl, y, rfl⟩ := hrel
        by_cases hlt : k < ns
        · obtain ⟨e, he⟩ : ∃ e, sl[k]? = some e := ⟨sl[k]'(by rw [hns'.out]; exact hlt), List.getElem?_eq_getElem _⟩
          obtain ⟨a, rfl, hc⟩ := r1'.out k e he
          have hc := hz'.out ▸ hc.plus z
          have a3 := tally_succ saM B2 sl k e he
          have a4 := tally_le saM B2 sl (k + 1)
          obtain ⟨T0, hT0⟩ : ∃ T, tally saM B2 sl k = T := ⟨_, rfl⟩
          obtain ⟨T1, hT1⟩ : ∃ T, tally saM B2 sl (k + 1) = T := ⟨_, rfl⟩
          rw [hT0, hT1] at a3
          rw [hT1] at a4
          rw [hT0]
          have hT1' := Lib.hid hT1
          obtain ⟨xn, ⟨xp, xc, xl⟩, xt, ⟨kp, kc, kl⟩, ⟨zp, zc, zl⟩⟩ := e
          simp only [saM, saN] at a3
          have a9 := Lib.hid (iaddB T0 T1 _ _ a3 a4 t3'.out)
          have d0 := fun y => (hc.plus y).c0 _ rfl
          have d1 := fun y => (hc.plus y).cs 0 _ rfl
          have d2 := fun y => (hc.plus y).cs 1 _ rfl
          have d3 := fun y => (hc.plus y).cs 2 _ rfl
          have d4 := fun y => (hc.plus y).cs 3 _ rfl
          simp only [Sl.v] at d0 d1 d2 d3 d4
          have a6 := Lib.hid (wr_succ k ns hlt bs'.out)
          clear hc he a3 a4 hT0 hT1
          go_wp2
          refine wp_region_own (by kernel_rfl) (by kernel_rfl) ?_
          repeat (go_big_quiet_step (fail))
          refine wpQuiet_nil ?_
          rintro _ ⟨y1, rfl⟩
          go_wp2
          go_roundw
          case rel => exact ⟨k + 1, hlt, congrArg (Value.int .i64) a6.out, congrArg (Value.int .i64) (a9.out.trans (by rw [hT1'.out])), _, rfl⟩
          case measure => exact step_less k ns hlt a6.out
        · obtain rfl : k = ns := by omega
          have hw : tally saM B2 sl k = B3 := by
            rw [tally_all saM B2 sl k hns'.out, hB3'.out]
          rw [hw]
          clear hlt hk hw
          go_wp2
          go_loopw [3, 6] (fun nv iv wr => ∃ k : Nat, k ≤ na ∧ iv = .int .i64 (k : Int) ∧ nv = .int .i64 (tally acM B3 al k : Int) ∧ ∃ y, wr = plus W y) (fun _ iv _ => na - (intOf iv).toNat)
          case atStart => exact ⟨0, Nat.zero_le _, rfl, congrArg (Value.int .i64) (by rw [tally_zero]), _, rfl⟩
          case round =>
            obtain ⟨k, hk, rfl, rfl, y, rfl⟩ := hrel
            by_cases hlt : k < na
            · obtain ⟨e, he⟩ : ∃ e, al[k]? = some e := ⟨al[k]'(by rw [hna'.out]; exact hlt), List.getElem?_eq_getElem _⟩
              obtain ⟨a, rfl, hc⟩ := r2'.out k e he
              have hc := hz'.out ▸ hc.plus z
              have a3 := tally_succ acM B3 al k e he
              have a4 := tally_le acM B3 al (k + 1)
              have i1 := kp_at hz'.out (hia'.out e (List.mem_of_getElem? he))
              obtain ⟨T0, hT0⟩ : ∃ T, tally acM B3 al k = T := ⟨_, rfl⟩
              obtain ⟨T1, hT1⟩ : ∃ T, tally acM B3 al (k + 1) = T := ⟨_, rfl⟩
              rw [hT0, hT1] at a3
              rw [hT1] at a4
              rw [hT0]
              have hT1' := Lib.hid hT1
              obtain ⟨xn, ⟨xp, xc, xl⟩, ⟨zp, zc, zl⟩⟩ := e
              simp only [acM, acN] at a3
              have a9 := Lib.hid (iaddC T0 T1 _ _ a3 a4 t4'.out)
              have d0 := fun y => (hc.plus y).c0 _ rfl
              have d1 := fun y => (hc.plus y).cs 0 _ rfl
              have d2 := fun y => (hc.plus y).cs 1 _ rfl
              simp only [Sl.v] at d0 d1 d2
              have a6 := Lib.hid (wr_succ k na hlt bA'.out)
              simp only at i1
              generalize St.its zl = I1 at i1 a9
              have i1' := Lib.hid i1
              clear i1
              clear hc he a3 a4 hT0 hT1
              go_wp2
              refine wp_region_own (by kernel_rfl) (by kernel_rfl) ?_
              repeat (go_big_quiet_step (first | (with_reducible exact i1'.out _)))
              refine wpQuiet_nil ?_
              rintro _ ⟨y1, rfl⟩
              go_wp2
              go_roundw
              case rel => exact ⟨k + 1, hlt, congrArg (Value.int .i64) a6.out, congrArg (Value.int .i64) (a9.out.trans (by rw [hT1'.out])), _, rfl⟩
              case measure => exact step_less k na hlt a6.out
            · obtain rfl : k = na := by omega
              have hw : tally acM B3 al k = B4 := by
                rw [tally_all acM B3 al k hna'.out, hB4'.out]
              rw [hw]
              clear hlt hk hw
              go_wp2
              go_loopw [3, 7] (fun nv iv wr => ∃ k : Nat, k ≤ nt ∧ iv = .int .i64 (k : Int) ∧ nv = .int .i64 (tally taM B4 tl k : Int) ∧ ∃ y, wr = plus W y) (fun _ iv _ => nt - (intOf iv).toNat)
              case atStart => exact ⟨0, Nat.zero_le _, rfl, congrArg (Value.int .i64) (by rw [tally_zero]), _, rfl⟩
              case round =>
                obtain ⟨k, hk, rfl, rfl, y, rfl⟩ := hrel
                by_cases hlt : k < nt
                · obtain ⟨e, he⟩ : ∃ e, tl[k]? = some e := ⟨tl[k]'(by rw [hnt'.out]; exact hlt), List.getElem?_eq_getElem _⟩
                  obtain ⟨a, rfl, hc⟩ := r3'.out k e he
                  have hc := hz'.out ▸ hc.plus z
                  have a3 := tally_succ taM B4 tl k e he
                  have a4 := tally_le taM B4 tl (k + 1)
                  obtain ⟨T0, hT0⟩ : ∃ T, tally taM B4 tl k = T := ⟨_, rfl⟩
                  obtain ⟨T1, hT1⟩ : ∃ T, tally taM B4 tl (k + 1) = T := ⟨_, rfl⟩
                  rw [hT0, hT1] at a3
                  rw [hT1] at a4
                  rw [hT0]
                  have hT1' := Lib.hid hT1
                  obtain ⟨xn, ⟨xp, xc, xl⟩, ⟨zp, zc, zl⟩, ⟨dn, ⟨dp, dc, dl⟩⟩⟩ := e
                  simp only [taM, taN] at a3
                  have a9 := Lib.hid (iaddD T0 T1 _ _ a3 a4 t5'.out)
                  have d0 := fun y => (hc.plus y).c0 _ rfl
                  have d1 := fun y => (hc.plus y).cs 0 _ rfl
                  have d2 := fun y => (hc.plus y).cs 1 _ rfl
                  have d3 := fun y => (hc.plus y).cs 2 _ rfl
                  have d4 := fun y => (hc.plus y).cs 3 _ rfl
                  simp only [Sl.v] at d0 d1 d2 d3 d4
                  have a6 := Lib.hid (wr_succ k nt hlt bt'.out)
                  clear hc he a3 a4 hT0 hT1
                  go_wp2
                  refine wp_region_own (by kernel_rfl) (by kernel_rfl) ?_
                  repeat (go_big_quiet_step (fail))
                  refine wpQuiet_nil ?_
                  rintro _ ⟨y1, rfl⟩
                  go_wp2
                  go_roundw
                  case rel => exact ⟨k + 1, hlt, congrArg (Value.int .i64) a6.out, congrArg (Value.int .i64) (a9.out.trans (by rw [hT1'.out])), _, rfl⟩
                  case measure => exact step_less k nt hlt a6.out
                · obtain rfl : k = nt := by omega
                  have hw : tally taM B4 tl k = B5 := by
                    rw [tally_all taM B4 tl k hnt'.out, hB5'.out]
                  rw [hw]
                  clear hlt hk hw
                  go_wp2
                  refine wp_region_own (by kernel_rfl) (by kernel_rfl) ?_
                  repeat (go_big_quiet_step (first | (with_reducible exact q1.out _)))
                  refine wpQuiet_nil ?_
                  rintro _ ⟨y1, rfl⟩
                  go_wp2
                  go_ret
                  exact ⟨congrArg (fun z : Int => Ending.returned (Value.int .i64 z)) hE6'.out, by rw [hz'.out, plus_plus]; exact ⟨_, rfl⟩⟩
end Go.Proofs.YtlmhldcebllckaaGreat
