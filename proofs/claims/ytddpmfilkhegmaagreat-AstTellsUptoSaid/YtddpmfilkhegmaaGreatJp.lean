/-
  WHAT IS PROVED HERE: what the document's sameTable of layer 4 hands back. Written by gen/hc.py.
-/
import Derived.Test.YtddpmfilkhegmaaGreatRows
import Derived.Test.YtddpmfilkhegmaaGreatJk
import Derived.WalkKit
import Derived.Lib.Hide
import Derived.WalkSpells
import Derived.WalkLawsBesides
import Derived.Laws.EntriesVeiled
import Derived.Shelf.Abstract
import Derived.Deep.CutRange
import Derived.Deep.RegionHeld3
namespace Go.Proofs.YtddpmfilkhegmaaGreat
open Go.RowKit
theorem eqAll_dec {α : Type} (f : α → α → Bool) (l r : List α) : eqAll f l r = (decide (l.length = r.length) && eqAll f l r) := by
  by_cases h : l.length = r.length
  · rw [decide_eq_true h, Bool.true_and]
  · rw [eqAll_length f l r h, Bool.and_false]
theorem rsame_names (A B : Sl ByteArray) (w : World) (hA : A.In w 1 strCells strOk) (hB : B.In w 1 strCells strOk) (bA : A.size strSize ≤ 1048576) : Kp Tryz.prog w 64 #[A.v, B.v] (.bool (eqAll eqStr A.l B.l)) :=
  Kp.ofPure fun y => ref_SameNames A B _ (hA.plus (fun _ a => a) y) (hB.plus (fun _ a => a) y) bA
theorem rsame_lits (A B : Sl Lt) (w : World) (hA : A.In w 3 Lt.cells Lt.Ok) (hB : B.In w 3 Lt.cells Lt.Ok) (bA : A.size (fun _ => 1) ≤ 1048576) : Kp Tryz.prog w 105 #[A.v, B.v] (.bool (eqAll eqLt A.l B.l)) :=
  Kp.ofPure fun y => ref_SameLits A B _ (hA.plus (fun _ a => a) y) (hB.plus (fun _ a => a) y) bA
theorem rsame_fields (A B : Sl Fd) (w : World) (hA : A.In w 2 Fd.cells (Fd.In w)) (hB : B.In w 2 Fd.cells (Fd.In w)) (bA : A.size Fd.sz ≤ 1048576) : Kp Tryz.prog w 60 #[A.v, B.v] (.bool (eqAll eqFd A.l B.l)) :=
  Kp.ofPure fun y => ref_SameFields A B _ (hA.plus (fun _ a => a.plus y) y) (hB.plus (fun _ a => a.plus y) y) bA
theorem rsame_exprs (A B : Sl Ex) (w : World) (hA : A.In w 9 Ex.cells (Ex.In w)) (hB : B.In w 9 Ex.cells (Ex.In w)) (bA : A.size Ex.wt ≤ 1048576) (bB : B.size Ex.wt ≤ 1048576) : Kp Tryz.prog w 67 #[A.v, B.v] (.bool (eqAll Ex.same A.l B.l)) :=
  Kp.ofPure fun y => by rw [← Ex.sames_eq]; exact same_exprs A B _ (hA.plus (fun _ a => a.plus y) y) (hB.plus (fun _ a => a.plus y) y) bA bB
theorem rsame_expr (a b : Ex) (w : World) (ha : a.In w) (hb : b.In w) (sa : a.wt ≤ 1048576) (sb : b.wt ≤ 1048576) : Kp Tryz.prog w 18 #[a.val, b.val] (.bool (a.same b)) :=
  Kp.ofPure fun y => same_expr_at a b _ (ha.plus y) (hb.plus y) sa sb
theorem rsame_stmts (A B : Sl St) (w : World) (hA : A.In w 14 St.cells (St.In w)) (hB : B.In w 14 St.cells (St.In w)) (bA : A.size St.sz ≤ 1048576) (bB : B.size St.sz ≤ 1048576) : Kp Tryz.prog w 62 #[A.v, B.v] (.bool (St.sames A.l B.l)) :=
  Kp.ofPure fun y => same_stmts A B _ (hA.plus (fun _ a => a.plus y) y) (hB.plus (fun _ a => a.plus y) y) bA bB
set_option maxRecDepth 100000 in
set_option maxHeartbeats 8000000 in
theorem rsame_table (a b : Ta) (w : World) (ha : a.In w) (hb : b.In w) (sa : a.sz ≤ 1048576) (sb : b.sz ≤ 1048576) : Kp Tryz.prog w 63 #[.agg a.cells.toArray, .agg b.cells.toArray] (.bool (eqTa a b)) := by
  intro y0
  have ha := ha.plus y0
  have hb := hb.plus y0
  obtain ⟨V, hV⟩ : ∃ V, plus w y0 = V := ⟨_, rfl⟩
  rw [hV] at ha hb ⊢
  clear hV
  unfold Ta.sz Cl.sz at sa sb
  have za : a.keys.size Ke.sz ≤ 1048576 := by omega
  have zb : b.keys.size Ke.sz ≤ 1048576 := by omega
  have bkn : a.keys.l.length ≤ 1048576 := len_le Ke.sz sz_pos_ke _ za
  have c0 := rsame_names a.actions b.actions V ha.actions hb.actions (by omega)
  have c1 := rsame_lits a.dflt.args b.dflt.args V ha.dflt.args hb.dflt.args (by omega)
  have ck := fun x (hx : x ∈ a.keys.l) y (hy : y ∈ b.keys.l) => rsame_expr (Ke.e x) (Ke.e y) V (ha.keys.kids x hx).e (hb.keys.kids y hy).e (by have := one_sz za hx; unfold Ke.sz at this; omega) (by have := one_sz zb hy; unfold Ke.sz at this; omega)
  have rk := ha.keys.row
  have rl := hb.keys.row
  obtain ⟨nm, ⟨kp, kc, kl⟩, ⟨ap, ac, al⟩, ⟨dn, ⟨gp, gc, gl⟩⟩⟩ := a
  obtain ⟨nm2, ⟨kp2, kc2, kl2⟩, ⟨ap2, ac2, al2⟩, ⟨dn2, ⟨gp2, gc2, gl2⟩⟩⟩ := b
  simp only [Sl.v] at bkn c0 c1 ck rk rl
  clear ha hb sa sb za zb
  have hT : eqTa ⟨nm, ⟨kp, kc, kl⟩, ⟨ap, ac, al⟩, ⟨dn, ⟨gp, gc, gl⟩⟩⟩ ⟨nm2, ⟨kp2, kc2, kl2⟩, ⟨ap2, ac2, al2⟩, ⟨dn2, ⟨gp2, gc2, gl2⟩⟩⟩ = (((nm.toList == nm2.toList) && (decide (kl.length = kl2.length) && (eqAll eqStr al al2 && ((dn.toList == dn2.toList) && eqAll eqLt gl gl2)))) && eqAll eqKe kl kl2) := by
    simp only [eqTa, eqStr]
    rw [eqAll_dec eqKe]
    ac_rfl
  rw [hT]
  clear hT
  show Calls Tryz.prog 63 #[.agg #[.string nm, .slice kp kl.length kc, .slice ap al.length ac, .string dn, .slice gp gl.length gc], .agg #[.string nm2, .slice kp2 kl2.length kc2, .slice ap2 al2.length ac2, .string dn2, .slice gp2 gl2.length gc2]] V _
  generalize eqAll eqStr al al2 = s0 at c0 ⊢
  generalize eqAll eqLt gl gl2 = s1 at c1 ⊢
  obtain ⟨kn, hkn⟩ : ∃ n, kl.length = n := ⟨_, rfl⟩
  obtain ⟨kn2, hkn2⟩ : ∃ n, kl2.length = n := ⟨_, rfl⟩
  rw [hkn] at bkn ⊢
  rw [hkn2]
  obtain ⟨A, hA⟩ : ∃ A, eqAll eqKe kl kl2 = A := ⟨_, rfl⟩
  obtain ⟨G, hG⟩ : ∃ A, ((nm.toList == nm2.toList) && (decide (kn = kn2) && (s0 && ((dn.toList == dn2.toList) && s1)))) = A := ⟨_, rfl⟩
  obtain ⟨R, hR⟩ : ∃ B, (G && A) = B := ⟨_, rfl⟩
  obtain ⟨C, hC⟩ : ∃ A, (!G) = A := ⟨_, rfl⟩
  rw [hA, hG, hR]
  have bkn' := Lib.hid bkn
  have c0' := Lib.hid c0
  have c1' := Lib.hid c1
  have ck' := Lib.hid ck
  have rk' := Lib.hid rk
  have rl' := Lib.hid rl
  have hkn' := Lib.hid hkn
  have hkn2' := Lib.hid hkn2
  have hA' := Lib.hid hA
  have hG' := Lib.hid hG
  have hR' := Lib.hid hR
  have hC' := Lib.hid hC
  clear bkn c0 c1 ck rk rl hkn hkn2 hA hG hR hC
  go_enter Tryz.func63, Tryz.ntmps63
  go_upto_region 1 with (fail)
  obtain ⟨W, yy, hW, ⟨z, hz⟩, cb0, cb1⟩ := box2n V _ _ 65 65
  rw [hW]
  have e0_0 := cb0 0 _ rfl
  have e0_1 := cb0 1 _ rfl
  have e0_2 := cb0 2 _ rfl
  have e0_3 := cb0 3 _ rfl
  have e0_4 := cb0 4 _ rfl
  have e1_0 := cb1 0 _ rfl
  have e1_1 := cb1 1 _ rfl
  have e1_2 := cb1 2 _ rfl
  have e1_3 := cb1 3 _ rfl
  have e1_4 := cb1 4 _ rfl
  have q0c := Lib.hid (kp_at hz c0'.out)
  have q1c := Lib.hid (kp_at hz c1'.out)
  have hz' := Lib.hid hz
  clear hW hz cb0 cb1 c0' c1'
  go_cut [46] from 6 to 46 (fun v wx => v = .bool C ∧ ∃ y, wx = plus W y)
  case first =>
    by_cases q0 : (nm.toList == nm2.toList) = true
    case pos =>
      by_cases q1 : kn = kn2
      case neg =>
        have q1x : ((kn : Int) != (kn2 : Int)) = true := by simp; omega
        have hF := Lib.hid (show (true) = C by rw [← hC'.out, ← hG'.out]; simp [q0, q1])
        go_wp2_with (fail)
        go_meet
        first | exact ⟨congrArg Value.bool hF.out, _, rfl⟩ | exact ⟨congrArg Value.bool (Eq.trans (by simp [q0, q1]) hF.out), _, rfl⟩
      case pos =>
        subst q1
        cases s0
        case false =>
          have hF := Lib.hid (show (true) = C by rw [← hC'.out, ← hG'.out]; simp [q0])
          go_wp2_with (first | (go_at_call 64; with_reducible refine (q0c.out _).mono ?_; rintro r w' ⟨rfl, x, rfl⟩))
          go_meet
          first | exact ⟨congrArg Value.bool hF.out, _, rfl⟩ | exact ⟨congrArg Value.bool (Eq.trans (by simp [q0]) hF.out), _, rfl⟩
        case true =>
          by_cases q3 : (dn.toList == dn2.toList) = true
          case pos =>
            cases s1
            case false =>
              have hF := Lib.hid (show (true) = C by rw [← hC'.out, ← hG'.out]; simp [q0, q3])
              go_wp2_with (first | (go_at_call 64; with_reducible refine (q0c.out _).mono ?_; rintro r w' ⟨rfl, x, rfl⟩) | (go_at_call 105; with_reducible refine (q1c.out _).mono ?_; rintro r w' ⟨rfl, x, rfl⟩))
              go_meet
              first | exact ⟨congrArg Value.bool hF.out, _, rfl⟩ | exact ⟨congrArg Value.bool (Eq.trans (by simp [q0, q3]) hF.out), _, rfl⟩
            case true =>
              have hF := Lib.hid (show (false) = C by rw [← hC'.out, ← hG'.out]; simp [q0, q3])
              go_wp2_with (first | (go_at_call 64; with_reducible refine (q0c.out _).mono ?_; rintro r w' ⟨rfl, x, rfl⟩) | (go_at_call 105; with_reducible refine (q1c.out _).mono ?_; rintro r w' ⟨rfl, x, rfl⟩))
              go_meet
              first | exact ⟨congrArg Value.bool hF.out, _, rfl⟩ | exact ⟨congrArg Value.bool (Eq.trans (by simp [q0, q3]) hF.out), _, rfl⟩
          case neg =>
            have q3 : (dn.toList == dn2.toList) = false := by simpa using q3
            have hF := Lib.hid (show (true) = C by rw [← hC'.out, ← hG'.out]; simp [q0, q3])
            go_wp2_with (first | (go_at_call 64; with_reducible refine (q0c.out _).mono ?_; rintro r w' ⟨rfl, x, rfl⟩))
            go_meet
            first | exact ⟨congrArg Value.bool hF.out, _, rfl⟩ | exact ⟨congrArg Value.bool (Eq.trans (by simp [q0, q3]) hF.out), _, rfl⟩
    case neg =>
      have q0 : (nm.toList == nm2.toList) = false := by simpa using q0
      have hF := Lib.hid (show (true) = C by rw [← hC'.out, ← hG'.out]; simp [q0])
      go_wp2_with (fail)
      go_meet
      first | exact ⟨congrArg Value.bool hF.out, _, rfl⟩ | exact ⟨congrArg Value.bool (Eq.trans (by simp [q0]) hF.out), _, rfl⟩
  case rest =>
    obtain ⟨rfl, y1, rfl⟩ := hcut
    clear q0c q1c
    cases G with
    | false =>
      have e : true = C := hC'.out
      subst e
      have hs2 := Lib.hid (show false = R from hR'.out)
      clear hC' hG'
      go_wp2_with fail
      go_ret
      exact ⟨congrArg (fun z => Ending.returned (Value.bool z)) hs2.out, by rw [hz'.out, plus_plus]; exact ⟨_, rfl⟩⟩
    | true =>
      have e : false = C := hC'.out
      subst e
      obtain rfl : kn = kn2 := by
        have h := hG'.out
        simp only [Bool.and_eq_true, decide_eq_true_eq] at h
        exact h.2.1
      have h0 := Lib.hid (show eqAll eqKe (kl.drop 0) (kl2.drop 0) = R by rw [List.drop_zero, List.drop_zero, hA'.out]; exact hR'.out)
      clear hC' hA' hR' hG'
      go_wp2_with fail
      go_loopw [5] (fun iv wr => ∃ k : Nat, k ≤ kn ∧ iv = .int .i64 (k : Int) ∧ Hid (eqAll eqKe (kl.drop k) (kl2.drop k) = R) ∧ ∃ y, wr = plus W y) (fun iv _ => kn - (intOf iv).toNat)
      case atStart => exact ⟨0, Nat.zero_le _, rfl, h0, _, rfl⟩
      case round =>
        obtain ⟨k, hk, rfl, hs, y, rfl⟩ := hrel
        by_cases hlt : k < kn
        · obtain ⟨a, ha⟩ : ∃ s, kl[k]? = some s := ⟨kl[k]'(by rw [hkn'.out]; exact hlt), List.getElem?_eq_getElem _⟩
          obtain ⟨b, hb⟩ : ∃ s, kl2[k]? = some s := ⟨kl2[k]'(by rw [hkn2'.out]; exact hlt), List.getElem?_eq_getElem _⟩
          obtain ⟨pa, hpa, hcV⟩ := rk'.out k a ha
          obtain ⟨pb, hpb, hdV⟩ := rl'.out k b hb
          have hma := List.mem_of_getElem? ha
          have hmb := List.mem_of_getElem? hb
          have hs1 : (eqKe a b && eqAll eqKe (kl.drop (k + 1)) (kl2.drop (k + 1))) = R := by rw [← eqAll_drop eqKe kl kl2 k a b ha hb]; exact hs.out
          have a6 := Lib.hid (wr_succ k kn hlt bkn'.out)
          have hc := hz'.out ▸ hcV.plus z
          have hd := hz'.out ▸ hdV.plus z
          clear hcV hdV
          obtain rfl := hpa
          obtain rfl := hpb
          have q1 := kp_at hz'.out (ck'.out a hma b hmb)
          obtain ⟨⟨eop, ⟨elw, elh, ell⟩, ehd, enm, eeh, eel, ep, ecap, eargs⟩, ka⟩ := a
          obtain ⟨⟨fop, ⟨flw, flh, fll⟩, fhd, fnm, feh, fel, fp, fcap, fargs⟩, kb⟩ := b
          simp only [eqKe] at q1 hs1
          obtain ⟨Z, hZ⟩ : ∃ Z, Ex.same (.mk eop ⟨elw, elh, ell⟩ ehd enm eeh eel ep ecap eargs) (.mk fop ⟨flw, flh, fll⟩ fhd fnm feh fel fp fcap fargs) = Z := ⟨_, rfl⟩
          rw [hZ] at q1 hs1
          have q1 : PureIn Tryz.prog W 18 #[.agg #[.int .u8 eop, .int .i64 elw, .int .u64 elh, .int .u64 ell, .string ehd, .string enm, .int .i64 eeh, .int .i64 eel, .slice ep eargs.length ecap], .agg #[.int .u8 fop, .int .i64 flw, .int .u64 flh, .int .u64 fll, .string fhd, .string fnm, .int .i64 feh, .int .i64 fel, .slice fp fargs.length fcap]] (.bool Z) := q1
          have d0 := fun y => (hc.plus y).c0 _ rfl
          have d1 := fun y => (hc.plus y).cs 0 _ rfl
          have d2 := fun y => (hc.plus y).cs 1 _ rfl
          have d3 := fun y => (hc.plus y).cs 2 _ rfl
          have d4 := fun y => (hc.plus y).cs 3 _ rfl
          have d5 := fun y => (hc.plus y).cs 4 _ rfl
          have d6 := fun y => (hc.plus y).cs 5 _ rfl
          have d7 := fun y => (hc.plus y).cs 6 _ rfl
          have d8 := fun y => (hc.plus y).cs 7 _ rfl
          have d9 := fun y => (hc.plus y).cs 8 _ rfl
          have g0 := fun y => (hd.plus y).c0 _ rfl
          have g1 := fun y => (hd.plus y).cs 0 _ rfl
          have g2 := fun y => (hd.plus y).cs 1 _ rfl
          have g3 := fun y => (hd.plus y).cs 2 _ rfl
          have g4 := fun y => (hd.plus y).cs 3 _ rfl
          have g5 := fun y => (hd.plus y).cs 4 _ rfl
          have g6 := fun y => (hd.plus y).cs 5 _ rfl
          have g7 := fun y => (hd.plus y).cs 6 _ rfl
          have g8 := fun y => (hd.plus y).cs 7 _ rfl
          have g9 := fun y => (hd.plus y).cs 8 _ rfl
          simp only [Ex.op, Ex.lit, Ex.head, Ex.name, Ex.hi, Ex.lo, Ex.p, Ex.cap, Ex.args] at d0 d1 d2 d3 d4 d5 d6 d7 d8 d9 g0 g1 g2 g3 g4 g5 g6 g7 g8 g9
          have q1' := Lib.hid q1
          clear q1 hZ hc hd ha hb hs hma hmb
          by_cases hq : ka = kb
          case neg =>
            have hqn : (ka != kb) = true := by simpa using hq
            have hs2 := Lib.hid (show false = R by rw [← hs1]; simp [hq])
            clear hs1
            go_wp2_with fail
            refine wp_region_own (by kernel_rfl) (by kernel_rfl) ?_
            repeat (go_big_quiet_step (fail))
            refine wpQuiet_nil ?_
            rintro _ ⟨y1, rfl⟩
            go_wp2_with fail
            go_ret
            exact ⟨congrArg (fun z => Ending.returned (Value.bool z)) hs2.out, by rw [hz'.out, plus_plus]; exact ⟨_, rfl⟩⟩
          case pos =>
            subst hq
            cases Z with
            | false =>
              have hs2 := Lib.hid (show false = R by rw [← hs1]; simp)
              clear hs1
              go_wp2_with fail
              refine wp_region_own (by kernel_rfl) (by kernel_rfl) ?_
              repeat (go_big_quiet_step (first | (with_reducible exact q1'.out _)))
              refine wpQuiet_nil ?_
              rintro _ ⟨y1, rfl⟩
              go_wp2_with fail
              go_ret
              exact ⟨congrArg (fun z => Ending.returned (Value.bool z)) hs2.out, by rw [hz'.out, plus_plus]; exact ⟨_, rfl⟩⟩
            | true =>
              have hs2 := Lib.hid (show eqAll eqKe (kl.drop (k + 1)) (kl2.drop (k + 1)) = R by rw [← hs1]; simp)
              clear hs1
              go_wp2_with fail
              refine wp_region_own (by kernel_rfl) (by kernel_rfl) ?_
              repeat (go_big_quiet_step (first | (with_reducible exact q1'.out _)))
              refine wpQuiet_nil ?_
              rintro _ ⟨y1, rfl⟩
              go_wp2_with fail
              go_roundw
              case rel => exact ⟨k + 1, hlt, congrArg (Value.int .i64) a6.out, hs2, _, rfl⟩
              case measure => exact step_less k kn hlt a6.out
        · obtain rfl : kn = k := by omega
          have hs2 := Lib.hid (show true = R by rw [← hs.out, List.drop_of_length_le (show kl.length ≤ kn by rw [hkn'.out]; exact Nat.le_refl _), List.drop_of_length_le (show kl2.length ≤ kn by rw [hkn2'.out]; exact Nat.le_refl _), eqAll]; try rfl)
          clear hs hlt hk
          go_wp2_with fail
          go_ret
          exact ⟨congrArg (fun z => Ending.returned (Value.bool z)) hs2.out, by rw [hz'.out, plus_plus]; exact ⟨_, rfl⟩⟩
end Go.Proofs.YtddpmfilkhegmaaGreat
