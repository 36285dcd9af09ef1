/-
  WHAT IS PROVED HERE: layer 9's great, of any program: more than is looked at, or not; State of any program. Written by gen/od.py.
-/
import Derived.Test.YtplkiadkkefppaaRows
import Derived.Test.YtplkiadkkefppaaOc
namespace Go.Proofs.Ytplkiadkkefppaa
open Go.RowKit
abbrev prV (p : Pr) : Value := .agg #[.slice p.headers.p p.headers.l.length p.headers.cap, .slice p.metas.p p.metas.l.length p.metas.cap, .slice p.states.p p.states.l.length p.states.cap, .slice p.actions.p p.actions.l.length p.actions.cap, .slice p.tables.p p.tables.l.length p.tables.cap, .slice p.control.p p.control.l.length p.control.cap, .slice p.emit.p p.emit.l.length p.emit.cap]
theorem prV_cells (p : Pr) : prV p = .agg p.cells.toArray := rfl
theorem pr_len {p : Pr} (hz : p.sz ≤ 1048576) : p.headers.l.length ≤ 1048576 ∧ p.metas.l.length ≤ 1048576 ∧ p.states.l.length ≤ 1048576 ∧ p.actions.l.length ≤ 1048576 := by
  have hs : p.sz = p.headers.size Hr.sz + p.metas.size Fd.sz + p.states.size Sa.sz + p.actions.size Ac.sz + p.tables.size Ta.sz + p.control.size St.sz + p.emit.size strSize := rfl
  exact ⟨len_le Hr.sz (fun y => by unfold Hr.sz; omega) p.headers (by omega), len_le Fd.sz Fd.sz_pos p.metas (by omega), len_le Sa.sz (fun y => by unfold Sa.sz; omega) p.states (by omega), len_le Ac.sz (fun y => by unfold Ac.sz; omega) p.actions (by omega)⟩
theorem o_State (p : Pr) (w : World) (h : p.In w) (hz : p.sz ≤ 1048576) (s : ByteArray) : Kp Try.prog w 21 #[prV p, .string s] (.tuple #[.int .i64 (stI p.states.l s).1, .bool (stI p.states.l s).2]) := res_State _ _ _ _ _ _ _ _ _ _ _ _ _ _ _ _ _ _ _ p.states s w h.states (pr_len hz).2.2.1
def vastP (p : Pr) : Bool := vastB p.metas.l || (p.headers.l.any fun h => vastB h.fields.l) || (p.actions.l.any fun a => vastB a.params.l)
theorem len_of_hr {p : Pr} (hz : p.sz ≤ 1048576) {x : Hr} (hx : x ∈ p.headers.l) : x.fields.l.length ≤ 1048576 := by
  have h1 := le_sum_of Hr.sz p.headers.l x hx
  have h2 : p.sz = p.headers.size Hr.sz + p.metas.size Fd.sz + p.states.size Sa.sz + p.actions.size Ac.sz + p.tables.size Ta.sz + p.control.size St.sz + p.emit.size strSize := rfl
  have h3 : p.headers.size Hr.sz = (p.headers.l.map Hr.sz).sum := rfl
  have h4 : x.fields.size Fd.sz ≤ x.sz := by unfold Hr.sz; omega
  exact len_le Fd.sz Fd.sz_pos x.fields (by omega)
theorem len_of_ac {p : Pr} (hz : p.sz ≤ 1048576) {x : Ac} (hx : x ∈ p.actions.l) : x.params.l.length ≤ 1048576 := by
  have h1 := le_sum_of Ac.sz p.actions.l x hx
  have h2 : p.sz = p.headers.size Hr.sz + p.metas.size Fd.sz + p.states.size Sa.sz + p.actions.size Ac.sz + p.tables.size Ta.sz + p.control.size St.sz + p.emit.size strSize := rfl
  have h3 : p.actions.size Ac.sz = (p.actions.l.map Ac.sz).sum := rfl
  have h4 : x.params.size Fd.sz ≤ x.sz := by unfold Ac.sz; omega
  exact len_le Fd.sz Fd.sz_pos x.params (by omega)
set_option maxRecDepth 100000 in
set_option maxHeartbeats 8000000 in
theorem ref_Vast (p : Pr) (w : World) (h : p.In w) (hz : p.sz ≤ 1048576) : Kp Try.prog w 11 #[prV p] (.bool (vastP p)) := by
  intro y0
  have hM := (ref_vast _ p.metas w h.metas (pr_len hz).2.1).up y0
  have hH : ∀ x ∈ p.headers.l, Kp Try.prog (plus w y0) 27 #[x.fields.v] (.bool (vastB x.fields.l)) := fun x hx => (ref_vast _ x.fields w (h.headers.kids x hx).fields (len_of_hr hz hx)).up y0
  have hA : ∀ x ∈ p.actions.l, Kp Try.prog (plus w y0) 27 #[x.params.v] (.bool (vastB x.params.l)) := fun x hx => (ref_vast _ x.params w (h.actions.kids x hx).params (len_of_ac hz hx)).up y0
  have hrH := h.headers.row.plus y0
  have hrA := h.actions.row.plus y0
  have lH := (pr_len hz).1
  have lA := (pr_len hz).2.2.2
  obtain ⟨V, hV⟩ : ∃ V, plus w y0 = V := ⟨_, rfl⟩
  rw [hV] at hM hH hA hrH hrA ⊢
  clear hV h hz
  obtain ⟨⟨hp, hc, hl⟩, ⟨mp, mc, ml⟩, ⟨sp, sc, sl⟩, ⟨ap, ac, al⟩, ⟨tp, tc, tl⟩, ⟨cp, cc, cl⟩, ⟨ep, ec, el⟩⟩ := p
  simp only [prV, vastP] at hM hH hA hrH hrA lH lA ⊢
  obtain ⟨nh, hnh⟩ : ∃ n, hl.length = n := ⟨_, rfl⟩
  obtain ⟨na, hna⟩ : ∃ n, al.length = n := ⟨_, rfl⟩
  rw [hnh] at lH
  rw [hna] at lA
  rw [hnh, hna]
  obtain ⟨B, hB⟩ : ∃ B, vastB ml = B := ⟨_, rfl⟩
  simp only [Sl.v] at hM
  rw [hB] at hM ⊢
  obtain ⟨R, hR⟩ : ∃ R, (B || (hl.any fun h => vastB h.fields.l) || (al.any fun a => vastB a.params.l)) = R := ⟨_, rfl⟩
  rw [hR]
  have hM' := Lib.hid hM
  have hH' := Lib.hid hH
  have hA' := Lib.hid hA
  have rH' := Lib.hid hrH
  have rA' := Lib.hid hrA
  have lH' := Lib.hid lH
  have lA' := Lib.hid lA
  have hnh' := Lib.hid hnh
  have hna' := Lib.hid hna
  clear hM hH hA hrH hrA lH lA hnh hna hB
  go_enter Try.func11, Try.ntmps11
  go_wp2_with fail
  obtain ⟨W, yy, hW, ⟨z, hz⟩, ca⟩ := box1n V _ 30
  rw [hW]
  have c0 := ca 0 _ rfl
  have c1 := ca 1 _ rfl
  have c3 := ca 3 _ rfl
  have qM := Lib.hid (kp_at hz hM'.out)
  have hz2 := Lib.hid hz
  clear hW hz ca
  refine (qM.out _).mono ?_
  rintro r w' ⟨rfl, x1, rfl⟩
  cases B with
  | true =>
    have hF := Lib.hid (show true = R by rw [← hR]; rfl)
    clear hR hM' hH' hA' rH' rA'
    go_wp2
    go_ret
    exact ⟨congrArg (fun z => Ending.returned (Value.bool z)) hF.out, by rw [hz2.out, plus_plus]; exact ⟨_, rfl⟩⟩
  | false =>
  have hR1 := Lib.hid (show ((hl.drop 0).any fun h => vastB h.fields.l) = ((hl.drop 0).any fun h => vastB h.fields.l) ∧ ((hl.drop 0).any (fun h => vastB h.fields.l) || (al.any fun a => vastB a.params.l)) = R from ⟨rfl, by rw [← hR]; rfl⟩)
  clear hR qM
  go_wp2
  go_loopw [3] (fun iv wr => ∃ k : Nat, k ≤ nh ∧ iv = .int .i64 (k : Int) ∧ Hid (((hl.drop k).any (fun h => vastB h.fields.l) || (al.any fun a => vastB a.params.l)) = R) ∧ ∃ y, wr = plus W y) (fun iv _ => nh - (intOf iv).toNat)
  case atStart => exact ⟨0, Nat.zero_le _, rfl, Lib.hid hR1.out.2, _, rfl⟩
  case round =>
    obtain ⟨k, hk, rfl, hd, y, rfl⟩ := hrel
    by_cases hlt : k < nh
    · obtain ⟨x, ha⟩ : ∃ s, hl[k]? = some s := ⟨hl[k]'(by rw [hnh'.out]; exact hlt), List.getElem?_eq_getElem _⟩
      obtain ⟨pa, e0, hcc⟩ := rH'.out k x ha
      have e0 : hp = some pa := e0
      subst e0
      have hcc := cells_up hz2.out hcc
      have d0 := fun y => (hcc.plus y).c0 _ rfl
      have d1 := fun y => (hcc.plus y).cs 0 _ rfl
      have q := kp_at hz2.out (hH'.out x (List.mem_of_getElem? ha))
      have hs1 : ((vastB x.fields.l || (hl.drop (k + 1)).any (fun h => vastB h.fields.l)) || (al.any fun a => vastB a.params.l)) = R := by
        rw [← any_drop (fun h : Hr => vastB h.fields.l) hl k x ha]; exact hd.out
      have a6 := Lib.hid (wr_succ k nh hlt lH'.out)
      obtain ⟨nm, fp, fc, fl⟩ := x
      simp only [Sl.v] at q d0 d1 hs1
      obtain ⟨Z, hZ⟩ : ∃ Z, vastB fl = Z := ⟨_, rfl⟩
      rw [hZ] at q hs1
      have q' := Lib.hid q
      clear hcc ha hd q hZ
      cases Z with
      | true =>
        have hs2 := Lib.hid (show true = R by rw [← hs1]; rfl)
        clear hs1
        go_wp2_with (first | (go_at_call 27; with_reducible refine (q'.out _).mono ?_; rintro r w' ⟨rfl, x, rfl⟩))
        go_ret
        exact ⟨congrArg (fun z => Ending.returned (Value.bool z)) hs2.out, by rw [hz2.out, plus_plus]; exact ⟨_, rfl⟩⟩
      | false =>
        have hs2 := Lib.hid (show ((hl.drop (k + 1)).any (fun h => vastB h.fields.l) || (al.any fun a => vastB a.params.l)) = R by rw [← hs1]; rfl)
        clear hs1
        go_wp2_with (first | (go_at_call 27; with_reducible refine (q'.out _).mono ?_; rintro r w' ⟨rfl, x, rfl⟩))
        go_roundw
        case rel => exact ⟨k + 1, hlt, congrArg (Value.int .i64) a6.out, hs2, _, rfl⟩
        case measure => exact step_less k nh hlt a6.out
    · obtain rfl : k = nh := by omega
      have hR2 := Lib.hid (show ((al.drop 0).any fun a => vastB a.params.l) = R by
        rw [List.drop_zero, ← hd.out, List.drop_of_length_le (by rw [hnh'.out]; exact Nat.le_refl _)]; rfl)
      clear hd hlt hk hR1
      go_wp2
      go_loopw [4] (fun iv wr => ∃ k : Nat, k ≤ na ∧ iv = .int .i64 (k : Int) ∧ Hid (((al.drop k).any fun a => vastB a.params.l) = R) ∧ ∃ y, wr = plus W y) (fun iv _ => na - (intOf iv).toNat)
      case atStart => exact ⟨0, Nat.zero_le _, rfl, hR2, _, rfl⟩
      case round =>
        obtain ⟨k, hk, rfl, hd, y, rfl⟩ := hrel
        by_cases hlt : k < na
        · obtain ⟨x, ha⟩ : ∃ s, al[k]? = some s := ⟨al[k]'(by rw [hna'.out]; exact hlt), List.getElem?_eq_getElem _⟩
          obtain ⟨pa, e0, hcc⟩ := rA'.out k x ha
          have e0 : ap = some pa := e0
          subst e0
          have hcc := cells_up hz2.out hcc
          have d0 := fun y => (hcc.plus y).c0 _ rfl
          have d1 := fun y => (hcc.plus y).cs 0 _ rfl
          have d2 := fun y => (hcc.plus y).cs 1 _ rfl
          have q := kp_at hz2.out (hA'.out x (List.mem_of_getElem? ha))
          have hs1 := (any_drop (fun a => vastB a.params.l) al k x ha).symm.trans hd.out
          have a6 := Lib.hid (wr_succ k na hlt lA'.out)
          obtain ⟨nm, ⟨fp, fc, fl⟩, bd⟩ := x
          simp only [Sl.v] at q d0 d1 d2 hs1
          obtain ⟨Z, hZ⟩ : ∃ Z, vastB fl = Z := ⟨_, rfl⟩
          rw [hZ] at q hs1
          have q' := Lib.hid q
          clear hcc ha hd q hZ
          cases Z with
          | true =>
            have hs2 := Lib.hid (show true = R by rw [← hs1]; rfl)
            clear hs1
            go_wp2_with (first | (go_at_call 27; with_reducible refine (q'.out _).mono ?_; rintro r w' ⟨rfl, x, rfl⟩))
            go_ret
            exact ⟨congrArg (fun z => Ending.returned (Value.bool z)) hs2.out, by rw [hz2.out, plus_plus]; exact ⟨_, rfl⟩⟩
          | false =>
            have hs2 := Lib.hid (show ((al.drop (k + 1)).any fun a => vastB a.params.l) = R by rw [← hs1]; rfl)
            clear hs1
            go_wp2_with (first | (go_at_call 27; with_reducible refine (q'.out _).mono ?_; rintro r w' ⟨rfl, x, rfl⟩))
            go_roundw
            case rel => exact ⟨k + 1, hlt, congrArg (Value.int .i64) a6.out, hs2, _, rfl⟩
            case measure => exact step_less k na hlt a6.out
        · obtain rfl : k = na := by omega
          have hs2 := Lib.hid (show false = R by
            rw [← hd.out, List.drop_of_length_le (by rw [hna'.out]; exact Nat.le_refl _)]; rfl)
          clear hd hlt hk
          go_wp2
          go_ret
          exact ⟨congrArg (fun z => Ending.returned (Value.bool z)) hs2.out, by rw [hz2.out, plus_plus]; exact ⟨_, rfl⟩⟩
def greatP (p : Pr) : Bool := decide (6000 < p.sz) || decide (20 < p.states.l.length) || vastP p
set_option maxRecDepth 100000 in
set_option maxHeartbeats 8000000 in
theorem law_great (p : Pr) (w : World) (h : p.In w) (hz : p.sz ≤ 1048576) : Kp Try.prog w 4 #[prV p] (.bool (greatP p)) := by
  intro y0
  have hG : Kp Try.prog w 10 #[prV p] (.bool (decide (6000 < p.sz))) := Kp.ofPure fun y => by rw [prV_cells]; exact ref_great p (plus w y) (h.plus y) hz
  have hG := hG.up y0
  have hV := (ref_Vast p w h hz).up y0
  obtain ⟨V, e⟩ : ∃ V, plus w y0 = V := ⟨_, rfl⟩
  rw [e] at hG hV ⊢
  clear e h hz
  simp only [prV, greatP] at hG hV ⊢
  obtain ⟨n, hn⟩ : ∃ n, p.states.l.length = n := ⟨_, rfl⟩
  rw [hn] at hG hV ⊢
  obtain ⟨G, eG⟩ : ∃ G, decide (6000 < p.sz) = G := ⟨_, rfl⟩
  obtain ⟨B, eB⟩ : ∃ B, vastP p = B := ⟨_, rfl⟩
  rw [eG] at hG
  rw [eB] at hV
  rw [eG, eB]
  obtain ⟨R, hR⟩ : ∃ R, (G || decide (20 < n) || B) = R := ⟨_, rfl⟩
  rw [hR]
  have hG' := Lib.hid hG
  have hV' := Lib.hid hV
  clear hG hV eG eB hn
  go_enter Try.func4, Try.ntmps4
  go_wp2_with fail
  obtain ⟨W, yy, hW, ⟨z, hz⟩, ca⟩ := box1n V _ 30
  rw [hW]
  have c0 := ca 0 _ rfl
  have c1 := ca 1 _ rfl
  have c2 := ca 2 _ rfl
  have c3 := ca 3 _ rfl
  have c4 := ca 4 _ rfl
  have c5 := ca 5 _ rfl
  have c6 := ca 6 _ rfl
  have qG := Lib.hid (kp_at hz hG'.out)
  have qV := Lib.hid (kp_at hz hV'.out)
  have hz2 := Lib.hid hz
  clear hW hz ca hG' hV'
  refine (qG.out _).mono ?_
  rintro r w' ⟨rfl, x1, rfl⟩
  clear qG
  cases G with
  | true =>
    have hF := Lib.hid (show true = R by rw [← hR]; rfl)
    clear hR qV
    go_wp2
    go_ret
    exact ⟨congrArg (fun z => Ending.returned (Value.bool z)) hF.out, by rw [hz2.out, plus_plus]; exact ⟨_, rfl⟩⟩
  | false =>
    by_cases q : 20 < n
    · have hF := Lib.hid (show true = R by rw [← hR, decide_eq_true q]; rfl)
      have q' : (20 : Int) < (n : Int) := by omega
      clear hR qV
      go_wp2
      go_ret
      exact ⟨congrArg (fun z => Ending.returned (Value.bool z)) hF.out, by rw [hz2.out, plus_plus]; exact ⟨_, rfl⟩⟩
    · have hF := Lib.hid (show B = R by rw [← hR, decide_eq_false q]; rfl)
      have q' : ¬ ((20 : Int) < (n : Int)) := by omega
      clear hR
      go_wp2_with (first | (go_at_call 11; with_reducible refine (qV.out _).mono ?_; rintro r w' ⟨rfl, x, rfl⟩))
      go_ret
      exact ⟨congrArg (fun z => Ending.returned (Value.bool z)) ((show _ = B by rw [decide_eq_false (show ¬ ((20 : Int) < (n : Int)) by omega)]; rfl).trans hF.out), by rw [hz2.out, plus_plus]; exact ⟨_, rfl⟩⟩
end Go.Proofs.Ytplkiadkkefppaa
