/-
  WHAT IS PROVED HERE: a part of the proof of the claim's theorem: NetDr; NetLw; NetLx; NtF.
-/
import Derived.Test.YtkffjjlmoojffaaGreatDoorRows
import Derived.Test.YtkffjjlmoojffaaGreatDoorB31
import Derived.Test.YtkffjjlmoojffaaGreatDoorB42
import Derived.Test.YtkffjjlmoojffaaGreatDoorB37
import Derived.Test.YtkffjjlmoojffaaGreatDoorB23
import Derived.Test.YtkffjjlmoojffaaGreatDoorB32
import Derived.Test.YtkffjjlmoojffaaGreatDoorB24
set_option linter.all false
namespace Go.Proofs.YtkffjjlmoojffaaGreatDoor
open Go.RowKit
end Go.Proofs.YtkffjjlmoojffaaGreatDoor
namespace Go.Proofs.YtkffjjlmoojffaaGreatDoor
open Go.RowKit
set_option maxHeartbeats 4000000 in
theorem known13 : PureS 5 #[] (.bool true) := by
  intro w hS
  obtain ⟨n, k, hA1, hA2⟩ := all_a
  have rA : readM netA = .ok n k := by unfold readM; rw [if_pos lexA.2]; exact hA1
  have rB : readM netB = .bad 14 8 := by unfold readM; rw [if_pos lexB.2]; exact all_b
  have ha := tp_read netA (by decide) w hS
  have hb := fun w hS => tp_read netB (by decide) w hS
  rw [rA] at ha
  simp only [rB] at hb
  unfold TRead at ha hb
  simp only [line_b.1, line_b.2] at ha hb
  have hnx : nextV (thereF n ⟨0, 2⟩) n.links ⟨0, 2⟩ = (⟨1, 1⟩, true, true) ∧ n.links.length = 1 ∧ n.names.length = 2 ∧ n.ports.length = 2 := by
    rw [hA2, next_a.1]; exact next_a.2
  have hS' := Lib.hid hS
  have ha' := Lib.hid ha
  have hb' := Lib.hid hb
  have hnx' := Lib.hid hnx
  clear ha hb hS hA1 hA2 rA rB hnx
  unfold netA at ha'
  unfold netB at hb'
  go_enter Tryz.func5, Tryz.ntmps5
  go_wp2_with fail
  refine ha'.out.mono ?_
  rintro e W1 ⟨hB1, sw, po, li, pvs, rfl, hNI⟩
  obtain ⟨p1, c1, rfl⟩ := own_sl3 hNI.sw
  obtain ⟨p2, c2, rfl⟩ := own_sl3 hNI.po
  obtain ⟨p3, c3, rfl⟩ := own_sl3 hNI.li
  clear ha'
  go_upto_region 2 with (fail)
  obtain ⟨W2, hW2, hB2, hz2, ca, cb, fa, fb⟩ := box2 W1 #[.slice p1 n.names.length c1, .slice p2 pvs.length c2, .slice p3 n.links.length c3] #[.int .i64 0, .int .i64 0, .int .i64 0] 27 32
  rw [← hW2]
  clear hW2
  have hS2 := hS'.out.below (hB1.trans (hB2.mono hB1.size))
  have hb2 := Lib.hid (hb'.out W2 hS2)
  clear hb' hS2
  go_wp2_with fail
  refine hb2.out.mono ?_
  rintro e W3 ⟨hB3, rfl⟩
  clear hb2
  go_upto_region 3 with (fail)
  obtain ⟨W4, hW4, hB4, hz4, da, db, ga, gb⟩ := box2 W3 #[.slice none 0 0, .slice none 0 0, .slice none 0 0] #[.int .i64 8, .int .i64 1, .int .i64 15] 27 32
  rw [← hW4]
  clear hW4
  have up : ∀ (b i : Nat) (v : Value), b < W2.heap.size → (∀ y, (Go.Proofs.YtkffjjlmoojffaaGreatDoor.plus W2 y).cell? ⟨b, i, none⟩ = some v) → ∀ y, (Go.Proofs.YtkffjjlmoojffaaGreatDoor.plus W4 y).cell? ⟨b, i, none⟩ = some v := fun b i v hb h y => by
    have h2 := h ⟨#[], W2.drawn⟩
    rw [plus_self] at h2
    have h3 := (hB3.cell (p := ⟨b, i, none⟩) hb).trans h2
    have h4 := (hB4.cell (p := ⟨b, i, none⟩) (Nat.lt_of_lt_of_le hb hB3.size)).trans h3
    exact plus_cell (Nat.lt_of_lt_of_le hb (Nat.le_trans hB3.size hB4.size)) h4 y
  have x0 := up _ 0 _ (by omega) (ca 0 _ rfl)
  have x1 := up _ 1 _ (by omega) (ca 1 _ rfl)
  have x2 := up _ 2 _ (by omega) (ca 2 _ rfl)
  have y0 := up _ 0 _ (by omega) (cb 0 _ rfl)
  have y1 := up _ 1 _ (by omega) (cb 1 _ rfl)
  have y2 := up _ 2 _ (by omega) (cb 2 _ rfl)
  have z0 := db 0 _ rfl
  have z1 := db 1 _ rfl
  have z2 := db 2 _ rfl
  have hB24 := hB3.trans (hB4.mono hB3.size)
  have hB14 := hB2.trans (hB24.mono hB2.size)
  have hAt := hNI.netAt.below hB14
  obtain ⟨hn1, hn2, hn3, hn4⟩ := hnx'.out
  have hN := tp_next (w := W4) (.slice p2 pvs.length c2) (.slice p3 n.links.length c3) pvs n ⟨0, 2⟩ p1 n.names.length c1 hAt.po (by omega) rfl hAt.li (by omega)
  rw [hn1] at hN
  unfold endV at hN
  simp only at hN
  replace hN := Lib.hid hN
  have hfin := Lib.hid (hB1.trans (hB14.mono hB1.size))
  have xx0 := x0 ⟨#[], W4.drawn⟩
  have xx1 := x1 ⟨#[], W4.drawn⟩
  have xx2 := x2 ⟨#[], W4.drawn⟩
  rw [plus_self] at xx0 xx1 xx2
  have hlt1 : W1.heap.size + 1 < W4.heap.size := by have := hB24.size; omega
  have hlt3 : W3.heap.size + 1 < W4.heap.size := by omega
  clear hAt hn1 hn2 hn3 hn4 hnx' hNI hB1 hB2 hB3 hB4 hB24 hB14 up ca cb fa fb da db ga gb hz2 hz4
  go_wp2_with fail
  refine hN.out.mono ?_
  rintro e W5 ⟨rfl, x, rfl⟩
  go_upto_region 4 with (fail)
  obtain ⟨W6, hW6, hB6, hz6, ea, ha⟩ := box1 (Go.Proofs.YtkffjjlmoojffaaGreatDoor.plus W4 x) #[.int .i64 1, .int .i64 1] 41
  rw [← hW6]
  clear hW6
  have hsz4 := size_plus W4 x
  have up : ∀ (b i : Nat) (v : Value), b < W4.heap.size → (∀ y, (Go.Proofs.YtkffjjlmoojffaaGreatDoor.plus W4 y).cell? ⟨b, i, none⟩ = some v) → ∀ y, (Go.Proofs.YtkffjjlmoojffaaGreatDoor.plus W6 y).cell? ⟨b, i, none⟩ = some v := fun b i v hb h y => by
    have h4 := (hB6.cell (p := ⟨b, i, none⟩) (Nat.lt_of_lt_of_le hb hsz4)).trans (h x)
    exact plus_cell (Nat.lt_of_lt_of_le hb (Nat.le_trans hsz4 hB6.size)) h4 y
  have k0 := up _ 0 _ (by omega) y0
  have k1 := up _ 1 _ (by omega) y1
  have k2 := up _ 2 _ (by omega) y2
  have m0 := up _ 0 _ (by omega) z0
  have m1 := up _ 1 _ (by omega) z1
  have m2 := up _ 2 _ (by omega) z2
  have q0 := ea 0 _ rfl
  have q1 := ea 1 _ rfl
  have hf6 := Lib.hid (hfin.out.trans (((below_plus W4 x).trans (hB6.mono hsz4)).mono hfin.out.size))
  clear up y0 y1 y2 z0 z1 z2 x0 x1 x2 xx0 xx1 xx2 hN hfin
  rw [← plus_self W6]
  go_wp2
  go_ret
  exact ⟨rfl, plus_of_below (by first | exact hf6.out.trans ((below_plus W6 _).mono hf6.out.size) | exact hf6.out)⟩
end Go.Proofs.YtkffjjlmoojffaaGreatDoor
namespace Go.Proofs.YtkffjjlmoojffaaGreatDoor
open Go.RowKit
theorem linksM_len {l : List Tok} {s : ByteArray} (hl : TL l s.size) : ∀ (f k : Nat) (n : Net') (ls : List End') (n' : Net') (k' : Nat), k < l.length → linksM l f k n ls = .ok n' k' → n'.links.length ≤ n.links.length + (l.length - k)
  | 0, k, n, ls, n', k', _, h => by unfold linksM at h; cases h; omega
  | f + 1, k, n, ls, n', k', hk, h => by
    unfold linksM at h
    split at h
    · cases h; omega
    · obtain ⟨x, k1, h1, h⟩ := Rs.bind_ok_of h
      obtain ⟨a1, a2, a3, a4, a5, a6⟩ := linkM_ok hl hk h1
      have := linksM_len hl f k1 x.1 x.2 n' k' a1 h
      omega
theorem nodesM_ok {l : List Tok} {s : ByteArray} (hl : TL l s.size) : ∀ (f k : Nat) (n n' : Net') (k' : Nat), k < l.length → nodesM l f k n = .ok n' k' → k' < l.length ∧ n'.links = n.links
  | 0, k, n, n', k', hk, h => by unfold nodesM at h; cases h; exact ⟨hk, rfl⟩
  | f + 1, k, n, n', k', hk, h => by
    unfold nodesM at h
    split at h
    · obtain ⟨m, k1, h1, h⟩ := Rs.bind_ok_of h
      obtain ⟨a1, a2, a3, a4, a5⟩ := nodeM_ok hl hk h1
      have := nodesM_ok hl f k1 m n' k' a1 h
      exact ⟨this.1, this.2.trans a5⟩
    · cases h; exact ⟨hk, rfl⟩
theorem readM_len {s : ByteArray} (hs : s.size ≤ 2000) {n : Net'} {k : Nat} (h : readM s = .ok n k) : n.names.length ≤ 8 ∧ n.ports.length ≤ 8 ∧ n.links.length ≤ 2001 ∧ netMay n = true := by
  unfold readM at h
  split at h
  · rename_i h0
    have hT := lexR_tl s h0
    have hm := allM_may h
    have hm' := hm
    unfold netMay at hm'
    simp only [Bool.and_eq_true, decide_eq_true_eq] at hm'
    obtain ⟨⟨⟨⟨a1, _⟩, a3⟩, _⟩, _⟩ := hm'
    have hlen := lexR_len s
    unfold allM at h
    obtain ⟨m, k1, h1, h⟩ := Rs.bind_ok_of h
    obtain ⟨b1, b2⟩ := nodesM_ok hT _ _ _ _ _ hT.pos h1
    have := linksM_len hT _ _ _ _ _ _ b1 h
    have b3 : m.links = [] := b2
    rw [b3, List.length_nil] at this
    exact ⟨a1, by omega, by omega, hm⟩
  · cases h
def netOf (r : Rs Net') : Net' := match r with
  | .ok n _ => n
  | .bad _ _ => net0
end Go.Proofs.YtkffjjlmoojffaaGreatDoor
namespace Go.Proofs.YtkffjjlmoojffaaGreatDoor
open Go.RowKit
def greatN (n : Net') : Bool := n.names.any (fun x => decide (40 < x.size)) || n.ports.any (fun ps => decide (30 < ps.length)) || decide (12 < n.names.length) || decide (12 < n.ports.length) || decide (60 < n.links.length)
theorem any_at {α : Type} (f : α → Bool) {l : List α} {k : Nat} {x : α} (h : l[k]? = some x) : (l.drop k).any f = (f x || (l.drop (k + 1)).any f) := by
  obtain ⟨h1, h2⟩ := List.getElem?_eq_some_iff.1 h
  rw [List.drop_eq_getElem_cons h1, h2, List.any_cons]
set_option maxRecDepth 100000 in
set_option maxHeartbeats 4000000 in
theorem dc_great {w : World} (sw po li : Value) (pvs : List Sl3) (n : Net') (h : NetO w sw po li pvs n) :
    Calls Tryz.prog 9 #[.agg #[sw, po, li]] w (Back w (.bool (greatN n))) := by
  obtain ⟨p1, c1, rfl, h1⟩ := h.sw
  obtain ⟨p2, c2, rfl, h2⟩ := h.po.row
  obtain ⟨p3, c3, rfl, -⟩ := h.li
  have hplen := h.po.len
  have heach := h.po.each
  have hb1 := h.b1
  have hb2 := h.b2
  have hb3 := h.b3
  obtain ⟨n1, hn1⟩ : ∃ n1, n.names.length = n1 := ⟨_, rfl⟩
  obtain ⟨n2, hn2⟩ : ∃ n2, n.ports.length = n2 := ⟨_, rfl⟩
  obtain ⟨n3, hn3⟩ : ∃ n3, n.links.length = n3 := ⟨_, rfl⟩
  rw [hn2] at hplen
  rw [hn1, hplen, hn3]
  rw [hn1] at hb1
  rw [hn2] at hb2
  rw [hn3] at hb3
  obtain ⟨W, hW, hBW, hzz, ca, fa⟩ := box1 w #[.slice p1 n1 c1, .slice p2 n2 c2, .slice p3 n3 c3] 27
  have a0 := ca 0 _ rfl
  have a1 := ca 1 _ rfl
  have a2 := ca 2 _ rfl
  have hc1 : Hid (∀ (y : Ext) (k : Nat) (x : ByteArray), n.names[k]? = some x → ∃ g o, p1 = some ⟨g, o, none⟩ ∧ (Go.Proofs.YtkffjjlmoojffaaGreatDoor.plus W y).cell? ⟨g, o + k, none⟩ = some (.string x)) := Lib.hid fun y k x hx => by
    obtain ⟨g, o, hp, hg, hc⟩ := h1 k x hx
    refine ⟨g, o, hp, ((below_plus W y).cell (p := ⟨g, o + k, none⟩) (Nat.lt_of_lt_of_le hg hBW.size)).trans ((hBW.cell (p := ⟨g, o + k, none⟩) hg).trans ?_)⟩
    have := hc 0 _ rfl
    simpa using this
  have hc2 : Hid (∀ (y : Ext) (k : Nat) (ps : List Int), n.ports[k]? = some ps → ∃ g o xp xc, p2 = some ⟨g, o, none⟩ ∧ (Go.Proofs.YtkffjjlmoojffaaGreatDoor.plus W y).cell? ⟨g, o + k, none⟩ = some (.slice xp ps.length xc)) := Lib.hid fun y k ps hps => by
    obtain ⟨x, hx⟩ : ∃ x, pvs[k]? = some x := ⟨pvs[k]'(by have := (List.getElem?_eq_some_iff.1 hps).1; omega), List.getElem?_eq_getElem _⟩
    obtain ⟨g, o, hp, hg, hc⟩ := h2 k x hx
    obtain ⟨⟨xp, xc, hv, _⟩, _⟩ := heach k x ps hx hps
    refine ⟨g, o, xp, xc, hp, ((below_plus W y).cell (p := ⟨g, o + k, none⟩) (Nat.lt_of_lt_of_le hg hBW.size)).trans ((hBW.cell (p := ⟨g, o + k, none⟩) hg).trans ?_)⟩
    have := hc 0 _ rfl
    rw [← hv]
    unfold Sl3.v
    simpa using this
  have hn1' := Lib.hid hn1
  have hn2' := Lib.hid hn2
  have hfin : Hid (∀ y : Ext, ∃ x, Go.Proofs.YtkffjjlmoojffaaGreatDoor.plus W y = Go.Proofs.YtkffjjlmoojffaaGreatDoor.plus w x) := Lib.hid fun y => plus_of_below (hBW.trans ((below_plus W y).mono hBW.size))
  obtain ⟨R, hR⟩ : ∃ R, greatN n = R := ⟨_, rfl⟩
  rw [hR]
  unfold greatN at hR
  rw [hn1, hn2, hn3] at hR
  replace hR := Lib.hid hR
  clear h h1 h2 hplen heach hn1 hn2 hn3 ca fa hBW hzz
  go_enter Tryz.func9, Tryz.ntmps9
  go_upto_region 1 with (fail)
  rw [← hW, ← plus_self W]
  clear hW
  go_wp2
  go_loopw [3] (fun iv wr => ∃ k : Nat, k ≤ n1 ∧ iv = .int .i64 (k : Int) ∧ (∃ y, wr = Go.Proofs.YtkffjjlmoojffaaGreatDoor.plus W y) ∧ Hid ((n.names.drop k).any (fun x => decide (40 < x.size)) = n.names.any (fun x => decide (40 < x.size)))) (fun iv _ => n1 - (intOf iv).toNat)
  case atStart => exact ⟨0, Nat.zero_le _, rfl, ⟨_, rfl⟩, rfl⟩
  case round =>
    obtain ⟨k, hk, rfl, ⟨y, rfl⟩, hm⟩ := hrel
    by_cases hlt : k < n1
    · obtain ⟨x, hx⟩ : ∃ q, n.names[k]? = some q := ⟨n.names[k]'(by rw [hn1'.out]; exact hlt), List.getElem?_eq_getElem _⟩
      obtain ⟨g, o, rfl, hd⟩ := hc1.out y k x hx
      have hm' := hm.out
      rw [any_at _ hx] at hm'
      have k0 : ¬ ((k : Int) < 0) := by omega
      have k1 : (k : Int) < (n1 : Int) := by omega
      clear hx hm
      by_cases h40 : 40 < x.size
      · have q1 : decide ((40 : Int) < (x.size : Int)) = true := decide_eq_true (by omega)
        have q2 : (40 : Int) < (x.size : Int) := by omega
        rw [decide_eq_true h40, Bool.true_or] at hm'
        obtain rfl : R = true := by rw [← hR.out, ← hm']; rfl
        clear hm'
        go_wp2
        go_ret
        exact ⟨rfl, hfin.out _⟩
      · have q1 : decide ((40 : Int) < (x.size : Int)) = false := decide_eq_false (by omega)
        have q2 : ¬ (40 : Int) < (x.size : Int) := by omega
        rw [decide_eq_false h40, Bool.false_or] at hm'
        replace hm' := Lib.hid hm'
        go_wp2
        go_roundw
        case rel => exact ⟨k + 1, hlt, congrArg (Value.int .i64) (by omega), ⟨_, rfl⟩, hm'⟩
        case measure => exact step_lt k n1 hlt
    · obtain rfl : k = n1 := by omega
      have hR2 : Hid ((n.ports.any (fun ps => decide (30 < ps.length)) || decide (12 < k) || decide (12 < n2) || decide (60 < n3)) = R) := Lib.hid (by
        have := hm.out
        rw [List.drop_of_length_le (by have := hn1'.out; omega)] at this
        rw [← hR.out, ← this]
        rfl)
      clear hm hR
      go_wp2
      go_loopw [4] (fun iv wr => ∃ k : Nat, k ≤ n2 ∧ iv = .int .i64 (k : Int) ∧ (∃ y, wr = Go.Proofs.YtkffjjlmoojffaaGreatDoor.plus W y) ∧ Hid ((n.ports.drop k).any (fun ps => decide (30 < ps.length)) = n.ports.any (fun ps => decide (30 < ps.length)))) (fun iv _ => n2 - (intOf iv).toNat)
      case atStart => exact ⟨0, Nat.zero_le _, rfl, ⟨_, rfl⟩, rfl⟩
      case round =>
        obtain ⟨j, hj, rfl, ⟨y2, rfl⟩, hm⟩ := hrel
        by_cases hlt : j < n2
        · obtain ⟨ps, hps⟩ : ∃ q, n.ports[j]? = some q := ⟨n.ports[j]'(by rw [hn2'.out]; exact hlt), List.getElem?_eq_getElem _⟩
          obtain ⟨g, o, xp, xc, rfl, hd⟩ := hc2.out y2 j ps hps
          have hm' := hm.out
          rw [any_at _ hps] at hm'
          have k0 : ¬ ((j : Int) < 0) := by omega
          have k1 : (j : Int) < (n2 : Int) := by omega
          clear hps hm
          by_cases h40 : 30 < ps.length
          · have q1 : decide ((30 : Int) < (ps.length : Int)) = true := decide_eq_true (by omega)
            have q2 : (30 : Int) < (ps.length : Int) := by omega
            rw [decide_eq_true h40, Bool.true_or] at hm'
            obtain rfl : R = true := by rw [← hR2.out, ← hm']; rfl
            clear hm'
            go_wp2
            go_ret
            exact ⟨rfl, hfin.out _⟩
          · have q1 : decide ((30 : Int) < (ps.length : Int)) = false := decide_eq_false (by omega)
            have q2 : ¬ (30 : Int) < (ps.length : Int) := by omega
            rw [decide_eq_false h40, Bool.false_or] at hm'
            replace hm' := Lib.hid hm'
            go_wp2
            go_roundw
            case rel => exact ⟨j + 1, hlt, congrArg (Value.int .i64) (by omega), ⟨_, rfl⟩, hm'⟩
            case measure => exact step_lt j n2 hlt
        · obtain rfl : j = n2 := by omega
          have hR3 : (decide (12 < k) || decide (12 < j) || decide (60 < n3)) = R := by
            have := hm.out
            rw [List.drop_of_length_le (by have := hn2'.out; omega)] at this
            rw [← hR2.out, ← this]
            rfl
          clear hm hR2
          by_cases h1 : 12 < k
          · have q1 : decide ((12 : Int) < (k : Int)) = true := decide_eq_true (by omega)
            have q2 : (12 : Int) < (k : Int) := by omega
            obtain rfl : R = true := by rw [← hR3, decide_eq_true h1]; rfl
            clear hR3
            go_wp2
            go_ret
            exact ⟨rfl, hfin.out _⟩
          · have q1 : decide ((12 : Int) < (k : Int)) = false := decide_eq_false (by omega)
            have q2 : ¬ (12 : Int) < (k : Int) := by omega
            by_cases h2 : 12 < j
            · have q3 : decide ((12 : Int) < (j : Int)) = true := decide_eq_true (by omega)
              have q4 : (12 : Int) < (j : Int) := by omega
              obtain rfl : R = true := by rw [← hR3, decide_eq_true h2]; simp
              clear hR3
              go_wp2
              go_ret
              exact ⟨rfl, hfin.out _⟩
            · have q3 : decide ((12 : Int) < (j : Int)) = false := decide_eq_false (by omega)
              have q4 : ¬ (12 : Int) < (j : Int) := by omega
              by_cases h3 : 60 < n3
              · have q5 : decide ((60 : Int) < (n3 : Int)) = true := decide_eq_true (by omega)
                have q6 : (60 : Int) < (n3 : Int) := by omega
                obtain rfl : R = true := by rw [← hR3, decide_eq_true h3]; simp
                clear hR3
                go_wp2
                go_ret
                exact ⟨rfl, hfin.out _⟩
              · have q5 : decide ((60 : Int) < (n3 : Int)) = false := decide_eq_false (by omega)
                have q6 : ¬ (60 : Int) < (n3 : Int) := by omega
                obtain rfl : R = false := by rw [← hR3, decide_eq_false h1, decide_eq_false h2, decide_eq_false h3]; rfl
                clear hR3
                go_wp2
                go_ret
                exact ⟨rfl, hfin.out _⟩
end Go.Proofs.YtkffjjlmoojffaaGreatDoor
