/-
  WHAT IS PROVED HERE: a part of the proof of the claim's theorem: NtD; Pt.
-/
import Derived.Test.YtkffjjlmoojffaaGreatDoorRows
import Derived.Test.YtkffjjlmoojffaaGreatDoorB34
import Derived.Test.YtkffjjlmoojffaaGreatDoorB1
import Derived.Test.YtkffjjlmoojffaaGreatDoorB6
import Derived.Lib.ItoaLen
import Derived.WalkKit
import Derived.WalkSpells
import Derived.WalkLawsBesides
set_option linter.all false
namespace Go.Proofs.YtkffjjlmoojffaaGreatDoor
open Go.RowKit
theorem portsMay_cons (ps : List Int) (r : List (List Int)) : portsMay (ps :: r) = ((decide (ps.length ≤ 8) && psMay 1 ps) && portsMay r) := by simp [portsMay]
set_option maxRecDepth 100000 in
set_option maxHeartbeats 4000000 in
theorem to_may {w : World} (sw po li : Value) (pvs : List Sl3) (n : Net') (h : NetO w sw po li pvs n) (hlb : n.links.length ≤ 100000) (hz : ∀ x ∈ n.names, x.size ≤ 140737488355328) :
    Calls Tryz.prog 10 #[.agg #[sw, po, li]] w (Back w (.bool (netMay n))) := by
  have hN := h
  have hcap := h.cap
  obtain ⟨p1, c1, rfl, -⟩ := h.sw
  obtain ⟨p2, c2, rfl, hcr⟩ := h.po.row
  obtain ⟨p3, c3, rfl, -⟩ := h.li
  have hplen := h.po.len
  have heach := h.po.each
  have hsw := h.sw
  have hb1 := h.b1
  obtain ⟨n1, hn1⟩ : ∃ n1, n.names.length = n1 := ⟨_, rfl⟩
  obtain ⟨n2, hn2⟩ : ∃ n2, pvs.length = n2 := ⟨_, rfl⟩
  obtain ⟨n3, hn3⟩ : ∃ n3, n.links.length = n3 := ⟨_, rfl⟩
  have hn2p : n.ports.length = n2 := by omega
  have hb2 : n2 ≤ 281474976710656 := by have := h.b2; omega
  obtain ⟨W, hW, hBW, hzz, ca, fa⟩ := box1 w #[.slice p1 n1 c1, .slice p2 n2 c2, .slice p3 n3 c3] 27
  have a0 := ca 0 _ rfl
  have a1 := ca 1 _ rfl
  have a2 := ca 2 _ rfl
  have hS : Hid (Calls Tryz.prog 28 #[.slice p1 n1 c1] W (Back W (.bool (decide (n.names.length ≤ 8) && nmsMay [] n.names)))) := Lib.hid (by
    have := to_maySwitches (w := W) p1 c1 n.names (hsw.below hBW) (hcap _ _ _ rfl) hb1 hz
    rwa [hn1] at this ⊢)
  have hP : Hid (∀ (y : Ext) (k : Nat) (x : Sl3) (ps : List Int), pvs[k]? = some x → n.ports[k]? = some ps → Calls Tryz.prog 29 #[.slice x.p x.n x.c] (Go.Proofs.YtkffjjlmoojffaaGreatDoor.plus W y) (Back (Go.Proofs.YtkffjjlmoojffaaGreatDoor.plus W y) (.bool (decide (ps.length ≤ 8) && psMay 1 ps)))) := Lib.hid fun y k x ps hx hps => by
    obtain ⟨h1, h2⟩ := heach k x ps hx hps
    exact to_mayPorts (w := Go.Proofs.YtkffjjlmoojffaaGreatDoor.plus W y) x.v ps ((h1.below hBW).plus y) h2
  have hcc : Hid (∀ (y : Ext) (k : Nat) (x : Sl3), pvs[k]? = some x → ∃ g o, p2 = some ⟨g, o, none⟩ ∧ (Go.Proofs.YtkffjjlmoojffaaGreatDoor.plus W y).cell? ⟨g, o + k, none⟩ = some (.slice x.p x.n x.c)) := Lib.hid fun y k x hx => by
    obtain ⟨g, o, hp, hg, hc⟩ := hcr k x hx
    refine ⟨g, o, hp, ((below_plus W y).cell (p := ⟨g, o + k, none⟩) (Nat.lt_of_lt_of_le hg hBW.size)).trans ((hBW.cell (p := ⟨g, o + k, none⟩) hg).trans ?_)⟩
    have := hc 0 _ rfl
    simpa using this
  have hL : Hid (∀ y : Ext, Calls Tryz.prog 30 #[.agg #[.slice p1 n1 c1, .slice p2 n2 c2, .slice p3 n3 c3]] (Go.Proofs.YtkffjjlmoojffaaGreatDoor.plus W y) (Back (Go.Proofs.YtkffjjlmoojffaaGreatDoor.plus W y) (.bool (endsMay n [] (flat n.links))))) := Lib.hid fun y => by
    have := to_mayLinks (w := Go.Proofs.YtkffjjlmoojffaaGreatDoor.plus W y) _ _ _ pvs n ((hN.below hBW).below (below_plus W y)) hlb
    rwa [hn1, hn2, hn3] at this
  have hBW' := Lib.hid hBW
  have hn2' := Lib.hid hn2
  have hn2p' := Lib.hid hn2p
  rw [hn1, hn2, hn3]
  obtain ⟨R, hR⟩ : ∃ R, netMay n = R := ⟨_, rfl⟩
  rw [hR]
  unfold netMay at hR
  rw [hn2p] at hR
  rw [hn1] at hR hS
  have hfin : Hid (∀ y : Ext, ∃ x, Go.Proofs.YtkffjjlmoojffaaGreatDoor.plus W y = Go.Proofs.YtkffjjlmoojffaaGreatDoor.plus w x) := Lib.hid fun y => plus_of_below (hBW.trans ((below_plus W y).mono hBW.size))
  clear hN hcap hcr h hplen heach hsw hn1 hn2 hn3 hn2p ca fa hBW hzz hb1 hz hlb
  generalize hB1 : (decide (n1 ≤ 8) && nmsMay [] n.names) = B1 at hR hS
  clear hB1
  generalize endsMay n [] (flat n.links) = B3 at hR hL
  go_enter Tryz.func10, Tryz.ntmps10
  go_upto_region 1 with (fail)
  rw [← hW, ← plus_self W]
  rw [← plus_self W] at hS
  clear hW
  go_wp2_with fail
  refine hS.out.mono ?_
  rintro e w' ⟨rfl, x, rfl⟩
  rw [plus_plus]
  generalize (⟨(⟨#[], W.drawn⟩ : Ext).blocks ++ x.blocks, x.draws⟩ : Ext) = y
  cases B1 with
  | false =>
    obtain rfl : R = false := by rw [← hR]; rfl
    clear hR hS
    go_wp2
    go_ret
    exact ⟨rfl, hfin.out _⟩
  | true =>
    by_cases h12 : n2 = n1
    · subst h12
      rw [decide_eq_true rfl, Bool.true_and, Bool.true_and] at hR
      replace hR := Lib.hid hR
      clear hS
      go_wp2
      go_loopw [4, 21] (fun _ iv wr => ∃ k : Nat, k ≤ n2 ∧ iv = .int .i64 (k : Int) ∧ (∃ y, wr = Go.Proofs.YtkffjjlmoojffaaGreatDoor.plus W y) ∧ Hid ((portsMay (n.ports.drop k) && B3) = R)) (fun _ iv _ => n2 - (intOf iv).toNat)
      case atStart => exact ⟨0, Nat.zero_le _, rfl, ⟨_, rfl⟩, hR.out⟩
      case round =>
        obtain ⟨k, hk, rfl, ⟨y2, rfl⟩, hm⟩ := hrel
        by_cases hlt : k < n2
        · obtain ⟨xs, hx⟩ : ∃ q, pvs[k]? = some q := ⟨pvs[k]'(by rw [hn2'.out]; exact hlt), List.getElem?_eq_getElem _⟩
          obtain ⟨ps, hps⟩ : ∃ q, n.ports[k]? = some q := ⟨n.ports[k]'(by rw [hn2p'.out]; exact hlt), List.getElem?_eq_getElem _⟩
          obtain ⟨g, o, rfl, hd⟩ := hcc.out y2 k xs hx
          have hPP := hP.out y2 k xs ps hx hps
          obtain ⟨e1, _, _⟩ := drop_at hps
          have hm' := hm.out
          rw [e1, portsMay_cons] at hm'
          have k0 : ¬ ((k : Int) < 0) := by omega
          have k1 : (k : Int) < (n2 : Int) := by omega
          generalize (decide (ps.length ≤ 8) && psMay 1 ps) = B4 at hPP hm'
          replace hPP := Lib.hid hPP
          clear hx hps hm e1
          cases B4 with
          | false =>
            obtain rfl : R = false := by rw [← hm']; simp
            clear hm'
            go_wp2_with fail
            refine hPP.out.mono ?_
            rintro e w' ⟨rfl, x3, rfl⟩
            try rw [plus_plus]
            go_wp2
            go_ret
            exact ⟨rfl, hfin.out _⟩
          | true =>
            rw [Bool.true_and] at hm'
            replace hm' := Lib.hid hm'
            go_wp2_with fail
            refine hPP.out.mono ?_
            rintro e w' ⟨rfl, x3, rfl⟩
            try rw [plus_plus]
            go_wp2
            go_roundw
            case rel => exact ⟨k + 1, hlt, congrArg (Value.int .i64) (by omega), ⟨_, rfl⟩, hm'⟩
            case measure => exact step_lt k n2 hlt
        · obtain rfl : k = n2 := by omega
          obtain rfl : B3 = R := by
            have := hm.out
            rw [List.drop_of_length_le (by have := hn2p'.out; omega)] at this
            simpa [portsMay] using this
          go_wp2_with fail
          refine (hL.out _).mono ?_
          rintro e w' ⟨rfl, x3, rfl⟩
          try rw [plus_plus]
          go_wp2
          go_ret
          exact ⟨rfl, hfin.out _⟩
    · have q1 : decide (n2 = n1) = false := decide_eq_false h12
      have q2 : ¬ (n2 : Int) = (n1 : Int) := by omega
      have q3 : ((n2 : Int) == (n1 : Int)) = false := by simpa using q2
      obtain rfl : R = false := by rw [← hR, q1]; simp
      clear hR hS
      go_wp2
      go_ret
      exact ⟨rfl, hfin.out _⟩
end Go.Proofs.YtkffjjlmoojffaaGreatDoor
namespace Go.Proofs.YtkffjjlmoojffaaGreatDoor
open Go.RowKit
abbrev itoaB (n : Int) : ByteArray := ⟨(Lib.itoa n).toArray⟩
abbrev Tab (w : World) : Prop := Lib.TabIs Tryz.prog w "internal/strconv.uint64pow10" .u64 Lib.pow10Tab
theorem tab_plus {w : World} (h : Tab w) (x : Ext) : Tab (plus w x) := by
  unfold Tab Lib.TabIs World.var? at *
  cases hg : Tryz.prog.globalNamed "internal/strconv.uint64pow10" with
  | none => rw [hg] at h; cases h
  | some g =>
    rw [hg] at h
    cases ho : w.heap[g]? with
    | none => simp [ho] at h
    | some o =>
      have hlt : g < w.heap.size := (Array.getElem?_eq_some_iff.1 ho).1
      have e : (plus w x).heap[g]? = w.heap[g]? := by simp [plus, Array.getElem?_append, hlt]
      simpa only [Option.bind_some, e] using h
def Pure' (f : FuncId) (args : Array Value) (v : Value) : Prop := ∀ w, Tab w → Calls Tryz.prog f args w fun e w' => e = .returned v ∧ ∃ x, w' = plus w x
theorem Pure'.at {f : FuncId} {args : Array Value} {v : Value} (h : Pure' f args v) (w : World) (hT : Tab w) (x : Ext) :
    Calls Tryz.prog f args (plus w x) fun e w' => e = .returned v ∧ ∃ y, w' = plus w y :=
  (h _ (tab_plus hT x)).mono fun _ _ ⟨he, y, hy⟩ => ⟨he, ⟨x.blocks ++ y.blocks, y.draws⟩, by rw [hy, plus_plus]⟩
theorem lib_itoa (n : Int) (h0 : -9223372036854775808 ≤ n) (h1 : n ≤ 9223372036854775807) : Pure' 32 #[.int .i64 n] (.string (itoaB n)) := by
  intro w hT
  refine (Tryz.strconv_Itoa n h0 h1 w hT).mono ?_
  rintro e w' ⟨rfl, k, os, rfl⟩
  exact ⟨rfl, ⟨os, w.drawn + k⟩, rfl⟩
theorem itoa_len (n : Int) (h0 : -9223372036854775808 ≤ n) (h1 : n ≤ 9223372036854775807) : (itoaB n).size ≤ 21 := Lib.itoa_length_le n h0 h1
end Go.Proofs.YtkffjjlmoojffaaGreatDoor
