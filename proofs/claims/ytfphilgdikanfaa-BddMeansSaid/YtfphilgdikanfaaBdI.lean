/-
  WHAT IS PROVED HERE: what the landed ite of a store's nodes hands back, or how it gives up: bdI, whatever was reckoned before.
-/
import Derived.Test.YtfphilgdikanfaaBdH
namespace Go.Proofs.Ytfphilgdikanfaa
open Go.RowKit
structure BdGo (w : World) (L : BdL) (w' : World) (L' : BdL) : Prop where
  move : BdMove w L L'
  keep : BdKeep L.has w w'
theorem BdGo.trans {w w1 w2 : World} {L L1 L2 : BdL} (h : BdGo w L w1 L1) (h' : BdGo w1 L1 w2 L2) : BdGo w L w2 L2 := ⟨h.move.trans h.keep.size h'.move, h.keep.trans h.move h'.keep⟩
theorem BdGo.below {w w1 w2 : World} {L L1 : BdL} (h : BdGo w L w1 L1) (hB : Below w1.heap.size w1 w2) : BdGo w L w2 L1 := h.trans ⟨BdMove.refl _ _, .of_below _ hB⟩
theorem BdGo.refl (w : World) (L : BdL) : BdGo w L w L := ⟨BdMove.refl _ _, BdKeep.refl _ _⟩
theorem BdGo.box {w w1 : World} {L L1 : BdL} (h : BdGo w L w1 L1) {k : Nat} {o : Obj} (hk : w.heap[k]? = some o) (hn : ¬ L.has k) : w1.heap[k]? = some o := (h.keep.block k (Array.getElem?_eq_some_iff.1 hk).1 hn).trans hk
theorem BdEnds.of {w : World} {L : BdL} {cap : Nat} {r : List Bd × Option Nat} {e : Ending} {w' : World} (h : BdEnds w L cap r e w') : ∃ L', BdGo w L w' L' ∧ BdAt w' L' cap r.2.isNone r.1 ∧ e = match r.2 with | some n => .returned (.int .i64 (n : Int)) | none => bdGave := by
  obtain ⟨L', h1, h2, h3, h4⟩ := h
  exact ⟨L', ⟨h1, h2⟩, h3, h4⟩
theorem BdGo.ends {w : World} {L : BdL} {cap : Nat} {r : List Bd × Option Nat} {w' : World} {L' : BdL} (h : BdGo w L w' L') (hA : BdAt w' L' cap r.2.isNone r.1) : BdEnds w L cap r (match r.2 with | some n => .returned (.int .i64 (n : Int)) | none => bdGave) w' := ⟨L', h.move, h.keep, hA, rfl⟩
set_option maxRecDepth 100000 in
set_option maxHeartbeats 8000000 in
/-- Where an end is met. -/
theorem bd_ite_end {W : World} {L : BdL} {cap : Nat} {R : List Bd} (h : BdAt W L cap false R) (c a b : Nat) (hend : (c = 1 ∨ a = b) ∨ c = 0 ∨ a = 1 ∧ b = 0) :
    Calls Try.prog 34 #[.pointer (some ⟨L.bn, 0, none⟩), .int .i64 (c : Int), .int .i64 (a : Int), .int .i64 (b : Int)] W (BdEnds W L cap (bdI cap R c a b)) := by
  have h' := Lib.hid h
  by_cases q1 : c = 1
  · subst q1
    rw [bdI_end1 cap R (.inl rfl)]
    clear hend h
    go_enter Try.func34, Try.ntmps34
    go_wp2
    go_ret
    exact (BdGo.refl W L).ends h'.out
  · by_cases q2 : a = b
    · subst q2
      rw [bdI_end1 cap R (.inr rfl)]
      have k1 : ((c : Int) == 1) = false := by simp; omega
      have k2 : ((a : Int) == (a : Int)) = true := by simp
      clear hend h
      go_enter Try.func34, Try.ntmps34
      go_wp2
      go_ret
      exact (BdGo.refl W L).ends h'.out
    · have k1 : ((c : Int) == 1) = false := by simp; omega
      have k2 : ((a : Int) == (b : Int)) = false := by simp; omega
      by_cases q3 : c = 0
      · rw [bdI_end2 cap R (fun z => z.elim q1 q2) q3]
        subst q3
        clear hend h
        go_enter Try.func34, Try.ntmps34
        go_wp2
        go_ret
        exact (BdGo.refl W L).ends h'.out
      · obtain ⟨rfl, rfl⟩ : a = 1 ∧ b = 0 := by
          rcases hend with (z | z) | z | z
          · exact absurd z q1
          · exact absurd z q2
          · exact absurd z q3
          · exact z
        rw [bdI_end3 cap R (fun z => z.elim q1 q2) q3 ⟨rfl, rfl⟩]
        have k3 : ((c : Int) == 0) = false := by simp; omega
        clear hend h
        go_enter Try.func34, Try.ntmps34
        go_wp2
        go_ret
        exact (BdGo.refl W L).ends h'.out
theorem bd_lookTold {w : World} {L : BdL} {cap : Nat} {full : Bool} {R : List Bd} (h : BdAt w L cap full R) : ∃ K, BdTold cap R K ∧ MapG w L.bk bdKey bdNum K ∧ ∀ k, BdFits k → ∀ y,
    (Instr.lookup 61 (.map (some L.bk)) (.agg #[.int .i32 (k.v : Int), .int .i32 (k.lo : Int), .int .i32 (k.hi : Int)]) true).run Try.prog (plus w y) = .ok (.tuple #[.int .i32 (((K k).getD 0 : Nat) : Int), .bool (K k).isSome]) (plus w y) := by
  obtain ⟨K, h1, h2⟩ := h.told
  refine ⟨K, h2, h1, fun k hk y => ?_⟩
  have := (h1.of_heap ((below_plus w y).block _ h1.lt)).look bd_keyed72 Try.underlying61 (bd_zero32 (plus w y)) bdKey_inj (fun k v e => bd_key72 k (h2.fits h k v e)) k (bd_key72 k hk)
  refine Eq.trans this ?_
  cases K k <;> rfl
theorem bd_min (c a b : Nat) : (if (b : Int) < (if a < c then (a : Int) else (c : Int)) then (b : Int) else if a < c then (a : Int) else (c : Int)) = ((min (min c a) b : Nat) : Int) := by
  by_cases q : a < c
  · rw [if_pos q]
    split <;> omega
  · rw [if_neg q]
    split <;> omega
/-- A box that is no block of the store stands behind all. -/
theorem BdGo.cells {w w1 : World} {L L1 : BdL} (h : BdGo w L w1 L1) {cap : Nat} {full : Bool} {R : List Bd} (hA : BdAt w L cap full R) {k : Nat} {cs : Array Value} {t : TypeId} {z : Nat × Nat} (hk : w.heap[k]? = some (.cells cs t z)) (h1 : t ≠ 63) (h2 : t ≠ 58) : w1.heap[k]? = some (.cells cs t z) := h.box hk (hA.other hk h1 h2)
set_option maxRecDepth 100000 in
set_option maxHeartbeats 8000000 in
theorem bd_ite_step {W : World} {L : BdL} {cap : Nat} {R : List Bd} (h : BdAt W L cap false R) (c a b : Nat) (hc : c < R.length) (ha : a < R.length) (hb : b < R.length) (n1 : ¬ (c = 1 ∨ a = b)) (n2 : c ≠ 0) (n3 : ¬ (a = 1 ∧ b = 0))
    (ih : ∀ (W' : World) (L' : BdL) (R' : List Bd) (c' a' b' : Nat), BdAt W' L' cap false R' → c' < R'.length → a' < R'.length → b' < R'.length → bdTop R c a b < bdTop R' c' a' b' →
      Calls Try.prog 34 #[.pointer (some ⟨L'.bn, 0, none⟩), .int .i64 (c' : Int), .int .i64 (a' : Int), .int .i64 (b' : Int)] W' (BdEnds W' L' cap (bdI cap R' c' a' b'))) :
    Calls Try.prog 34 #[.pointer (some ⟨L.bn, 0, none⟩), .int .i64 (c : Int), .int .i64 (a : Int), .int .i64 (b : Int)] W (BdEnds W L cap (bdI cap R c a b)) := by
  have hroom := h.room
  have hsm := h.small
  have k1 : ((c : Int) == 1) = false := by simp; omega
  have k2 : ((a : Int) == (b : Int)) = false := by simp; omega
  have k3 : ((c : Int) == 0) = false := by simp; omega
  have hfit : BdFits ⟨c, a, b⟩ := ⟨by simp only; omega, by simp only; omega, by simp only; omega⟩
  obtain ⟨X, hX, hXB, hXh, hXs⟩ := bd_box W #[.int .i32 (c : Int), .int .i32 (a : Int), .int .i32 (b : Int)] 72
  have hA := h.below hXB
  obtain ⟨K, hK, -, hlook⟩ := bd_lookTold hA
  have hlk := hlook ⟨c, a, b⟩ hfit
  obtain ⟨cc, g1, -⟩ := hA.head
  have hrow := fun y => @BdAt.row (plus X y) L cap false R (hA.plus y)
  obtain ⟨⟨vc, lc, ic⟩, hrc⟩ : ∃ n, R[c]? = some n := ⟨_, List.getElem?_eq_getElem hc⟩
  obtain ⟨⟨va, la, ia⟩, hra⟩ : ∃ n, R[a]? = some n := ⟨_, List.getElem?_eq_getElem ha⟩
  obtain ⟨⟨vb, lb, ib⟩, hrb⟩ : ∃ n, R[b]? = some n := ⟨_, List.getElem?_eq_getElem hb⟩
  have v1 := fun y => (hrow y hrc).1
  have v2 := fun y => (hrow y hra).1
  have v3 := fun y => (hrow y hrb).1
  have e1 := (hA.fits hrc).1
  have e2 := (hA.fits hra).1
  have e3 := (hA.fits hrb).1
  simp only at v1 v2 v3 e1 e2 e3
  have ht64 := bdTop_lt (a := a) (b := b) h.ok hc (fun e => n1 (.inl e)) n2
  have hstep := bdI_step cap h.ok hc ha hb n1 n2 n3
  have k0f := bdTop_half h.ok hc ha hb ht64 false
  obtain ⟨t, ht⟩ : ∃ t, bdTop R c a b = t := ⟨_, rfl⟩
  rw [ht] at ht64 hstep ih k0f
  have hT : Hid (((min (min vc va) vb : Nat) : Int) = (t : Int)) := Lib.hid (by rw [← ht]; unfold bdTop; rw [bdV_at hrc, bdV_at hra, bdV_at hrb])
  have f2 := fun y => bd_cell (bd_heap_plus X y g1) 2 _ rfl
  have f4 := fun y => bd_cell (bd_heap_plus X y g1) 4 _ rfl
  have b0 := fun y => bd_cell (bd_heap_plus X y hXh) 0 _ rfl
  have b1 := fun y => bd_cell (bd_heap_plus X y hXh) 1 _ rfl
  have b2 := fun y => bd_cell (bd_heap_plus X y hXh) 2 _ rfl
  have hH0 := fun x (hx : x < R.length) => bd_half hA x t false hx
  have hH0c := Lib.hid (hH0 c hc)
  have hH0a := Lib.hid (hH0 a ha)
  have hH0b := Lib.hid (hH0 b hb)
  have ih0 := fun y => ih (plus X y) L R _ _ _ (hA.plus y) (bdHalf_lt h.ok hc t false) (bdHalf_lt h.ok ha t false) (bdHalf_lt h.ok hb t false) k0f
  have hB1 := fun R1 lo => bdI_half1 (cap := cap) (R1 := R1) (lo := lo) h.ok hc ha hb ht ht64
  obtain ⟨⟨R1, o1⟩, hr1⟩ : ∃ r, bdI cap R (bdHalf R c t false) (bdHalf R a t false) (bdHalf R b t false) = r := ⟨_, rfl⟩
  rw [hr1] at hstep ih0
  have hB1' := fun lo (e : o1 = some lo) => hB1 R1 lo (by rw [hr1, e])
  generalize bdHalf R c t false = c0 at hH0c ih0
  generalize bdHalf R a t false = a0 at hH0a ih0
  generalize bdHalf R b t false = b0' at hH0b ih0
  obtain ⟨N, hN⟩ : ∃ N, R.length = N := ⟨_, rfl⟩
  have hcab := Lib.hid (And.intro hc (And.intro ha hb))
  rw [hN] at f2 hc ha hb hroom
  have h' := Lib.hid h
  have hX' := Lib.hid hX
  have hXB' := Lib.hid hXB
  have hXh' := Lib.hid hXh
  have hXs' := Lib.hid hXs
  have hA' := Lib.hid hA
  have hK' := Lib.hid hK
  have ih' := Lib.hid ih
  have ih0' := Lib.hid ih0
  have hstep' := Lib.hid hstep
  have hB' := Lib.hid hB1'
  have ht64' := Lib.hid ht64
  have n3' : a = 1 → ((b : Int) == 0) = false := fun e => by simp; omega
  simp only at hlk
  obtain ⟨o, ho⟩ : ∃ o, K ⟨c, a, b⟩ = o := ⟨_, rfl⟩
  rw [ho] at hlk
  have ho' := Lib.hid ho
  clear h hX hXB hXh hXs hA hK ih hN hlook g1 hrow hrc hra hrb hfit ho n1 n2 n3 hH0 ih0 hstep hB1 hB1' hr1 k0f ht ht64
  have hk : (((a : Int) == 1) = true ∧ ((b : Int) == 0) = false) ∨ ((a : Int) == 1) = false := by
    by_cases q : a = 1
    · exact .inl ⟨by simp [q], n3' q⟩
    · exact .inr (by simp; omega)
  clear n3'
  obtain ⟨r, hr⟩ : ∃ r, bdI cap R c a b = r := ⟨_, rfl⟩
  rw [hr]
  have hr' := Lib.hid hr
  clear hr
  rcases hk with ⟨k4, k5⟩ | k4
  all_goals
    cases o with
    | some n =>
      simp only [Option.getD_some, Option.isSome_some] at hlk
      have hn := (hK'.out ⟨c, a, b⟩ n ho'.out).2.2.2
      have hnl : n ≤ 1048577 := by
        have := (bdI_made h'.out.ok hcab.out.1 hcab.out.2.1 hcab.out.2.2 hn).2.2.2.1
        have := h'.out.room
        omega
      have e1 : Hid (r = (R, some n)) := Lib.hid (by rw [← hr'.out]; exact hn)
      clear hn
      go_enter Try.func34, Try.ntmps34
      go_upto_region 8 with (fail)
      rw [hX'.out]
      refine wp_region_own0 (by kernel_rfl) (by kernel_rfl) ?_
      repeat (go_big_quiet_step (fail))
      refine wpQuiet_nil ?_
      rintro _ ⟨y1, rfl⟩
      go_wp2
      go_ret
      rw [e1.out]
      exact (((BdGo.refl W L).below hXB'.out).below (below_plus X y1)).ends (hA'.out.plus y1)
    | none =>
      simp only [Option.getD_none, Option.isSome_none] at hlk
      go_enter Try.func34, Try.ntmps34
      go_upto_region 8 with (fail)
      rw [hX'.out]
      refine wp_region_own0 (by kernel_rfl) (by kernel_rfl) ?_
      repeat (go_big_quiet_step (fail))
      refine wpQuiet_nil ?_
      rintro _ ⟨y1, rfl⟩
      go_upto_region 11 with (fail)
      refine wp_region_own (by kernel_rfl) (by kernel_rfl) ?_
      try simp only [List.append]
      repeat (go_big_quiet_step (fail))
      refine wpQuiet_nil ?_
      rintro _ ⟨y2, rfl⟩
      rw [bd_min, hT.out]
      clear hlk v1 v2 v3 e1 e2 e3 f2 f4 b0 b1 b2 k1 k2 k3 k4
      go_wp2_with (first | (go_at_call 38; (first | with_reducible refine (hH0c.out _).mono ?_ | with_reducible refine (hH0a.out _).mono ?_ | with_reducible refine (hH0b.out _).mono ?_); rintro r w' ⟨rfl, x, rfl⟩))
      refine (ih0'.out _).mono ?_
      intro e w1 hE
      obtain ⟨L1, hG1, hA1, rfl⟩ := hE.of
      have hGo1 : BdGo W L w1 L1 := (((BdGo.refl W L).below hXB'.out).below (below_plus X _)).trans hG1
      have hGo1' := Lib.hid hGo1
      have hbox1 : w1.heap[W.heap.size]? = _ := (((BdGo.refl X L).below (below_plus X _)).trans hG1).cells hA'.out hXh'.out (by decide) (by decide)
      cases o1 with
      | none =>
        simp only [Option.isNone_none] at hA1
        have e1 : Hid (r = (R1, none)) := Lib.hid (by rw [← hr'.out]; exact hstep'.out)
        have hA1' := Lib.hid hA1
        clear hE hG1 hA1 hGo1 hB' hstep' hbox1
        go_wp2
        refine ⟨rfl, ?_⟩
        rw [e1.out]
        exact hGo1'.out.ends hA1'.out
      | some lo =>
        simp only [Option.isNone_some] at hA1
        obtain ⟨ok1, len1, lo1, vlo1, cl1, al1, bl1, tt1⟩ := hB'.out lo rfl
        have hbn1 := hG1.move.bn
        have hH1c := bd_half hA1 c t true (Nat.lt_of_lt_of_le hcab.out.1 len1)
        have hH1a := bd_half hA1 a t true (Nat.lt_of_lt_of_le hcab.out.2.1 len1)
        have hH1b := bd_half hA1 b t true (Nat.lt_of_lt_of_le hcab.out.2.2 len1)
        have ih1 := fun y => ih'.out (plus w1 y) L1 R1 _ _ _ (hA1.plus y) cl1 al1 bl1 tt1
        have hstep1 := hstep'.out
        rw [hr'.out] at hstep1
        simp only at hstep1
        have hB2 := fun R2 hi => bdI_half2 (cap := cap) (R2 := R2) (hi := hi) ok1 cl1 al1 bl1 tt1 lo1 vlo1
        obtain ⟨⟨R2, o2⟩, hr2⟩ : ∃ r, bdI cap R1 (bdHalf R1 c t true) (bdHalf R1 a t true) (bdHalf R1 b t true) = r := ⟨_, rfl⟩
        rw [hr2] at hstep1 ih1
        have hB2' := fun hi (e : o2 = some hi) => hB2 R2 hi (by rw [hr2, e])
        rw [hbn1] at hH1c hH1a hH1b ih1
        generalize bdHalf R1 c t true = c1 at hH1c ih1
        generalize bdHalf R1 a t true = a1 at hH1a ih1
        generalize bdHalf R1 b t true = b1' at hH1b ih1
        have hA1' := Lib.hid hA1
        have hbox1' := Lib.hid hbox1
        have hbn1' := Lib.hid hbn1
        have hH1c' := Lib.hid hH1c
        have hH1a' := Lib.hid hH1a
        have hH1b' := Lib.hid hH1b
        have ih1' := Lib.hid ih1
        have hstep1' := Lib.hid hstep1
        have hB2h := Lib.hid hB2'
        clear hE hG1 hA1 hGo1 hbox1 ok1 len1 lo1 vlo1 cl1 al1 bl1 tt1 hbn1 hH1c hH1a hH1b ih1 hstep1 hB2 hB2' hr2 hB' hstep' hH0c hH0a hH0b ih0'
        rw [← plus_self w1]
        go_wp2_with (first | (go_at_call 38; (first | with_reducible refine (hH1c'.out _).mono ?_ | with_reducible refine (hH1a'.out _).mono ?_ | with_reducible refine (hH1b'.out _).mono ?_); rintro r w' ⟨rfl, x, rfl⟩))
        refine (ih1'.out _).mono ?_
        intro e w2 hE
        obtain ⟨L2, hG2, hA2, rfl⟩ := hE.of
        have hGo2 : BdGo W L w2 L2 := (hGo1'.out.below (below_plus w1 _)).trans hG2
        have hbox2 : w2.heap[W.heap.size]? = _ := (((BdGo.refl w1 L1).below (below_plus w1 _)).trans hG2).cells hA1'.out hbox1'.out (by decide) (by decide)
        have hGo2' := Lib.hid hGo2
        cases o2 with
        | none =>
          simp only [Option.isNone_none] at hA2
          have e1 : Hid (r = (R2, none)) := Lib.hid hstep1'.out
          have hA2' := Lib.hid hA2
          clear hE hG2 hA2 hGo2 hbox2
          go_wp2
          refine ⟨rfl, ?_⟩
          rw [e1.out]
          exact hGo2'.out.ends hA2'.out
        | some hi =>
          simp only [Option.isNone_some] at hA2
          obtain ⟨ok2, len2, lo2, hi2, vlo2, vhi2⟩ := hB2h.out hi rfl
          have hbn2 := hG2.move.bn.trans hbn1'.out
          have hN2 := bd_node hA2 t lo hi ht64'.out lo2 hi2 vlo2 vhi2
          have hstep2 := hstep1'.out
          simp only at hstep2
          rw [← hstep2, hbn2] at hN2
          have hA2' := Lib.hid hA2
          have hbox2' := Lib.hid hbox2
          have hbn2' := Lib.hid hbn2
          have hN2' := Lib.hid hN2
          clear hE hG2 hA2 hGo2 hbox2 ok2 len2 lo2 hi2 vlo2 vhi2 hbn2 hN2 hstep2 hB2h hstep1' hH1c' hH1a' hH1b' ih1'
          go_wp2_with fail
          refine hN2'.out.mono ?_
          intro e w3 hE
          obtain ⟨L3, hG3, hA3, rfl⟩ := hE.of
          have hGo3 : BdGo W L w3 L3 := hGo2'.out.trans hG3
          have hbox3 : w3.heap[W.heap.size]? = _ := hG3.cells hA2'.out hbox2'.out (by decide) (by decide)
          have hGo3' := Lib.hid hGo3
          obtain ⟨R3, o3⟩ := r
          cases o3 with
          | none =>
            have hA3' := Lib.hid hA3
            clear hE hG3 hA3 hGo3 hbox3
            go_wp2
            exact ⟨rfl, hGo3'.out.ends hA3'.out⟩
          | some n =>
            simp only [Option.isNone_some] at hA3
            obtain ⟨m1, m2, m3, m4, m5⟩ := bdI_made h'.out.ok hcab.out.1 hcab.out.2.1 hcab.out.2.2 hr'.out
            have hK3 := bd_keep hA3 c a b n m1 m2 m3 m4 m5
            have hbn3 := hG3.move.bn.trans hbn2'.out
            rw [hbn3] at hK3
            have b0 := bd_cell hbox3 0 _ rfl
            have b1 := bd_cell hbox3 1 _ rfl
            have b2 := bd_cell hbox3 2 _ rfl
            have hK3' := Lib.hid hK3
            clear hE hG3 hA3 hGo3 hbox3 m1 m2 m3 m4 m5 hK3 hbn3 hN2'
            go_wp2_with fail
            refine hK3'.out.mono ?_
            rintro e w4 ⟨rfl, hk4, hA4⟩
            have hE4 : Hid (BdEnds W L cap (R3, some n) (.returned (.int .i64 (n : Int))) w4) := Lib.hid ((hGo3'.out.trans ⟨BdMove.refl _ _, hk4⟩).ends (r := (R3, some n)) hA4)
            clear hk4 hA4 b0 b1 b2
            go_wp2
            go_ret
            exact hE4.out
set_option maxHeartbeats 8000000 in
theorem bd_ite (cap : Nat) : ∀ (f : Nat) (W : World) (L : BdL) (R : List Bd) (c a b : Nat), BdAt W L cap false R → c < R.length → a < R.length → b < R.length → 65 ≤ f + bdTop R c a b →
    Calls Try.prog 34 #[.pointer (some ⟨L.bn, 0, none⟩), .int .i64 (c : Int), .int .i64 (a : Int), .int .i64 (b : Int)] W (BdEnds W L cap (bdI cap R c a b)) := by
  intro f
  induction f with
  | zero => intro W L R c a b h _ _ _ hf; have := bdTop_le h.ok c a b; omega
  | succ f ih =>
    intro W L R c a b h hc ha hb hf
    by_cases q : (c = 1 ∨ a = b) ∨ c = 0 ∨ a = 1 ∧ b = 0
    · exact bd_ite_end h c a b q
    · exact bd_ite_step h c a b hc ha hb (fun z => q (.inl z)) (fun z => q (.inr (.inl z))) (fun z => q (.inr (.inr z))) fun W' L' R' c' a' b' h' hc' ha' hb' ht => ih W' L' R' c' a' b' h' hc' ha' hb' (by omega)
end Go.Proofs.Ytfphilgdikanfaa
