/-
  WHAT IS PROVED HERE: a part of the proof of the claim's theorem: NetN.
-/
import Derived.Test.YtkffjjlmoojffaaGreatDoorRows
import Derived.Test.YtkffjjlmoojffaaGreatDoorM28
set_option linter.all false
namespace Go.Proofs.YtkffjjlmoojffaaGreatDoor
open Go.RowKit
theorem dHas_not {l : List Tok} {d : DS} {x : ByteArray} (h : d.bad = true) : dHas l d x = false := by unfold dHas dNow; rw [h]; rfl
def ReadEnds (w : World) (s : ByteArray) (R : Net' × DS) (e : Ending) (w' : World) : Prop := Below w.heap.size w w' ∧
    (R.2.bad = true → e = .returned (.tuple #[.agg #[.slice none 0 0, .slice none 0 0, .slice none 0 0], fv R.2.e (lineOf s R.2.p : Nat) (colOf s R.2.p : Nat)])) ∧
    (R.2.bad = false → ∃ sw po li pvs, e = .returned (.tuple #[.agg #[sw, po, li], fv 0 0 0]) ∧ NI w.heap.size w' sw po li pvs R.1)
section
variable {b g cap : Nat} {l : List Tok} {W5 : World} {sw po li : Value} {pvs : List Sl3} {n : Net'} {d : DS}
theorem NI.base {base base' : Nat} {W : World} {sw po li : Value} {pvs : List Sl3} {n : Net'} (h : NI base W sw po li pvs n) (hb : base' ≤ base) : NI base' W sw po li pvs n :=
  ⟨own_base h.sw hb, own_base h.po hb, own_base h.li hb, h.len, fun i x ps hx hp => ⟨own_base (h.each i x ps hx hp).1 hb, (h.each i x ps hx hp).2⟩⟩
theorem netlen {z : Nat} (hk : n.names.length ≤ d.k + (if d.bad = true then 1 else 0)) (hl : d.k ≤ l.length) (hL : l.length ≤ 100000) : n.names.length ≤ 100001 := by
  have : (if d.bad = true then 1 else 0) ≤ 1 := by split <;> omega
  omega
set_option maxRecDepth 100000 in
set_option maxHeartbeats 16000000 in
theorem dc_read {s : ByteArray} (hs : s.size ≤ 2000) (h0 : (lexR s).2.2 = 0) (w : World) : Calls Tryz.prog 7 #[.string s] w (ReadEnds w s (dAll (lexR s).1)) := by
  have hT := lexR_tl s h0
  have hLx := ref_lex s (by omega) (((w.alloc (.cells #[.slice none 0 0, .slice none 0 0, .slice none 0 0] 27)).alloc (.cells #[.int .i64 0, .int .i64 0, .int .i64 0] 32)))
  rw [fault0 s _ h0] at hLx
  have hlen := lexR_len s
  obtain ⟨l, hl⟩ : ∃ l, (lexR s).1 = l := ⟨_, rfl⟩
  rw [hl] at hT hLx hlen ⊢
  have hL : l.length ≤ 100000 := by omega
  obtain ⟨RES, hRES⟩ : ∃ R, dAll l = R := ⟨_, rfl⟩
  rw [hRES]
  have hFo : Hid (Fo s.size RES.2) := Lib.hid (by rw [← hRES]; exact fo_all hT)
  replace hLx := Lib.hid hLx
  replace hRES := Lib.hid hRES
  replace hT := Lib.hid hT
  replace hL := Lib.hid hL
  replace hs := Lib.hid hs
  clear hl hlen h0
  go_enter Tryz.func7, Tryz.ntmps7
  go_wp2_with fail
  refine hLx.out.mono ?_
  rintro e W3 ⟨v, rfl, hown, hB3⟩
  clear hLx
  obtain ⟨g, cap, rfl, hg1, hg2⟩ := own_form hown hT.out.pos
  have hcap : l.length ≤ cap := by
    rcases hown.2 with ⟨h, _⟩ | ⟨g', cap', cur, h, _, _, h3, _⟩
    · cases h
    · cases h; exact h3
  have htk : ∀ (j : Nat) (t : Tok), l[j]? = some t → TokAt W3 g j t := fun j t ht => tok_at hown hg2 j t ht
  obtain ⟨W2, hW2, hBW2, hzW2, ca, cb, fa, fb⟩ := box2 w #[.slice none 0 0, .slice none 0 0, .slice none 0 0] #[.int .i64 0, .int .i64 0, .int .i64 0] 27 32
  rw [← hW2] at hB3
  clear hW2 hown
  have hsz := hB3.size
  have hBw3 := hBW2.trans (hB3.mono (by omega))
  go_upto_region 2 with (fail)
  obtain ⟨W4, hW4, hBW4, hzW4, c4, f4⟩ := box1 W3 #[.int .i64 0, .int .i64 0, .int .i64 0] 32
  rw [← hW4]
  clear hW4
  have x0 := c4 0 _ rfl ⟨#[], W4.drawn⟩
  rw [plus_self] at x0
  replace hzW4 := Lib.hid hzW4
  clear c4 f4
  go_upto_region 5 with (fail)
  replace hzW4 := hzW4.out
  have hX5 : Rd (W4.alloc (.cells #[.slice (some ⟨g, 0, none⟩) l.length cap, .int .i64 0, .slice none 0 0, .slice none 0 0, .slice none 0 0, .bool false, .int .i64 0, .int .i64 0] 54)) W4.heap.size g cap l (.slice none 0 0) (.slice none 0 0) (.slice none 0 0) d00 := by
    have c : ∀ (i : Nat) (v : Value), (#[.slice (some ⟨g, 0, none⟩) l.length cap, .int .i64 0, .slice none 0 0, .slice none 0 0, .slice none 0 0, .bool false, .int .i64 0, .int .i64 0] : Array Value)[i]? = some v → _ := fun i v hv => (cell_new W4 #[.slice (some ⟨g, 0, none⟩) l.length cap, .int .i64 0, .slice none 0 0, .slice none 0 0, .slice none 0 0, .bool false, .int .i64 0, .int .i64 0] 54 _ i rfl).trans hv
    refine ⟨by simp, c 0 _ rfl, c 1 _ rfl, c 2 _ rfl, c 3 _ rfl, c 4 _ rfl, c 5 _ rfl, c 6 _ rfl, c 7 _ rfl, fun o => frozen_new W4 _ _ _ o rfl, by omega, hT.out.pos, by have := hL.out; omega, fun j t ht => ?_⟩
    exact ((htk j t ht).block hBW4.size (hBW4.block g hg2)).block (by simp) (Below.heap_alloc _ _ _ (by omega))
  obtain ⟨W5, hW5⟩ : ∃ X, W4.alloc (.cells #[.slice (some ⟨g, 0, none⟩) l.length cap, .int .i64 0, .slice none 0 0, .slice none 0 0, .slice none 0 0, .bool false, .int .i64 0, .int .i64 0] 54) = X := ⟨_, rfl⟩
  have hB45 : Below W4.heap.size W4 W5 := by rw [← hW5]; exact (Below.refl _ _).alloc (Nat.le_refl _) _
  have hz5 : W5.heap.size = W4.heap.size + 1 := by rw [← hW5]; simp
  rw [hW5] at hX5 ⊢
  clear hW5
  have hBw5 := (hBw3.trans (hBW4.mono (by omega))).trans (hB45.mono (by omega))
  generalize hbb : W4.heap.size = b at hX5 hB45 hz5 ⊢
  have hwb : Hid (w.heap.size + 1 + 1 < b) := by show _ < _; omega
  have hR0 : Hid (RI b g cap l W5 (.slice none 0 0) (.slice none 0 0) (.slice none 0 0) [] net0 d00 W5) := Lib.hid ⟨Below.refl _ _, by omega, by omega, hX5, NI.nil _ _⟩
  have e5 : ∀ m i v, m < w.heap.size + 2 → (∀ y, (Go.Proofs.YtkffjjlmoojffaaGreatDoor.plus W2 y).cell? ⟨m, i, none⟩ = some v) → W5.cell? ⟨m, i, none⟩ = some v := fun m i v hm hv => by
    have h2 := hv ⟨#[], W2.drawn⟩
    rw [plus_self] at h2
    have h3 := (hB3.cell (p := ⟨m, i, none⟩) (by show m < _; omega)).trans h2
    have h4 := (hBW4.cell (p := ⟨m, i, none⟩) (by show m < _; omega)).trans h3
    exact (hB45.cell (p := ⟨m, i, none⟩) (by show m < _; omega)).trans h4
  have f5 : ∀ m o, m < w.heap.size + 2 → (∀ y o, (Go.Proofs.YtkffjjlmoojffaaGreatDoor.plus W2 y).frozen? ⟨m, o, none⟩ = false) → W5.frozen? ⟨m, o, none⟩ = false := fun m o hm hv => by
    have h2 := hv ⟨#[], W2.drawn⟩ o
    rw [plus_self] at h2
    have h3 := (hB3.frozen (p := ⟨m, o, none⟩) (by show m < _; omega)).trans h2
    have h4 := (hBW4.frozen (p := ⟨m, o, none⟩) (by show m < _; omega)).trans h3
    exact (hB45.frozen (p := ⟨m, o, none⟩) (by show m < _; omega)).trans h4
  have hres : Hid (W5.cell? ⟨w.heap.size, 0, none⟩ = some (.slice none 0 0) ∧ W5.cell? ⟨w.heap.size, 1, none⟩ = some (.slice none 0 0) ∧ W5.cell? ⟨w.heap.size, 2, none⟩ = some (.slice none 0 0) ∧ W5.cell? ⟨w.heap.size + 1, 0, none⟩ = some (.int .i64 0) ∧ W5.cell? ⟨w.heap.size + 1, 1, none⟩ = some (.int .i64 0) ∧ W5.cell? ⟨w.heap.size + 1, 2, none⟩ = some (.int .i64 0) ∧ (∀ o, W5.frozen? ⟨w.heap.size, o, none⟩ = false) ∧ ∀ o, W5.frozen? ⟨w.heap.size + 1, o, none⟩ = false) := Lib.hid ⟨e5 _ _ _ (by omega) (ca 0 _ rfl), e5 _ _ _ (by omega) (ca 1 _ rfl), e5 _ _ _ (by omega) (ca 2 _ rfl), e5 _ _ _ (by omega) (cb 0 _ rfl), e5 _ _ _ (by omega) (cb 1 _ rfl), e5 _ _ _ (by omega) (cb 2 _ rfl), fun o => f5 _ o (by omega) fa, fun o => f5 _ o (by omega) fb⟩
  have hBw5' := Lib.hid hBw5
  clear hX5 hB45 hz5 hbb hBw5 hBW4 hzW4 hBw3 hB3 hsz hBW2 hzW2 ca cb fa fb htk hg1 hg2 hcap e5 f5 x0
  obtain ⟨R1, hR1⟩ : ∃ R, dNodes l (l.length + 2) net0 d00 = R := ⟨_, rfl⟩
  have hok0 : Hid (Ok l d00) := Lib.hid ⟨Nat.zero_le _, fun _ => hT.out.pos⟩
  replace hR1 := Lib.hid hR1
  go_loopw [7] (fun _ wr => Hid (∃ f sw po li pvs n d, RI b g cap l W5 sw po li pvs n d wr ∧ Ok l d ∧ dLeft l d < f ∧ n.names.length ≤ d.k + (if d.bad = true then 1 else 0) ∧ n.links = [] ∧ n.ports.length = n.names.length ∧ dNodes l f n d = R1)) (fun _ wr => dMeas wr b l.length)
  case atStart => exact Lib.hid ⟨l.length + 2, _, _, _, _, _, _, hR0.out, hok0.out, by unfold dLeft; split <;> omega, Nat.zero_le _, rfl, rfl, hR1.out⟩
  case round =>
    obtain ⟨f, sw, po, li, pvs, n, d, hI, hOk, hf, hlen, hlk, hpn, hres1⟩ := hrel.out
    clear hrel hR0
    obtain ⟨f, rfl⟩ : ∃ f', f = f' + 1 := ⟨f - 1, by omega⟩
    have hmeas := Lib.hid (dMeas_of hI.rd)
    have hH := dc_has hI.rd hOk.lt wSwitch
    unfold dNodes at hres1
    have hnl : Hid (n.names.length ≤ 100001) := Lib.hid (netlen (z := 0) hlen hOk.le hL.out)
    cases hhas : dHas l d wSwitch with
    | false =>
      rw [hhas, if_neg (by simp)] at hres1
      rw [hhas] at hH
      replace hH := Lib.hid hH
      replace hI := Lib.hid hI
      have hfin1 : Hid (Ok l d ∧ n.links = [] ∧ n.names.length ≤ 100001 ∧ n.ports.length = n.names.length ∧ R1 = (n, d)) := Lib.hid ⟨hOk, hlk, hnl.out, hpn, hres1.symm⟩
      clear hf hlen hlk hres1 hmeas hOk hhas hpn
      go_wp2_with fail
      refine hH.out.mono ?_
      rintro e X1 ⟨rfl, hgX, hX⟩
      have hI1 := Lib.hid (hI.out.step hgX hX)
      clear hgX hX hI hH
      go_upto_region 13 with (fail)
      obtain ⟨R2, hR2⟩ : ∃ R, dLinks l (l.length + 2) n d = R := ⟨_, rfl⟩
      have hAll : Hid (RES = (R2.1, dFail (decide ((dNow l R2.2).kind = 0)) (dNow l R2.2) 4 R2.2)) := by
        show _ = _
        rw [← hRES.out]
        unfold dAll
        simp only
        rw [hR1.out, hfin1.out.2.2.2.2]
        simp only
        rw [hR2]
      replace hR2 := Lib.hid hR2
      obtain ⟨p1, c1, rfl⟩ := own_sl3 hI1.out.ni.sw
      obtain ⟨p2, c2, rfl⟩ := own_sl3 hI1.out.ni.po
      obtain ⟨n1, hn1⟩ : ∃ n1, n.names.length = n1 := ⟨_, rfl⟩
      obtain ⟨n2, hn2⟩ : ∃ n2, pvs.length = n2 := ⟨_, rfl⟩
      rw [hn1, hn2] at hI1
      have hnb : Hid (n.names.length ≤ 1048576 ∧ n.ports.length ≤ 1048576) := Lib.hid ⟨by have := hfin1.out.2.2.1; omega, by have := hfin1.out.2.2.1; have := hfin1.out.2.2.2.1; omega⟩
      have hlk0 : Hid (n.links.length = 0) := Lib.hid (by rw [hfin1.out.2.1]; rfl)
      have hokS := Lib.hid hfin1.out.1
      clear hR1 hfin1 hnl hok0 hn1 hn2
      go_loopw [9] (fun _ wr => Hid (∃ f li lks d, RI b g cap l W5 (.slice p1 n1 c1) (.slice p2 n2 c2) li pvs ⟨n.names, n.ports, lks⟩ d wr ∧ Ok l d ∧ dLeft l d < f ∧ lks.length ≤ d.k ∧ dLinks l f ⟨n.names, n.ports, lks⟩ d = R2)) (fun _ wr => dMeas wr b l.length)
      case atStart => exact Lib.hid ⟨l.length + 2, _, _, _, hI1.out, hokS.out, by unfold dLeft; split <;> omega, by have := hlk0.out; omega, hR2.out⟩
      case round =>
        obtain ⟨f, li, lks, d, hI, hOk, hf, hlen, hres1⟩ := hrel.out
        clear hrel hI1 hokS hlk0 hR2
        obtain ⟨f, rfl⟩ : ∃ f', f = f' + 1 := ⟨f - 1, by omega⟩
        have hmeas := Lib.hid (dMeas_of hI.rd)
        have hH := dc_has hI.rd hOk.lt wLink
        unfold dLinks at hres1
        have hlb : Hid (lks.length ≤ 1048576) := Lib.hid (by have := hOk.le; have := hL.out; omega)
        obtain ⟨p3, c3, rfl⟩ := own_sl3 hI.ni.li
        obtain ⟨n3, hn3⟩ : ∃ n3, lks.length = n3 := ⟨_, rfl⟩
        simp only at hI hH
        rw [hn3] at hI hH
        replace hn3 := Lib.hid hn3
        cases hhas : dHas l d wLink with
        | false =>
          rw [hhas, if_neg (by simp)] at hres1
          rw [hhas] at hH
          replace hH := Lib.hid hH
          replace hI := Lib.hid hI
          replace hres1 := Lib.hid hres1
          replace hOk := Lib.hid hOk
          clear hf hlen hmeas hhas
          go_wp2_with fail
          refine hH.out.mono ?_
          rintro e X1 ⟨rfl, hgX, hX⟩
          have hI1 := Lib.hid (hI.out.step hgX hX)
          clear hgX hX hI hH
          go_upto_region 20 with (fail)
          obtain ⟨f9, rfl⟩ : ∃ x : Nat, f = x := ⟨f, rfl⟩
          have hR2 : Hid (R2 = (⟨n.names, n.ports, lks⟩, d)) := Lib.hid hres1.out.symm
          obtain ⟨t, ht⟩ : ∃ t, dNow l d = t := ⟨_, rfl⟩
          obtain ⟨BK, hBK⟩ : ∃ B, decide (t.kind = 0) = B := ⟨_, rfl⟩
          obtain ⟨d9, hd9⟩ : ∃ x, dFail BK t 4 d = x := ⟨_, rfl⟩
          have hRS : Hid (RES = (⟨n.names, n.ports, lks⟩, d9)) := by
            show _ = _
            rw [hAll.out, hR2.out]
            simp only
            rw [ht, hBK, hd9]
          have hNow := Lib.hid (fun (W : World) (h : Rd W b g cap l (.slice p1 n1 c1) (.slice p2 n2 c2) (.slice p3 n3 c3) d) => dc_now h hOk.out.lt)
          have hF := Lib.hid (fun (W : World) (h : Rd W b g cap l (.slice p1 n1 c1) (.slice p2 n2 c2) (.slice p3 n3 c3) d) => dc_fail h BK t 4)
          rw [ht] at hNow
          rw [hd9] at hF
          have q0 : ((t.kind : Int) == 0) = BK := by rw [← hBK, Bool.eq_iff_iff, beq_iff_eq, decide_eq_true_eq]; omega
          obtain ⟨K, hK⟩ : ∃ K, (t.kind : Int) = K := ⟨_, rfl⟩
          have hTA : Hid (tokA t = .agg #[.int .u8 K, .string t.s, .int .i64 t.w, .int .u64 (hi t.n), .int .u64 (lo t.n), .int .i64 (t.at_ : Int)]) := by show _ = _; rw [← hK]
          rw [hTA.out] at hNow hF
          rw [hK] at q0
          have f0 := tok_field0
          clear hK hBK hd9 ht hAll hR2 hres1 hOk
          go_wp2_with fail
          refine (hNow.out _ hI1.out.rd).mono ?_
          rintro e w' ⟨rfl, x1, rfl⟩
          go_wp2_with fail
          refine (hNow.out _ (hI1.out.plus x1).rd).mono ?_
          rintro e w' ⟨rfl, x2, rfl⟩
          go_wp2_with fail
          refine (hF.out _ ((hI1.out.plus x1).plus x2).rd).mono ?_
          rintro e X2 ⟨rfl, hgX, hX⟩
          have hI2 := ((hI1.out.plus x1).plus x2).step hgX hX
          clear hgX hX hI1 hNow hF
          have e2 := hI2.rd.c2
          have e3 := hI2.rd.c3
          have e4 := hI2.rd.c4
          have e5 := hI2.rd.c5
          have lift : ∀ m i v, m < b → W5.cell? ⟨m, i, none⟩ = some v → X2.cell? ⟨m, i, none⟩ = some v := fun m i v hm hv => (hI2.below.cell (p := ⟨m, i, none⟩) hm).trans hv
          have liftf : ∀ m o, m < b → W5.frozen? ⟨m, o, none⟩ = false → X2.frozen? ⟨m, o, none⟩ = false := fun m o hm hv => (hI2.below.frozen (p := ⟨m, o, none⟩) hm).trans hv
          have hwb' := hwb.out
          have r0 := lift _ _ _ (by omega) hres.out.1
          have r1 := lift _ _ _ (by omega) hres.out.2.1
          have r2 := lift _ _ _ (by omega) hres.out.2.2.1
          have v0 := lift _ _ _ (by omega) hres.out.2.2.2.1
          have v1 := lift _ _ _ (by omega) hres.out.2.2.2.2.1
          have v2 := lift _ _ _ (by omega) hres.out.2.2.2.2.2.1
          have fr := fun o => liftf w.heap.size o (by omega) (hres.out.2.2.2.2.2.2.1 o)
          have fvv := fun o => liftf (w.heap.size + 1) o (by omega) (hres.out.2.2.2.2.2.2.2 o)
          have hBX : Hid (Below w.heap.size w X2) := Lib.hid (hBw5'.out.trans (hI2.below.mono (by omega)))
          have hnb1 : ¬ w.heap.size = b := by omega
          have hnb2 : ¬ w.heap.size + 1 = b := by omega
          have hnb3 : ¬ b = w.heap.size := by omega
          have hnb4 : ¬ b = w.heap.size + 1 := by omega
          replace hwb' := Lib.hid hwb'
          clear lift liftf
          cases hb9 : d9.bad with
          | false =>
            rw [hb9] at e5
            replace hI2 := Lib.hid hI2
            go_wp2
            have hfin : Hid (ReadEnds w s RES (.returned (.tuple #[.agg #[.slice p1 n1 c1, .slice p2 n2 c2, .slice p3 n3 c3], fv 0 0 0])) ((((((X2.setCell ⟨w.heap.size, 0, none⟩ (.slice p1 n1 c1)).setCell ⟨w.heap.size, 1, none⟩ (.slice p2 n2 c2)).setCell ⟨w.heap.size, 2, none⟩ (.slice p3 n3 c3)).setCell ⟨w.heap.size + 1, 0, none⟩ (.int .i64 0)).setCell ⟨w.heap.size + 1, 1, none⟩ (.int .i64 0)).setCell ⟨w.heap.size + 1, 2, none⟩ (.int .i64 0))) := Lib.hid ⟨((((((hBX.out.setCell (p := ⟨w.heap.size, _, none⟩) (Nat.le_refl _) _).setCell (p := ⟨w.heap.size, _, none⟩) (Nat.le_refl _) _).setCell (p := ⟨w.heap.size, _, none⟩) (Nat.le_refl _) _).setCell (p := ⟨w.heap.size + 1, _, none⟩) (Nat.le_succ _) _).setCell (p := ⟨w.heap.size + 1, _, none⟩) (Nat.le_succ _) _).setCell (p := ⟨w.heap.size + 1, _, none⟩) (Nat.le_succ _) _), fun h => absurd (by rw [hRS.out] at h; exact h) (by rw [hb9]; simp), fun _ => ⟨_, _, _, pvs, rfl, by
              rw [hRS.out]
              have h0 := hI2.out.ni
              have u (m : Nat) (hm : m < b + 1) (i : Nat) (v : Value) (W : World) (h : NI (b + 1) W (.slice p1 n1 c1) (.slice p2 n2 c2) (.slice p3 n3 c3) pvs ⟨n.names, n.ports, lks⟩) : NI (b + 1) (W.setCell ⟨m, i, none⟩ v) (.slice p1 n1 c1) (.slice p2 n2 c2) (.slice p3 n3 c3) pvs ⟨n.names, n.ports, lks⟩ := h.up hm (grown_put _ _ _ _)
              have hw1 := hwb'.out
              exact (u _ (by omega) _ _ _ (u _ (by omega) _ _ _ (u _ (by omega) _ _ _ (u _ (by omega) _ _ _ (u _ (by omega) _ _ _ (u _ (by omega) _ _ _ h0)))))).base (by omega)⟩⟩
            refine bodyPost_ret (v := .tuple #[.agg #[.slice p1 n1 c1, .slice p2 n2 c2, .slice p3 n3 c3], fv 0 0 0]) ?_ rfl hfin.out
            simp [results, Tryz.results7, go_sem, r0, r1, r2, v0, v1, v2]
          | true =>
            rw [hb9] at e5
            have hfo : Fo s.size d9 := by have h := hFo.out; rw [hRS.out] at h; exact h
            obtain ⟨hp9, he9⟩ := hfo hb9
            have hG := ref_fault s d9.p d9.e he9 (by have := hs.out; omega) (by have := hs.out; omega) (by have := hs.out; omega)
            rw [clampN_in d9.p s.size hp9] at hG
            replace hG := Lib.hid hG
            have e6 := plus_cell hI2.rd.lt hI2.rd.c6
            have e7 := plus_cell hI2.rd.lt hI2.rd.c7
            obtain ⟨ll, hll⟩ : ∃ x : Int, (lineOf s d9.p : Nat) = x := ⟨_, rfl⟩
            obtain ⟨cc, hcc⟩ : ∃ x : Int, (colOf s d9.p : Nat) = x := ⟨_, rfl⟩
            rw [hll, hcc] at hG
            have hlc : Hid (((lineOf s d9.p : Nat) : Int) = ll ∧ ((colOf s d9.p : Nat) : Int) = cc) := Lib.hid ⟨hll, hcc⟩
            have hz2 : w.heap.size + 1 < X2.heap.size := by have := hI2.size; have := hwb'.out; omega
            have r0 := plus_cell (by omega) r0
            have r1 := plus_cell (by omega) r1
            have r2 := plus_cell (by omega) r2
            have v0 := plus_cell (by omega) v0
            have v1 := plus_cell (by omega) v1
            have v2 := plus_cell (by omega) v2
            have fr := plus_frozen (W := X2) (by omega) fr
            have fvv := plus_frozen (W := X2) (by omega) fvv
            clear hI2 hp9 he9 hfo hll hcc hz2 e2 e3 e4
            go_upto_region 22 with (fail)
            refine wp_region_own_tail0 11 (by kernel_rfl) (by kernel_rfl) ?_
            simp only [List.take_succ_cons, List.take_zero, List.drop_succ_cons, List.drop_zero]
            repeat (go_big_quiet_step (first | (with_reducible exact hG.out.at _ _)))
            refine wpQuiet_nil ?_
            rintro _ ⟨y, rfl⟩
            go_wp2
            have hfin : Hid (ReadEnds w s RES (.returned (.tuple #[.agg #[.slice none 0 0, .slice none 0 0, .slice none 0 0], fv d9.e ll cc])) ((((((Go.Proofs.YtkffjjlmoojffaaGreatDoor.plus X2 y).setCell ⟨w.heap.size, 0, none⟩ (.slice none 0 0)).setCell ⟨w.heap.size, 1, none⟩ (.slice none 0 0)).setCell ⟨w.heap.size, 2, none⟩ (.slice none 0 0)).setCell ⟨w.heap.size + 1, 0, none⟩ (.int .i64 d9.e)).setCell ⟨w.heap.size + 1, 1, none⟩ (.int .i64 ll) |>.setCell ⟨w.heap.size + 1, 2, none⟩ (.int .i64 cc))) := Lib.hid ⟨(((((((hBX.out.trans ((below_plus X2 y).mono hBX.out.size)).setCell (p := ⟨w.heap.size, _, none⟩) (Nat.le_refl _) _).setCell (p := ⟨w.heap.size, _, none⟩) (Nat.le_refl _) _).setCell (p := ⟨w.heap.size, _, none⟩) (Nat.le_refl _) _).setCell (p := ⟨w.heap.size + 1, _, none⟩) (Nat.le_succ _) _).setCell (p := ⟨w.heap.size + 1, _, none⟩) (Nat.le_succ _) _).setCell (p := ⟨w.heap.size + 1, _, none⟩) (Nat.le_succ _) _), fun _ => by rw [hRS.out]; simp only; rw [hlc.out.1, hlc.out.2], fun h => absurd (by rw [hRS.out] at h; exact h) (by rw [hb9]; simp)⟩
            refine bodyPost_ret (v := .tuple #[.agg #[.slice none 0 0, .slice none 0 0, .slice none 0 0], fv d9.e ll cc]) ?_ rfl hfin.out
            simp [results, Tryz.results7, go_sem, r0, r1, r2, v0, v1, v2]
        | true =>
          rw [hhas, if_pos rfl] at hres1
          rw [hhas] at hH
          obtain ⟨hOk', hless, hadv⟩ := link_left hT.out ⟨n.names, n.ports, lks⟩ hOk hhas
          have hOk1 : Ok l (dTake l d) := hOk.take hT.out
          obtain ⟨d1, hd1⟩ : ∃ x, dTake l d = x := ⟨_, rfl⟩
          have hOk2 : Ok l (dLink1 l ⟨n.names, n.ports, lks⟩ d) := hOk1.end_ hT.out _
          have hl1 : dLink1 l ⟨n.names, n.ports, lks⟩ d = dEnd l ⟨n.names, n.ports, lks⟩ d1 := by unfold dLink1; rw [hd1]
          have hla : dLinkA l ⟨n.names, n.ports, lks⟩ d = dEndE l ⟨n.names, n.ports, lks⟩ d1 := by unfold dLinkA; rw [hd1]
          obtain ⟨d2, hd2⟩ : ∃ x, dLink1 l ⟨n.names, n.ports, lks⟩ d = x := ⟨_, rfl⟩
          have hlB : dLinkB l ⟨n.names, n.ports, lks⟩ d = dEndE l ⟨n.names, n.ports, lks⟩ d2 := by unfold dLinkB; rw [hd2]
          obtain ⟨ea, hea⟩ : ∃ e, dEndE l ⟨n.names, n.ports, lks⟩ d1 = e := ⟨_, rfl⟩
          obtain ⟨eb, heb⟩ : ∃ e, dEndE l ⟨n.names, n.ports, lks⟩ d2 = e := ⟨_, rfl⟩
          obtain ⟨ta, hta⟩ : ∃ t, dNow l (dEnd1 l ⟨n.names, n.ports, lks⟩ d1) = t := ⟨_, rfl⟩
          obtain ⟨tb, htb⟩ : ∃ t, dNow l (dEnd1 l ⟨n.names, n.ports, lks⟩ d2) = t := ⟨_, rfl⟩
          obtain ⟨d3, hd3⟩ : ∃ x, dEnd l ⟨n.names, n.ports, lks⟩ d2 = x := ⟨_, rfl⟩
          obtain ⟨BE, hBE⟩ : ∃ B, decide (ea = eb) = B := ⟨_, rfl⟩
          obtain ⟨d4, hd4⟩ : ∃ x, dFail (!BE) tb 8 d3 = x := ⟨_, rfl⟩
          obtain ⟨d5, hd5⟩ : ∃ x, dWant l d4 wSemi = x := ⟨_, rfl⟩
          have hN' : dLinkN l ⟨n.names, n.ports, lks⟩ d = ⟨n.names, n.ports, lks ++ [(ea, eb)]⟩ := by unfold dLinkN; rw [hla, hlB, hea, heb]
          have hD' : dLinkD l ⟨n.names, n.ports, lks⟩ d = d5 := by unfold dLinkD; rw [hla, hlB, hea, heb, hd2, htb, hd3, hBE, hd4, hd5]
          have hOk3 : Ok l d3 := by rw [← hd3, ← hd2]; exact hOk2.end_ hT.out _
          have hOk4 : Ok l d4 := by rw [← hd4]; exact hOk3.fail _ _ _
          rw [hN', hD'] at hres1
          rw [hD'] at hOk' hless hadv
          rw [hd1] at hOk1
          rw [hd2] at hOk2
          have hlenk : lks.length ≤ d.k := hlen
          have hnext : Hid (∀ li W, RI b g cap l W5 (.slice p1 n1 c1) (.slice p2 n2 c2) li pvs ⟨n.names, n.ports, lks ++ [(ea, eb)]⟩ d5 W → Hid (∃ f li lks d, RI b g cap l W5 (.slice p1 n1 c1) (.slice p2 n2 c2) li pvs ⟨n.names, n.ports, lks⟩ d W ∧ Ok l d ∧ dLeft l d < f ∧ lks.length ≤ d.k ∧ dLinks l f ⟨n.names, n.ports, lks⟩ d = R2)) := by
            show ∀ li W, _
            intro li W hI
            exact Lib.hid ⟨f, li, _, d5, hI, hOk', by omega, by rw [List.length_append, List.length_singleton]; omega, hres1⟩
          replace hless := Lib.hid hless
          have hTk := Lib.hid (fun (W : World) (h : Rd W b g cap l (.slice p1 n1 c1) (.slice p2 n2 c2) (.slice p3 n3 c3) d) => dc_take h hOk.lt)
          rw [hd1] at hTk
          obtain ⟨t0, ht0⟩ : ∃ t, dNow l d = t := ⟨_, rfl⟩
          rw [ht0] at hTk
          have hE1 := Lib.hid (fun (W : World) (h : Rd W b g cap l (.slice p1 n1 c1) (.slice p2 n2 c2) (.slice p3 n3 c3) d1) hN => dc_end hT.out h hOk1.lt pvs ⟨n.names, n.ports, lks⟩ hN hnb.out.1 hnb.out.2 hlb.out)
          rw [hta, hea, ← hl1, hd2] at hE1
          have hE2 := Lib.hid (fun (W : World) (h : Rd W b g cap l (.slice p1 n1 c1) (.slice p2 n2 c2) (.slice p3 n3 c3) d2) hN => dc_end hT.out h hOk2.lt pvs ⟨n.names, n.ports, lks⟩ hN hnb.out.1 hnb.out.2 hlb.out)
          rw [htb, heb, hd3] at hE2
          have hF := Lib.hid (fun (W : World) (h : Rd W b g cap l (.slice p1 n1 c1) (.slice p2 n2 c2) (.slice p3 n3 c3) d3) => dc_fail h (!BE) tb 8)
          rw [hd4] at hF
          have hWt := Lib.hid (fun (W : World) (h : Rd W b g cap l (.slice p1 n1 c1) (.slice p2 n2 c2) (.slice p3 n3 c3) d4) => dc_want hT.out h hOk4.lt wSemi)
          rw [hd5] at hWt
          have qE := fun w => neq_end ea eb w
          rw [hBE] at qE
          obtain ⟨a0, a1⟩ := ea
          obtain ⟨b0, b1⟩ := eb
          simp only at qE
          obtain ⟨K0, hK0⟩ : ∃ K, (t0.kind : Int) = K := ⟨_, rfl⟩
          obtain ⟨KA, hKA⟩ : ∃ K, (ta.kind : Int) = K := ⟨_, rfl⟩
          obtain ⟨KB, hKB⟩ : ∃ K, (tb.kind : Int) = K := ⟨_, rfl⟩
          have hTA : Hid (tokA ta = .agg #[.int .u8 KA, .string ta.s, .int .i64 ta.w, .int .u64 (hi ta.n), .int .u64 (lo ta.n), .int .i64 (ta.at_ : Int)]) := by show _ = _; rw [← hKA]
          have hTB : Hid (tokA tb = .agg #[.int .u8 KB, .string tb.s, .int .i64 tb.w, .int .u64 (hi tb.n), .int .u64 (lo tb.n), .int .i64 (tb.at_ : Int)]) := by show _ = _; rw [← hKB]
          rw [hTA.out] at hE1
          rw [hTB.out] at hE2 hF
          unfold endV at hE1 hE2
          simp only at hE1 hE2
          replace hI := Lib.hid hI
          replace hH := Lib.hid hH
          clear hf hlen hhas hOk' hadv hOk1 hd1 hOk2 hl1 hla hd2 hlB hea heb hta htb hd3 hBE hd4 hd5 hN' hD' hOk3 hOk4 hres1 hlenk ht0 hK0 hKA hKB hOk
          go_wp2_with fail
          refine hH.out.mono ?_
          rintro e X1 ⟨rfl, hgX, hX⟩
          have hI1 := Lib.hid (hI.out.step hgX hX)
          clear hgX hX hI hH
          go_wp2_with fail
          refine (hTk.out _ hI1.out.rd).mono ?_
          rintro e X2 ⟨rfl, hgX, hX⟩
          have hI2 := Lib.hid (hI1.out.step hgX hX)
          clear hgX hX hI1 hTk
          go_wp2_with fail
          refine (hE1.out _ hI2.out.rd (hI2.out.ni.ok (Nat.lt_succ_self b))).mono ?_
          rintro e X3 ⟨rfl, hgX, hX⟩
          have hI3 := hI2.out.step hgX hX
          clear hgX hX hI2 hE1
          go_upto_region 16 with (fail)
          have hKm := (Kn.nil b X3).new hI3.rd.lt [.int .u8 KA, .string ta.s, .int .i64 ta.w, .int .u64 (hi ta.n), .int .u64 (lo ta.n), .int .i64 (ta.at_ : Int)] 60
          have hIm := hI3.alloc (.cells #[.int .u8 KA, .string ta.s, .int .i64 ta.w, .int .u64 (hi ta.n), .int .u64 (lo ta.n), .int .i64 (ta.at_ : Int)] 60)
          obtain ⟨X4, hX4⟩ : ∃ X, X3.alloc (.cells #[.int .u8 KA, .string ta.s, .int .i64 ta.w, .int .u64 (hi ta.n), .int .u64 (lo ta.n), .int .i64 (ta.at_ : Int)] 60) = X := ⟨_, rfl⟩
          change Kn b _ (X3.alloc (.cells #[.int .u8 KA, .string ta.s, .int .i64 ta.w, .int .u64 (hi ta.n), .int .u64 (lo ta.n), .int .i64 (ta.at_ : Int)] 60)) at hKm
          have hzm : X4.heap.size = X3.heap.size + 1 := by rw [← hX4]; simp
          rw [hX4] at hKm hIm ⊢
          clear hX4
          have hKn := hKm.new hIm.rd.lt [.int .i64 a0, .int .i64 a1] 41
          have hIn := hIm.alloc (.cells #[.int .i64 a0, .int .i64 a1] 41)
          obtain ⟨X5, hX4⟩ : ∃ X, X4.alloc (.cells #[.int .i64 a0, .int .i64 a1] 41) = X := ⟨_, rfl⟩
          change Kn b _ (X4.alloc (.cells #[.int .i64 a0, .int .i64 a1] 41)) at hKn
          rw [hX4] at hKn hIn ⊢
          rw [hzm] at hKn
          clear hX4 hKm hIm hzm
          generalize X3.heap.size = z9 at hKn ⊢
          have hK5 := Lib.hid hKn
          have hI5 := Lib.hid hIn
          clear hKn hIn
          go_wp2_with fail
          refine (hE2.out _ hI5.out.rd (hI5.out.ni.ok (Nat.lt_succ_self b))).mono ?_
          rintro e X6 ⟨rfl, hgX, hX⟩
          have hI6 := hI5.out.step hgX hX
          have hK6 := hK5.out.grown hgX
          clear hgX hX hI5 hE2 hK5
          go_upto_region 17 with (fail)
          have hKm := hK6.new hI6.rd.lt [.int .u8 KB, .string tb.s, .int .i64 tb.w, .int .u64 (hi tb.n), .int .u64 (lo tb.n), .int .i64 (tb.at_ : Int)] 60
          have hIm := hI6.alloc (.cells #[.int .u8 KB, .string tb.s, .int .i64 tb.w, .int .u64 (hi tb.n), .int .u64 (lo tb.n), .int .i64 (tb.at_ : Int)] 60)
          obtain ⟨X7, hX4⟩ : ∃ X, X6.alloc (.cells #[.int .u8 KB, .string tb.s, .int .i64 tb.w, .int .u64 (hi tb.n), .int .u64 (lo tb.n), .int .i64 (tb.at_ : Int)] 60) = X := ⟨_, rfl⟩
          change Kn b _ (X6.alloc (.cells #[.int .u8 KB, .string tb.s, .int .i64 tb.w, .int .u64 (hi tb.n), .int .u64 (lo tb.n), .int .i64 (tb.at_ : Int)] 60)) at hKm
          have hzm : X7.heap.size = X6.heap.size + 1 := by rw [← hX4]; simp
          rw [hX4] at hKm hIm ⊢
          clear hX4
          have hKn := hKm.new hIm.rd.lt [.int .i64 b0, .int .i64 b1] 41
          have hIn := hIm.alloc (.cells #[.int .i64 b0, .int .i64 b1] 41)
          obtain ⟨X8, hX4⟩ : ∃ X, X7.alloc (.cells #[.int .i64 b0, .int .i64 b1] 41) = X := ⟨_, rfl⟩
          change Kn b _ (X7.alloc (.cells #[.int .i64 b0, .int .i64 b1] 41)) at hKn
          rw [hX4] at hKn hIn ⊢
          rw [hzm] at hKn
          clear hX4 hKm hIm hzm
          generalize X6.heap.size = z11 at hKn ⊢
          have hK8 := Lib.hid hKn
          have hI8 := Lib.hid hIn
          clear hKn hIn
          have g0 := fun y => (hK8.out.plus y).cell (z9 + 1) _ (.tail _ (.tail _ (.head _))) 0 _ rfl
          have g1 := fun y => (hK8.out.plus y).cell (z9 + 1) _ (.tail _ (.tail _ (.head _))) 1 _ rfl
          have k0 := fun y => (hK8.out.plus y).cell (z11 + 1) _ (.head _) 0 _ rfl
          have k1 := fun y => (hK8.out.plus y).cell (z11 + 1) _ (.head _) 1 _ rfl
          have s0 := fun y => (hK8.out.plus y).cell z11 _ (.tail _ (.head _)) 0 _ rfl
          have s1 := fun y => (hK8.out.plus y).cell z11 _ (.tail _ (.head _)) 1 _ rfl
          have s2 := fun y => (hK8.out.plus y).cell z11 _ (.tail _ (.head _)) 2 _ rfl
          have s3 := fun y => (hK8.out.plus y).cell z11 _ (.tail _ (.head _)) 3 _ rfl
          have s4 := fun y => (hK8.out.plus y).cell z11 _ (.tail _ (.head _)) 4 _ rfl
          have s5 := fun y => (hK8.out.plus y).cell z11 _ (.tail _ (.head _)) 5 _ rfl
          refine wp_region_own_tail0 5 (by kernel_rfl) (by kernel_rfl) ?_
          simp only [List.take_succ_cons, List.take_zero, List.drop_succ_cons, List.drop_zero]
          repeat (go_big_quiet_step (fail))
          refine wpQuiet_nil ?_
          rintro _ ⟨y, rfl⟩
          go_wp2_with fail
          refine (hF.out _ (hI8.out.plus y).rd).mono ?_
          rintro e X9 ⟨rfl, hgX, hX⟩
          have hI9 := Lib.hid ((hI8.out.plus y).step hgX hX)
          have hK9 := Lib.hid ((hK8.out.plus y).grown hgX)
          clear hgX hX hI8 hF hK8 g0 g1 k0 k1 s0 s1 s2 s3 s4 s5 qE
          go_wp2_with fail
          refine (hWt.out _ hI9.out.rd).mono ?_
          rintro e X7 ⟨rfl, hgX, hX⟩
          have hI7 := hI9.out.step hgX hX
          have hK7 := hK9.out.grown hgX
          clear hgX hX hI9 hWt hK9
          go_upto_region 19 with (fail)
          have e2 := fun o => (hI7.alloc o).rd.c4
          have e2' := hI7.rd.c4
          have g0 := fun o => (hK7.grown (grown_alloc X7 o (some b))).cell (z9 + 1) _ (.tail _ (.tail _ (.head _))) 0 _ rfl
          have g1 := fun o => (hK7.grown (grown_alloc X7 o (some b))).cell (z9 + 1) _ (.tail _ (.tail _ (.head _))) 1 _ rfl
          have k0 := fun o => (hK7.grown (grown_alloc X7 o (some b))).cell (z11 + 1) _ (.head _) 0 _ rfl
          have k1 := fun o => (hK7.grown (grown_alloc X7 o (some b))).cell (z11 + 1) _ (.head _) 1 _ rfl
          have g0' := hK7.cell (z9 + 1) _ (.tail _ (.tail _ (.head _))) 0 _ rfl
          have g1' := hK7.cell (z9 + 1) _ (.tail _ (.tail _ (.head _))) 1 _ rfl
          have k0' := hK7.cell (z11 + 1) _ (.head _) 0 _ rfl
          have k1' := hK7.cell (z11 + 1) _ (.head _) 1 _ rfl
          have hown : Hid (∀ o, (X7.alloc o).drew.ownsRow (b + 1) 68 4 (.slice p3 n3 c3) n3 ((lks.map linkC).flatten)) := Lib.hid (fun o => by have := (hI7.alloc o).drew.ni.li; unfold Own at this; rwa [hn3.out] at this)
          have hRA : Hid (∀ o, RI b g cap l W5 (.slice p1 n1 c1) (.slice p2 n2 c2) (.slice p3 n3 c3) pvs ⟨n.names, n.ports, lks⟩ d5 (X7.alloc o).drew) := Lib.hid (fun o => (hI7.alloc o).drew)
          have hv3 : Hid (∀ k, (Value.slice p3 n3 c3).ownBlock = some k → b + 1 ≤ k) := Lib.hid (fun k e => (hI7.ni.li.lt k e).1)
          have hsz7 : Hid (b + 1 ≤ X7.heap.size) := Lib.hid hI7.size
          clear hI7 hK7
          go_region_law (go_loud (refine rowStep linkC 68 25 4 32 (.agg #[.int .i64 0, .int .i64 0, .int .i64 0, .int .i64 0]) Tryz.underlying25 link_info rfl (by decide) (by decide) linkC_len linkC_one p3 n3 c3 hn3.out (hown.out (.cells #[.int .i64 a0, .int .i64 a1, .int .i64 b0, .int .i64 b1] 68)) (by have := hsz7.out; simp; omega) hlb.out (⟨a0, a1⟩, ⟨b0, b1⟩) X7.heap.size (fun j u hu => (cell_new X7 _ _ _ j rfl).trans (by simpa [linkC] using hu)) rfl (.tmp 108) (.tmp 112) rfl (by simp [Act.eval]) (by simp [Act.eval]) ?_; intro p4 c4 w9 h2 h3; have hR9 := (hRA.out (.cells #[.int .i64 a0, .int .i64 a1, .int .i64 b0, .int .i64 b1] 68)).rd.app (hRA.out (.cells #[.int .i64 a0, .int .i64 a1, .int .i64 b0, .int .i64 b1] 68)).gb h3 hv3.out; have f2 := hR9.c4; have f3 := hR9.fz; have h2' := Lib.hid h2; have h3' := Lib.hid h3; clear h2 h3 hR9))
          all_goals
            have hni10 := (hRA.out (.cells #[.int .i64 a0, .int .i64 a1, .int .i64 b0, .int .i64 b1] 68)).ni.link h3'.out h2'.out
            have hI10 := (hRA.out (.cells #[.int .i64 a0, .int .i64 a1, .int .i64 b0, .int .i64 b1] 68)).row (sw' := .slice p1 n1 c1) (po' := .slice p2 n2 c2) (li' := .slice p4 (n3 + 1) c4) h3'.out hv3.out hni10 4 (.slice p4 (n3 + 1) c4) rfl
            replace hI10 := Lib.hid hI10
            have hm11 := Lib.hid (dMeas_of hI10.out.rd)
            clear hni10 f2 f3 h2' h3' hRA hown e2 e2' g0 g1 k0 k1 g0' g1' k0' k1' hsz7 hv3
            go_wp2
            go_roundw
            case rel => exact hnext.out _ _ hI10.out
            case measure => rw [hm11.out, hmeas.out]; exact hless.out
    | true =>
      rw [hhas, if_pos rfl] at hres1
      rw [hhas] at hH
      have hnext0 := node_left hT.out n hOk hhas
      have hOk1 := hOk.fail (decide (n.names.length < 8)) (dNow l d) 5
      have hOk2 : Ok l (dNode1 l n d) := hOk1.take hT.out
      have hOk4 : Ok l (dNode2 l n d) := (hOk2.name hT.out).fail _ _ _
      obtain ⟨d1, hd1⟩ : ∃ x, dFail (decide (n.names.length < 8)) (dNow l d) 5 d = x := ⟨_, rfl⟩
      have hd2 : dNode1 l n d = dTake l d1 := by unfold dNode1; rw [hd1]
      obtain ⟨d2, hdd2⟩ : ∃ x, dTake l d1 = x := ⟨_, rfl⟩
      rw [hdd2] at hd2
      obtain ⟨t, ht⟩ : ∃ t, dNow l d2 = t := ⟨_, rfl⟩
      have hd4 : dNode2 l n d = dFail (decide (findF n.names t.s < 0)) t 8 (dName l d2) := by unfold dNode2; rw [hd2, ht]
      obtain ⟨d4, hdd4⟩ : ∃ x, dNode2 l n d = x := ⟨_, rfl⟩
      rw [hdd4] at hd4
      have hN' : dNodeN l n d = ⟨n.names ++ [t.s], n.ports ++ [(dPorts l d4).1], n.links⟩ := by unfold dNodeN; rw [hd2, ht, hdd4]
      have hD' : dNodeD l n d = (dPorts l d4).2 := by unfold dNodeD; rw [hdd4]
      obtain ⟨⟨ps, d5⟩, hP5⟩ : ∃ x, dPorts l d4 = x := ⟨_, rfl⟩
      rw [hP5] at hN' hD'
      simp only at hN' hD'
      rw [hN', hD'] at hres1
      rw [hD'] at hnext0
      rw [hd1] at hOk1
      rw [hd2] at hOk2
      rw [hdd4] at hOk4
      obtain ⟨hOk5, hless, hge, hadv⟩ := hnext0
      have hbadd := (has_go hhas).1
      have hlenk : n.names.length ≤ d.k := by rw [hbadd] at hlen; simpa using hlen
      have hpsl : ps.length ≤ 1048576 := by
        have : ps = sortK (dPortsN l (l.length + 2) [] (dWant l d4 wOpen)).1 511 := by have := congrArg Prod.fst hP5; exact this.symm
        rw [this]
        exact Nat.le_trans (sortK_len _ _) (by decide)
      have hnext : Hid (∀ sw po li pvs W, RI b g cap l W5 sw po li pvs ⟨n.names ++ [t.s], n.ports ++ [ps], n.links⟩ d5 W → Hid (∃ f sw po li pvs n d, RI b g cap l W5 sw po li pvs n d W ∧ Ok l d ∧ dLeft l d < f ∧ n.names.length ≤ d.k + (if d.bad = true then 1 else 0) ∧ n.links = [] ∧ n.ports.length = n.names.length ∧ dNodes l f n d = R1)) := by
        show ∀ sw po li pvs W, _
        intro sw po li pvs W hI
        refine Lib.hid ⟨f, sw, po, li, pvs, _, d5, hI, hOk5, by omega, ?_, hlk, by simp [hpn], hres1⟩
        show (n.names ++ [t.s]).length ≤ _
        rw [List.length_append, List.length_singleton]
        cases hb5 : d5.bad with
        | true => rw [if_pos rfl]; omega
        | false => rw [if_neg (by decide)]; have := hadv hb5; omega
      replace hless := Lib.hid hless
      obtain ⟨p1, c1, rfl⟩ := own_sl3 hI.ni.sw
      obtain ⟨p2, c2, rfl⟩ := own_sl3 hI.ni.po
      obtain ⟨p3, c3, rfl⟩ := own_sl3 hI.ni.li
      obtain ⟨n1, hn1⟩ : ∃ n1, n.names.length = n1 := ⟨_, rfl⟩
      obtain ⟨n2, hn2⟩ : ∃ n2, pvs.length = n2 := ⟨_, rfl⟩
      obtain ⟨n3, hn3⟩ : ∃ n3, n.links.length = n3 := ⟨_, rfl⟩
      rw [hn1, hn2, hn3] at hI hH
      replace hH := Lib.hid hH
      obtain ⟨B8, hB8⟩ : ∃ B, decide (n.names.length < 8) = B := ⟨_, rfl⟩
      rw [hB8] at hd1
      have q8 : decide (n1 < 8) = B8 := by rw [← hn1]; exact hB8
      have q8' : decide ((n1 : Int) < 8) = B8 := by rw [← q8]; congr 1; rw [eq_iff_iff]; omega
      have hNow := Lib.hid (fun (W : World) (h : Rd W b g cap l (.slice p1 n1 c1) (.slice p2 n2 c2) (.slice p3 n3 c3) d) => dc_now h hOk.lt)
      obtain ⟨t0, ht0⟩ : ∃ t, dNow l d = t := ⟨_, rfl⟩
      rw [ht0] at hd1 hNow
      have hF6 := Lib.hid (fun (W : World) (h : Rd W b g cap l (.slice p1 n1 c1) (.slice p2 n2 c2) (.slice p3 n3 c3) d) => dc_fail h B8 t0 5)
      rw [hd1] at hF6
      have hTk := Lib.hid (fun (W : World) (h : Rd W b g cap l (.slice p1 n1 c1) (.slice p2 n2 c2) (.slice p3 n3 c3) d1) => dc_take h hOk1.lt)
      rw [hdd2] at hTk
      have hNm := Lib.hid (fun (W : World) (h : Rd W b g cap l (.slice p1 n1 c1) (.slice p2 n2 c2) (.slice p3 n3 c3) d2) => dc_name hT.out h hOk2.lt)
      rw [ht] at hNm
      obtain ⟨d3, hd3⟩ : ∃ x, dName l d2 = x := ⟨_, rfl⟩
      rw [hd3] at hNm hd4
      obtain ⟨i9, hi9⟩ : ∃ i, findF n.names t.s = i := ⟨_, rfl⟩
      obtain ⟨B9, hB9⟩ : ∃ B, decide (i9 < 0) = B := ⟨_, rfl⟩
      rw [hi9, hB9] at hd4
      have hFi := Lib.hid (fun (W : World) (hl : Lies W 1 strC (.slice p1 n1 c1) n.names) => dc_find (w := W) (.slice p1 n1 c1) n.names t.s p2 p3 n2 c2 n3 c3 hl (by have := hnl.out; omega))
      rw [hi9] at hFi
      have hF9 := Lib.hid (fun (W : World) (h : Rd W b g cap l (.slice p1 n1 c1) (.slice p2 n2 c2) (.slice p3 n3 c3) d3) => dc_fail h B9 t 8)
      rw [← hd4] at hF9
      have hPo := Lib.hid (fun (W : World) (h : Rd W b g cap l (.slice p1 n1 c1) (.slice p2 n2 c2) (.slice p3 n3 c3) d4) => dc_ports hT.out h hOk4.lt hOk4.le hL.out)
      rw [hP5] at hPo
      obtain ⟨K0, hK0⟩ : ∃ K, (t0.kind : Int) = K := ⟨_, rfl⟩
      obtain ⟨K, hK⟩ : ∃ K, (t.kind : Int) = K := ⟨_, rfl⟩
      have hTA0 : Hid (tokA t0 = .agg #[.int .u8 K0, .string t0.s, .int .i64 t0.w, .int .u64 (hi t0.n), .int .u64 (lo t0.n), .int .i64 (t0.at_ : Int)]) := by show _ = _; rw [← hK0]
      have hTA : Hid (tokA t = .agg #[.int .u8 K, .string t.s, .int .i64 t.w, .int .u64 (hi t.n), .int .u64 (lo t.n), .int .i64 (t.at_ : Int)]) := by show _ = _; rw [← hK]
      rw [hTA0.out] at hNow hF6
      rw [hTA.out] at hNm hF9
      replace hI := Lib.hid hI
      have hnb : Hid (n.names.length ≤ 1048576) := Lib.hid (by have := hnl.out; omega)
      have hpb : Hid (pvs.length ≤ 1048576) := Lib.hid (by have := hnl.out; have := hI.out.ni.len; omega)
      replace hpsl := Lib.hid hpsl
      replace hn1 := Lib.hid hn1
      replace hn2 := Lib.hid hn2
      clear hres1 hOk1 hOk2 hOk4 hd2 hdd2 ht hdd4 hN' hD' hP5 hOk5 hge hadv hbadd hlenk hB8 ht0 hd1 hd3 hi9 hd4 hK0 hK hlen hlk hpn hf hOk hhas hn3
      go_wp2_with fail
      refine hH.out.mono ?_
      rintro e X1 ⟨rfl, hgX, hX⟩
      have hI1 := hI.out.step hgX hX
      clear hgX hX hI hH
      go_upto_region 6 with (fail)
      have e2 := plus_cell hI1.rd.lt hI1.rd.c2
      have hNow2 := Lib.hid (fun y => (hNow.out (Go.Proofs.YtkffjjlmoojffaaGreatDoor.plus X1 y) (hI1.rd.plus y)).mono (fun _ _ ⟨he, z, hz⟩ => (⟨he, _, hz.trans (plus_plus _ _ _)⟩ : (_ = Ending.returned (.agg #[.int .u8 K0, .string t0.s, .int .i64 t0.w, .int .u64 (hi t0.n), .int .u64 (lo t0.n), .int .i64 (t0.at_ : Int)])) ∧ ∃ z, _ = Go.Proofs.YtkffjjlmoojffaaGreatDoor.plus X1 z)))
      replace hI1 := Lib.hid hI1
      clear hNow
      refine wp_region_own_tail0 10 (by kernel_rfl) (by kernel_rfl) ?_
      simp only [List.take_succ_cons, List.take_zero, List.drop_succ_cons, List.drop_zero]
      repeat (go_big_quiet_step (first | (with_reducible exact hNow2.out _)))
      refine wpQuiet_nil ?_
      rintro _ ⟨y, rfl⟩
      go_wp2_with fail
      refine (hF6.out _ (hI1.out.plus y).rd).mono ?_
      rintro e X2 ⟨rfl, hgX, hX⟩
      have hI2 := Lib.hid ((hI1.out.plus y).step hgX hX)
      clear hgX hX hI1 hF6 hNow2 e2 q8 q8'
      go_wp2_with fail
      refine (hTk.out _ hI2.out.rd).mono ?_
      rintro e X3 ⟨rfl, hgX, hX⟩
      have hI3 := Lib.hid (hI2.out.step hgX hX)
      clear hgX hX hI2 hTk
      go_wp2_with fail
      refine (hNm.out _ hI3.out.rd).mono ?_
      rintro e X4 ⟨rfl, hgX, hX⟩
      have hI4 := hI3.out.step hgX hX
      clear hgX hX hI3 hNm
      go_upto_region 9 with (fail)
      have hK7 := (Kn.nil b X4).new hI4.rd.lt [.int .u8 K, .string t.s, .int .i64 t.w, .int .u64 (hi t.n), .int .u64 (lo t.n), .int .i64 (t.at_ : Int)] 60
      have hI5 := hI4.alloc (.cells #[.int .u8 K, .string t.s, .int .i64 t.w, .int .u64 (hi t.n), .int .u64 (lo t.n), .int .i64 (t.at_ : Int)] 60)
      obtain ⟨X5, hX5⟩ : ∃ X, X4.alloc (.cells #[.int .u8 K, .string t.s, .int .i64 t.w, .int .u64 (hi t.n), .int .u64 (lo t.n), .int .i64 (t.at_ : Int)] 60) = X := ⟨_, rfl⟩
      change Kn b _ (X4.alloc (.cells #[.int .u8 K, .string t.s, .int .i64 t.w, .int .u64 (hi t.n), .int .u64 (lo t.n), .int .i64 (t.at_ : Int)] 60)) at hK7
      rw [hX5] at hK7 hI5 ⊢
      clear hX5 hI4
      generalize X4.heap.size = z7 at hK7 ⊢
      have e2 := plus_cell hI5.rd.lt hI5.rd.c2
      have e3 := plus_cell hI5.rd.lt hI5.rd.c3
      have e4 := plus_cell hI5.rd.lt hI5.rd.c4
      have s0 := fun y => (hK7.plus y).cell z7 _ (.head _) 0 _ rfl
      have s1 := fun y => (hK7.plus y).cell z7 _ (.head _) 1 _ rfl
      have s2 := fun y => (hK7.plus y).cell z7 _ (.head _) 2 _ rfl
      have s3 := fun y => (hK7.plus y).cell z7 _ (.head _) 3 _ rfl
      have s4 := fun y => (hK7.plus y).cell z7 _ (.head _) 4 _ rfl
      have s5 := fun y => (hK7.plus y).cell z7 _ (.head _) 5 _ rfl
      have hlies : Lies X5 1 strC (.slice p1 n1 c1) n.names := by have := own_lies hI5.ni.sw strC_len; exact this
      have hFi2 := Lib.hid (fun y => (hFi.out (Go.Proofs.YtkffjjlmoojffaaGreatDoor.plus X5 y) (hlies.plus y)).mono (fun _ _ ⟨he, z, hz⟩ => (⟨he, _, hz.trans (plus_plus _ _ _)⟩ : (_ = Ending.returned (.int .i64 i9)) ∧ ∃ z, _ = Go.Proofs.YtkffjjlmoojffaaGreatDoor.plus X5 z)))
      replace hI5 := Lib.hid hI5
      replace hK7 := Lib.hid hK7
      have q9 : decide (i9 < 0) = B9 := hB9
      clear hFi hlies hB9
      refine wp_region_own_tail0 10 (by kernel_rfl) (by kernel_rfl) ?_
      simp only [List.take_succ_cons, List.take_zero, List.drop_succ_cons, List.drop_zero]
      repeat (go_big_quiet_step (first | (with_reducible exact hFi2.out _)))
      refine wpQuiet_nil ?_
      rintro _ ⟨y5, rfl⟩
      go_wp2_with fail
      refine (hF9.out _ (hI5.out.plus y5).rd).mono ?_
      rintro e X6 ⟨rfl, hgX, hX⟩
      have hI6 := Lib.hid ((hI5.out.plus y5).step hgX hX)
      have hK8 := Lib.hid ((hK7.out.plus y5).grown hgX)
      clear hgX hX hI5 hF9 hFi2 hK7 e2 e3 e4 s0 s1 s2 s3 s4 s5 q9
      go_wp2_with fail
      refine (hPo.out _ hI6.out.rd).mono ?_
      rintro e X7 ⟨v8, rfl, hgX, hX, hO8⟩
      have hI7 := hI6.out.step hgX hX
      have hK9 := hK8.out.grown hgX
      have hO8 := own_base hO8 hI6.out.size
      obtain ⟨p8, c8, rfl⟩ := own_sl3 hO8
      obtain ⟨n8, hn8⟩ : ∃ n8, ps.length = n8 := ⟨_, rfl⟩
      rw [hn8] at hO8 ⊢
      clear hgX hX hI6 hPo hK8
      go_upto_region 11 with (fail)
      have e2 := fun o => (hI7.alloc o).rd.c2
      have e2' := hI7.rd.c2
      have s1 := hK9.cell z7 _ (.head _) 1 _ rfl
      have hown : Hid (∀ o, (X7.alloc o).drew.ownsRow (b + 1) 9 1 (.slice p1 n1 c1) n1 ((n.names.map strC).flatten)) := Lib.hid (fun o => by have := (hI7.alloc o).drew.ni.sw; unfold Own at this; rwa [hn1.out] at this)
      have hRA : Hid (∀ o, RI b g cap l W5 (.slice p1 n1 c1) (.slice p2 n2 c2) (.slice p3 n3 c3) pvs n d5 (X7.alloc o).drew) := Lib.hid (fun o => (hI7.alloc o).drew)
      have hv1 : Hid (∀ k, (Value.slice p1 n1 c1).ownBlock = some k → b + 1 ≤ k) := Lib.hid (fun k e => (hI7.ni.sw.lt k e).1)
      have hv2 : Hid (∀ k, (Value.slice p2 n2 c2).ownBlock = some k → b + 1 ≤ k) := Lib.hid (fun k e => (hI7.ni.po.lt k e).1)
      replace hn8 := Lib.hid hn8
      have hO9 : Hid (∀ o, Own (X7.alloc o).drew (b + 1) 3 1 intC (.slice p8 n8 c8) ps) := Lib.hid (fun o => by
        have h1 : X7.grownBy (X7.alloc o).drew (some b) := grown_trans (grown_alloc _ _ _) (grown_drew _ _)
        have h2 := hO8.kept h1 (own_block hO8 b (Nat.lt_succ_self b))
        unfold Own; rwa [hn8.out])
      have hsz7 : Hid (b + 1 ≤ X7.heap.size) := Lib.hid hI7.size
      clear hI7 hK9 hO8
      go_region_law (go_loud (refine rowStep strC 9 23 1 16 (.string ⟨#[]⟩) Tryz.underlying23 str_info rfl (by decide) (by decide) strC_len strC_one p1 n1 c1 hn1.out (hown.out (.cells #[.string t.s] 9)) (by have := hsz7.out; simp; omega) hnb.out t.s X7.heap.size (fun j u hu => (cell_new X7 _ _ _ j rfl).trans (by simpa [strC] using hu)) rfl (.tmp 61) (.tmp 64) rfl (by simp [Act.eval]) (by simp [Act.eval]) ?_; intro p4 c4 w9 h2 h3; have hR9 := (hRA.out (.cells #[.string t.s] 9)).rd.app (hRA.out (.cells #[.string t.s] 9)).gb h3 hv1.out; have g2 := hR9.c2; have g3 := hR9.fz; have h2' := Lib.hid h2; have h3' := Lib.hid h3; clear h2 h3 hR9))
      all_goals
        have hni10 := (hRA.out (.cells #[.string t.s] 9)).ni.name h3'.out h2'.out
        have hI10 := (hRA.out (.cells #[.string t.s] 9)).row (sw' := .slice p4 (n1 + 1) c4) (po' := .slice p2 n2 c2) (li' := .slice p3 n3 c3) h3'.out hv1.out hni10 2 (.slice p4 (n1 + 1) c4) rfl
        have hO10 := (own_other (hO9.out (.cells #[.string t.s] 9)) h3'.out (own_type (hO9.out (.cells #[.string t.s] 9)) (hRA.out (.cells #[.string t.s] 9)).ni.sw (by decide))).kept (grown_put w9 b 2 (.slice p4 (n1 + 1) c4)) (own_block (own_other (hO9.out (.cells #[.string t.s] 9)) h3'.out (own_type (hO9.out (.cells #[.string t.s] 9)) (hRA.out (.cells #[.string t.s] 9)).ni.sw (by decide))) b (Nat.lt_succ_self b))
        obtain ⟨Y, hY⟩ : ∃ Y, w9.setCell ⟨b, 2, none⟩ (.slice p4 (n1 + 1) c4) = Y := ⟨_, rfl⟩
        rw [hY] at hI10 hO10 ⊢
        clear hY hni10 g2 g3 h2' h3' hRA hO9 hown e2 e2' s1 hsz7 hv1
        have e3 := hI10.rd.c3
        have hown2 : Hid (Y.ownsRow (b + 1) 39 1 (.slice p2 n2 c2) n2 ((pvs.map slC).flatten)) := Lib.hid (by have := hI10.ni.po; unfold Own at this; rwa [hn2.out] at this)
        have hsz10 := Lib.hid hI10.size
        have hRB : Hid (∀ o, RI b g cap l W5 (.slice p4 (n1 + 1) c4) (.slice p2 n2 c2) (.slice p3 n3 c3) pvs ⟨n.names ++ [t.s], n.ports, n.links⟩ d5 (Y.alloc o)) := Lib.hid (fun o => hI10.alloc o)
        have hOB : Hid (∀ o, Own (Y.alloc o) (b + 1) 3 1 intC (.slice p8 n8 c8) ps) := Lib.hid (fun o => by
          have h2 := hO10.kept (grown_alloc Y o (some b)) (own_block hO10 b (Nat.lt_succ_self b))
          exact h2)
        clear hI10 hO10
        go_wp2_with (at_builtin; refine rowApp slC 39 24 1 24 (.slice none 0 0) Tryz.underlying24 sli_info rfl (by decide) (by decide) slC_len slC_one (.slice p2 n2 c2) n2 hn2.out (hown2.out.alloc _) (by have := hsz10.out; simp; omega) hpb.out ⟨p8, n8, c8⟩ Y.heap.size (fun j u hu => (cell_new Y _ _ _ j rfl).trans (by simpa [slC] using hu)) rfl _ _ rfl rfl rfl ?_)
        intro v10 w11 hown hgrow
        obtain ⟨p10, c10, rfl⟩ := own_sl3 hown
        have hR11 := (hRB.out (.cells #[.slice p8 n8 c8] 39)).rd.app (hRB.out (.cells #[.slice p8 n8 c8] 39)).gb hgrow hv2.out
        have hI11 := (hRB.out (.cells #[.slice p8 n8 c8] 39)).row (sw' := .slice p4 (n1 + 1) c4) (li' := .slice p3 n3 c3) hgrow hv2.out ((hRB.out (.cells #[.slice p8 n8 c8] 39)).ni.port (hOB.out _) hpsl.out hgrow hown) 3 _ rfl
        have g3 := hR11.c3
        have g4 := hR11.fz
        obtain ⟨n10, hn10⟩ : ∃ n10, (pvs ++ [(⟨p8, n8, c8⟩ : Sl3)]).length = n10 := ⟨_, rfl⟩
        rw [hn10] at hI11 ⊢
        replace hI11 := Lib.hid hI11
        have hm11 := Lib.hid (dMeas_of hI11.out.rd)
        clear hown hgrow hR11 hRB hOB hown2 e3 hn10
        go_wp2
        go_roundw
        case rel => exact hnext.out _ _ _ _ _ hI11.out
        case measure => rw [hm11.out, hmeas.out]; exact hless.out
end
end Go.Proofs.YtkffjjlmoojffaaGreatDoor
