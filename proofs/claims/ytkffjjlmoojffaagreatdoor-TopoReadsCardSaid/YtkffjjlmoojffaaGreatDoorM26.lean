/-
  WHAT IS PROVED HERE: a part of the proof of the claim's theorem: NetJ.
-/
import Derived.Test.YtkffjjlmoojffaaGreatDoorRows
import Derived.Test.YtkffjjlmoojffaaGreatDoorM25
set_option linter.all false
namespace Go.Proofs.YtkffjjlmoojffaaGreatDoor
open Go.RowKit
theorem dFail_k (so : Bool) (t : Tok) (e : Int) (d : DS) : (dFail so t e d).k = d.k := by unfold dFail; split <;> rfl
theorem dTake_k (l : List Tok) (d : DS) : d.k ≤ (dTake l d).k := by unfold dTake; split <;> simp
theorem dPort_k (l : List Tok) (d : DS) : d.k ≤ (dPort l d).k := by unfold dPort; rw [dFail_k, dFail_k, dFail_k]; exact dTake_k l d
theorem dWant_k (l : List Tok) (d : DS) (x : ByteArray) : d.k ≤ (dWant l d x).k := by unfold dWant; rw [dFail_k]; exact dTake_k l d
theorem dOne_k (l : List Tok) (out : List Int) (d : DS) : (dOne l out d).k = d.k := by unfold dOne; rw [dFail_k]
theorem dNew_k (l : List Tok) (out : List Int) (d : DS) : d.k ≤ (dNew l out d).k := by unfold dNew; rw [dFail_k]; exact dPort_k l d
theorem dOne_lt {l : List Tok} {out : List Int} {d : DS} (hk : d.bad = false → d.k < l.length) : (dOne l out d).bad = false → (dOne l out d).k < l.length := dFail_lt _ _ _ _ hk
theorem dNew_lt {l : List Tok} {z : Nat} (hl : TL l z) {out : List Int} {d : DS} (hk : d.bad = false → d.k < l.length) : (dNew l out d).bad = false → (dNew l out d).k < l.length := dFail_lt _ _ _ _ (dPort_lt hl d hk)
theorem dWant_adv {l : List Tok} {z : Nat} (hl : TL l z) (d : DS) (x : ByteArray) (hx : WordOk x) (hk : d.bad = false → d.k < l.length) (h : (dWant l d x).bad = false) : d.k < (dWant l d x).k := by
  cases hb : d.bad with
  | true => rw [dWant_bad l d x hb, hb] at h; cases h
  | false =>
    have := ag_want hl d hb (hk hb) x hx
    revert this
    cases wantM l d.k x with
    | ok a k => intro q; have := q.2.1; have := q.2.2.1; omega
    | bad p e => intro q; rw [q.1] at h; cases h
theorem w_ok : WordOk wSwitch ∧ WordOk wLink ∧ WordOk wOpen ∧ WordOk wShut ∧ WordOk wSemi ∧ WordOk wColon := by
  refine ⟨⟨?_, by decide⟩, ⟨?_, by decide⟩, ⟨?_, by decide⟩, ⟨?_, by decide⟩, ⟨?_, by decide⟩, ⟨?_, by decide⟩⟩ <;> (intro h; have := congrArg ByteArray.size h; revert this; decide)
def dPorts (l : List Tok) (d : DS) : List Int × DS := (sortK (dPortsN l (l.length + 2) [] (dWant l d wOpen)).1 511, dWant l (dPortsN l (l.length + 2) [] (dWant l d wOpen)).2 wShut)
theorem dTake_le {l : List Tok} {z : Nat} (hl : TL l z) {d : DS} (hk : d.k ≤ l.length) (hk2 : d.bad = false → d.k < l.length) : (dTake l d).k ≤ l.length := by
  unfold dTake
  split
  · rename_i hc
    simp only [Bool.and_eq_true, Bool.not_eq_true', decide_eq_true_eq] at hc
    have := hk2 hc.1
    show d.k + 1 ≤ l.length
    omega
  · exact hk
theorem dWant_le1 {l : List Tok} {z : Nat} (hl : TL l z) {d : DS} {x : ByteArray} (hk : d.k ≤ l.length) (hk2 : d.bad = false → d.k < l.length) : (dWant l d x).k ≤ l.length := by unfold dWant; rw [dFail_k]; exact dTake_le hl hk hk2
theorem dNew_le1 {l : List Tok} {z : Nat} (hl : TL l z) {out : List Int} {d : DS} (hk : d.k ≤ l.length) (hk2 : d.bad = false → d.k < l.length) : (dNew l out d).k ≤ l.length := by unfold dNew dPort; rw [dFail_k, dFail_k, dFail_k, dFail_k]; exact dTake_le hl hk hk2
def dMeas (w : World) (b n : Nat) : Nat := match w.cell? ⟨b, 5, none⟩, w.cell? ⟨b, 1, none⟩ with
  | some (.bool false), some (.int _ k) => n + 1 - k.toNat
  | _, _ => 0
def dLeft (l : List Tok) (d : DS) : Nat := if d.bad = true then 0 else l.length + 1 - d.k
theorem dMeas_of {w : World} {b g cap : Nat} {l : List Tok} {sw po li : Value} {d : DS} (h : Rd w b g cap l sw po li d) : dMeas w b l.length = dLeft l d := by
  unfold dMeas dLeft
  rw [h.c5, h.c1]
  cases d.bad <;> rfl
structure PoI (w : World) (b g cap : Nat) (l : List Tok) (sw po li : Value) (v : Value) (out : List Int) (d : DS) (wr : World) : Prop where
  gr : w.grownBy wr (some b)
  rd : Rd wr b g cap l sw po li d
  own : Own wr w.heap.size 3 1 intC v out
section
variable {w wr w2 : World} {b g cap : Nat} {l : List Tok} {sw po li v v' : Value} {out : List Int} {d d2 : DS}
theorem PoI.step (h : PoI w b g cap l sw po li v out d wr) (hb : b < w.heap.size) (hg : wr.grownBy w2 (some b)) (hX : Rd w2 b g cap l sw po li d2) : PoI w b g cap l sw po li v out d2 w2 :=
  ⟨grown_trans h.gr hg, hX, h.own.kept hg (own_block h.own b hb)⟩
theorem PoI.plus (h : PoI w b g cap l sw po li v out d wr) (hb : b < w.heap.size) (x : Ext) : PoI w b g cap l sw po li v out d (Go.Proofs.YtkffjjlmoojffaaGreatDoor.plus wr x) := h.step hb (grown_plus_any _ _ _) (h.rd.plus x)
theorem PoI.alloc (h : PoI w b g cap l sw po li v out d wr) (hb : b < w.heap.size) (o : Obj) : PoI w b g cap l sw po li v out d (wr.alloc o) := h.step hb (grown_alloc _ _ _) (h.rd.alloc o)
theorem PoI.app (h : PoI w b g cap l sw po li v out d wr) (hb : b < w.heap.size) (hg0 : g < w.heap.size) {x : Int} {o : Obj} (hown : Own w2 w.heap.size 3 1 intC v' (out ++ [x])) (hgrow : (wr.alloc o).grownBy w2 v.ownBlock) : PoI w b g cap l sw po li v' (out ++ [x]) d w2 := by
  have hr := fun k (e : some k = v.ownBlock) => (h.own.lt k e.symm).1
  have hz : (wr.alloc o).heap.size = wr.heap.size + 1 := by simp
  have hs := h.gr.size
  have hgl := h.rd.glt
  have hB := (h.rd.alloc o)
  refine ⟨⟨hgrow.os.trans h.gr.os, hgrow.tape.trans h.gr.tape, hgrow.output.trans h.gr.output, by have := hgrow.size; omega, fun k hk hne => ?_⟩, hB.keep hgrow.size ?_ ?_, hown⟩
  · rw [hgrow.block k (by omega) (fun e => by have := hr k e; omega), Below.heap_alloc _ _ _ (by omega)]
    exact h.gr.block k hk hne
  · exact hgrow.block b (by have := h.rd.lt; omega) (fun e => by have := hr b e; omega)
  · refine hgrow.block g (by omega) (fun e => ?_)
    have := hr g e
    omega
set_option maxRecDepth 100000 in
set_option maxHeartbeats 8000000 in
theorem dc_ports {z : Nat} (hl : TL l z) (h : Rd w b g cap l sw po li d) (hk : d.bad = false → d.k < l.length) (hk0 : d.k ≤ l.length) (hL : l.length ≤ 100000) :
    Calls Tryz.prog 24 #[.pointer (some ⟨b, 0, none⟩)] w fun e w' => ∃ v', e = .returned v' ∧ w.grownBy w' (some b) ∧ Rd w' b g cap l sw po li (dPorts l d).2 ∧ Own w' w.heap.size 3 1 intC v' (dPorts l d).1 := by
  obtain ⟨RES, hRES⟩ : ∃ R, dPortsN l (l.length + 2) [] (dWant l d wOpen) = R := ⟨_, rfl⟩
  have hP : dPorts l d = (sortK RES.1 511, dWant l RES.2 wShut) := by unfold dPorts; rw [hRES]
  rw [hP]
  have hb := h.lt
  have hg0 : Hid (g < w.heap.size) := Lib.hid h.glt
  have hgb := Lib.hid h.ne
  have hO := Lib.hid (dc_want hl h hk wOpen)
  have hd0 := dWant_lt hl d wOpen hk
  have hkk := dWant_le1 hl (x := wOpen) hk0 hk
  obtain ⟨d0, hd⟩ : ∃ d0, dWant l d wOpen = d0 := ⟨_, rfl⟩
  rw [hd] at hO hRES hd0 hkk
  replace hkk := Lib.hid hkk
  have hl' := Lib.hid hl
  have hL' := Lib.hid hL
  replace hRES := Lib.hid hRES
  have hd0' := Lib.hid hd0
  clear h hk hP hd hd0 hl hL
  go_enter Tryz.func24, Tryz.ntmps24
  go_wp2_with fail
  refine hO.out.mono ?_
  rintro e w1 ⟨rfl, hg1, hX1⟩
  have hI0 : Hid (PoI w b g cap l sw po li (.slice none 0 0) [] d0 w1) := Lib.hid ⟨hg1, hX1, World.ownsRow_nil _ _ _ _⟩
  clear hg1 hX1 hO
  go_wp2
  go_loopw [3] (fun ov wr => Hid (∃ f out d, PoI w b g cap l sw po li ov out d wr ∧ (d.bad = false → d.k < l.length) ∧ dLeft l d < f ∧ out.length ≤ d.k + (if d.bad = true then 1 else 0) ∧ d.k ≤ l.length ∧ dPortsN l f out d = RES)) (fun _ wr => dMeas wr b l.length)
  case atStart =>
    refine Lib.hid ⟨l.length + 2, [], d0, hI0.out, hd0'.out, ?_, Nat.zero_le _, hkk.out, hRES.out⟩
    unfold dLeft; split <;> omega
  case round =>
    obtain ⟨f, out, d, hI, hdk, hf, hlen, hkl, hres⟩ := hrel.out
    obtain ⟨f, rfl⟩ : ∃ f', f = f' + 1 := ⟨f - 1, by omega⟩
    clear hI0
    obtain ⟨p3, c3, rfl⟩ := own_sl3 hI.own
    obtain ⟨n3, hn3⟩ : ∃ n3, out.length = n3 := ⟨_, rfl⟩
    rw [hn3] at hI ⊢
    replace hn3 := Lib.hid hn3
    have hmeas := Lib.hid (dMeas_of hI.rd)
    have c5 := hI.rd.c5
    have hL2 := hL'.out
    have hlen' : Hid (out.length ≤ 100001) := Lib.hid (by have : (if d.bad = true then 1 else 0) ≤ 1 := by split <;> omega
                                                          omega)
    unfold dPortsN at hres
    cases hbad : d.bad with
    | true =>
      rw [if_neg (by rw [hbad]; simp)] at hres
      rw [hbad] at c5
      replace hI := Lib.hid hI
      replace hres := Lib.hid hres
      have hQ := Lib.hid (fun w h => dc_want (w := w) (b := b) (g := g) (cap := cap) (sw := sw) (po := po) (li := li) (d := d) hl'.out h hdk wShut)
      have hlen3 := hlen'
      clear hdk hf hlen hkl hlen' hmeas hrel
      go_wp2_with fail
      refine (hQ.out _ hI.out.rd).mono ?_
      rintro e w2 ⟨rfl, hg2, hX2⟩
      have hI2 := Lib.hid (hI.out.step hb hg2 hX2)
      clear hg2 hX2
      have hlies := own_lies hI2.out.own intC_len
      have hS := Lib.hid (dc_sorted (w := w2) (.slice p3 n3 c3) out hlies (by have := hlen3.out; omega))
      clear hlies c5
      go_wp2_with fail
      refine hS.out.mono ?_
      rintro e w3 ⟨v', rfl, hB3, hO3⟩
      have hfin : Hid (w.grownBy w3 (some b) ∧ Rd w3 b g cap l sw po li (dWant l RES.2 wShut) ∧ Own w3 w.heap.size 3 1 intC v' (sortK RES.1 511)) := by
        show _ ∧ _
        rw [← hres.out]
        exact ⟨grown_trans hI2.out.gr (grown_of_below hB3 _), hI2.out.rd.below hB3, own_base hO3 hI2.out.gr.size⟩
      clear hB3 hO3 hS
      go_wp2
      go_ret
      exact ⟨v', rfl, hfin.out⟩
    | false =>
      rw [hbad] at c5
      have hkd := hdk hbad
      have hA := dc_has hI.rd hdk wShut
      cases hhas : dHas l d wShut with
      | true =>
        rw [if_neg (by rw [hbad, hhas]; simp)] at hres
        rw [hhas] at hA
        replace hI := Lib.hid hI
        replace hres := Lib.hid hres
        replace hA := Lib.hid hA
        have hQ := Lib.hid (fun w h => dc_want (w := w) (b := b) (g := g) (cap := cap) (sw := sw) (po := po) (li := li) (d := d) hl'.out h hdk wShut)
        have hlen3 := hlen'
        clear hdk hf hlen hkl hlen' hmeas hrel
        go_wp2_with fail
        refine hA.out.mono ?_
        rintro e w0 ⟨rfl, hg0', hX0⟩
        have hI1 := Lib.hid (hI.out.step hb hg0' hX0)
        clear hg0' hX0
        go_wp2_with fail
        refine (hQ.out _ hI1.out.rd).mono ?_
        rintro e w2 ⟨rfl, hg2, hX2⟩
        have hI2 := Lib.hid (hI1.out.step hb hg2 hX2)
        clear hg2 hX2
        have hlies := own_lies hI2.out.own intC_len
        have hS := Lib.hid (dc_sorted (w := w2) (.slice p3 n3 c3) out hlies (by have := hlen3.out; omega))
        clear hlies c5
        go_wp2_with fail
        refine hS.out.mono ?_
        rintro e w3 ⟨v', rfl, hB3, hO3⟩
        have hfin : Hid (w.grownBy w3 (some b) ∧ Rd w3 b g cap l sw po li (dWant l RES.2 wShut) ∧ Own w3 w.heap.size 3 1 intC v' (sortK RES.1 511)) := by
          show _ ∧ _
          rw [← hres.out]
          exact ⟨grown_trans hI2.out.gr (grown_of_below hB3 _), hI2.out.rd.below hB3, own_base hO3 hI2.out.gr.size⟩
        clear hB3 hO3 hS
        go_wp2
        go_ret
        exact ⟨v', rfl, hfin.out⟩
      | false =>
        rw [if_pos (by rw [hbad, hhas]; rfl)] at hres
        rw [hhas] at hA
        replace hA := Lib.hid hA
        have hlt4 : out.length ≤ d.k := by rw [hbad] at hlen; simpa using hlen
        obtain ⟨d1, hd1⟩ : ∃ d1, dOne l out d = d1 := ⟨_, rfl⟩
        have hdk1 := dOne_lt (out := out) hdk
        have hk1 := dOne_k l out d
        rw [hd1] at hres hdk1 hk1
        have hP := Lib.hid (fun w h => dc_port (w := w) (b := b) (g := g) (cap := cap) (sw := sw) (po := po) (li := li) (d := d1) hl'.out h hdk1)
        have hkN := dNew_k l out d1
        have hdkN := dNew_lt hl'.out (out := out) hdk1
        have hD2 : Hid (dFail (!decide (dPortV l d1 ∈ out)) (dNow l d1) 8 (dPort l d1) = dNew l out d1) := Lib.hid rfl
        obtain ⟨d2, hd2⟩ : ∃ d2, dNew l out d1 = d2 := ⟨_, rfl⟩
        rw [hd2] at hres hD2 hkN hdkN
        have hW := Lib.hid (fun w h => dc_want (w := w) (b := b) (g := g) (cap := cap) (sw := sw) (po := po) (li := li) (d := d2) hl'.out h hdkN wSemi)
        have hkW := dWant_k l d2 wSemi
        have hdkW := dWant_lt hl'.out d2 wSemi hdkN
        have hadv := dWant_adv hl'.out d2 wSemi w_ok.2.2.2.2.1 hdkN
        obtain ⟨d3, hd3⟩ : ∃ d3, dWant l d2 wSemi = d3 := ⟨_, rfl⟩
        rw [hd3] at hres hW hkW hdkW hadv
        obtain ⟨V1, hV1⟩ : ∃ V, dPortV l d1 = V := ⟨_, rfl⟩
        obtain ⟨t1, ht1⟩ : ∃ t, dNow l d1 = t := ⟨_, rfl⟩
        rw [hV1] at hres hP hD2
        rw [ht1] at hP hD2
        have hk3 : d3.k ≤ l.length := by
          cases hb3 : d3.bad with
          | false => have := hdkW hb3; omega
          | true => subst hd3; exact dWant_le1 hl'.out (by rw [← hd2]; exact dNew_le1 hl'.out (by omega) hdk1) hdkN
        have hless : Hid (dLeft l d3 < dLeft l d) := by
          show dLeft l d3 < dLeft l d
          unfold dLeft
          cases hb3 : d3.bad with
          | true => simp only [hbad, if_true, Bool.false_eq_true, if_false]; omega
          | false => simp only [hbad, Bool.false_eq_true, if_false]; have := hadv hb3; omega
        have hnext : Hid (∀ v' w9, PoI w b g cap l sw po li v' (out ++ [V1]) d3 w9 → Hid (∃ f out d, PoI w b g cap l sw po li v' out d w9 ∧ (d.bad = false → d.k < l.length) ∧ dLeft l d < f ∧ out.length ≤ d.k + (if d.bad = true then 1 else 0) ∧ d.k ≤ l.length ∧ dPortsN l f out d = RES)) := by
          show ∀ v' w9, _
          intro v' w9 hI
          refine Lib.hid ⟨f, out ++ [V1], d3, hI, hdkW, by have := hless.out; omega, ?_, hk3, hres⟩
          rw [List.length_append, List.length_singleton]
          cases hb3 : d3.bad with
          | true => rw [if_pos rfl]; omega
          | false => rw [if_neg (by decide)]; have := hadv hb3; omega
        obtain ⟨K1, hK1⟩ : ∃ K, (t1.kind : Int) = K := ⟨_, rfl⟩
        have hTA1 : Hid (tokA t1 = .agg #[.int .u8 K1, .string t1.s, .int .i64 t1.w, .int .u64 (hi t1.n), .int .u64 (lo t1.n), .int .i64 (t1.at_ : Int)]) := by show _ = _; rw [← hK1]
        rw [hTA1.out] at hP
        have hN := Lib.hid (fun w h => dc_now (w := w) (b := b) (g := g) (cap := cap) (sw := sw) (po := po) (li := li) (d := d) h hdk)
        have hFF := Lib.hid (fun w h so => dc_fail (w := w) (b := b) (g := g) (cap := cap) (l := l) (sw := sw) (po := po) (li := li) (d := d) h so (dNow l d) 5)
        have hD1 : Hid (dFail (decide (out.length < 8) || decide (¬ (dNow l d).kind = 2)) (dNow l d) 5 d = d1) := Lib.hid hd1
        obtain ⟨t0, ht0⟩ : ∃ t, dNow l d = t := ⟨_, rfl⟩
        rw [ht0] at hN hFF hD1
        rw [hn3.out] at hD1
        have q2 : ((t0.kind : Int) != 2) = decide (¬ t0.kind = 2) := by rw [Bool.eq_iff_iff, bne_iff_ne, decide_eq_true_eq]; omega
        obtain ⟨B2, hB2⟩ : ∃ B, decide (¬ t0.kind = 2) = B := ⟨_, rfl⟩
        obtain ⟨K0, hK0⟩ : ∃ K, (t0.kind : Int) = K := ⟨_, rfl⟩
        have hTA0 : Hid (tokA t0 = .agg #[.int .u8 K0, .string t0.s, .int .i64 t0.w, .int .u64 (hi t0.n), .int .u64 (lo t0.n), .int .i64 (t0.at_ : Int)]) := by show _ = _; rw [← hK0]
        rw [hTA0.out] at hN hFF
        rw [hK0, hB2] at q2
        have hD1' := hD1.out
        rw [hB2] at hD1'
        replace hD1 := Lib.hid hD1'
        have f0 := tok_field0
        replace hI := Lib.hid hI
        have hbadH := Lib.hid hbad
        clear hdk hf hlen hkl hrel hdk1 hk1 hkN hdkN hkW hdkW hadv hd1 hd2 hd3 hV1 ht1 hk3 hK1 ht0 hK0 hB2 hD1' hres hhas hkd hlt4
        have hlen := hlen'
        clear hlen'
        go_wp2_with fail
        refine hA.out.mono ?_
        rintro e w2 ⟨rfl, hg2, hX2⟩
        have hI2 := Lib.hid (hI.out.step hb hg2 hX2)
        clear hg2 hX2 c5
        by_cases hn8 : n3 < 8
        · have hn8' : (n3 : Int) < 8 := by omega
          have hF := hFF.out
          have hDd : dFail true t0 5 d = d1 := by rw [← hD1.out, decide_eq_true hn8]; rfl
          replace hDd := Lib.hid hDd
          clear hn8
          go_wp2_with fail
          refine (hN.out _ hI2.out.rd).mono ?_
          rintro e w3 ⟨rfl, x3, rfl⟩
          have hI3 := hI2.out.plus hb x3
          have hF4 := hF _ hI3.rd true
          rw [hDd.out] at hF4
          replace hF4 := Lib.hid hF4
          replace hI3 := Lib.hid hI3
          clear hF
          go_wp2_with fail
          refine hF4.out.mono ?_
          rintro e w4 ⟨rfl, hg4, hX4⟩
          have hI4 := Lib.hid (hI3.out.step hb hg4 hX4)
          clear hg4 hX4 hF4 hI3 hI2 hI hN hFF hA hn8'
          go_wp2_with fail
          refine (hP.out _ hI4.out.rd).mono ?_
          rintro e w5 ⟨rfl, hg5, hX5⟩
          have hI5 := hI4.out.step hb hg5 hX5
          go_upto_region 6 with (fail)
          obtain ⟨U, hU, hBU, hzU, ca, -⟩ := box1 w5 #[.int .u8 K1, .string t1.s, .int .i64 t1.w, .int .u64 (hi t1.n), .int .u64 (lo t1.n), .int .i64 (t1.at_ : Int)] 60
          have hI6 : Hid (PoI w b g cap l sw po li (.slice p3 n3 c3) out (dPort l d1) U) := Lib.hid (hU ▸ hI5.alloc hb _)
          rw [← hU]
          clear hU hg5 hX5 hI5 hI4
          have a0 := ca 0 _ rfl
          have a1 := ca 1 _ rfl
          have a2 := ca 2 _ rfl
          have a3 := ca 3 _ rfl
          have a4 := ca 4 _ rfl
          have a5 := ca 5 _ rfl
          have hlies := own_lies hI6.out.own intC_len
          have hH1 := Lib.hid (fun y => (dc_has1 (w := Go.Proofs.YtkffjjlmoojffaaGreatDoor.plus U y) (.slice p3 n3 c3) out V1 (hlies.plus y) (by have := hlen.out; omega)).mono (fun _ _ ⟨he, z, hz⟩ => (⟨he, _, hz.trans (plus_plus _ _ _)⟩ : (_ = Ending.returned (.bool (decide (V1 ∈ out)))) ∧ ∃ z, _ = Go.Proofs.YtkffjjlmoojffaaGreatDoor.plus U z)))
          obtain ⟨B6, hB6⟩ : ∃ B, decide (V1 ∈ out) = B := ⟨_, rfl⟩
          rw [hB6] at hH1
          have hD6 := hD2.out
          rw [hB6] at hD6
          replace hD6 := Lib.hid hD6
          clear ca hB6 hzU hlies
          refine wp_region_own_tail0 6 (by kernel_rfl) (by kernel_rfl) ?_
          simp only [List.take_succ_cons, List.take_zero, List.drop_succ_cons, List.drop_zero]
          repeat (go_big_quiet_step (first | (with_reducible exact hH1.out _)))
          refine wpQuiet_nil ?_
          rintro _ ⟨y, rfl⟩
          have hF6 := dc_fail (hI6.out.rd.plus y) (!B6) t1 8
          rw [hTA1.out, hD6.out] at hF6
          replace hF6 := Lib.hid hF6
          go_wp2_with fail
          refine hF6.out.mono ?_
          rintro e w7 ⟨rfl, hg7, hX7⟩
          have hI7 := Lib.hid ((hI6.out.plus hb y).step hb hg7 hX7)
          clear hg7 hX7 hI6 hF6 a0 a1 a2 a3 a4 a5 hH1 hBU hD6
          go_wp2_with fail
          refine (hW.out _ hI7.out.rd).mono ?_
          rintro e w8 ⟨rfl, hg8, hX8⟩
          have hI8 := Lib.hid (hI7.out.step hb hg8 hX8)
          clear hg8 hX8 hI7
          have hown2 : Hid (w8.ownsRow w.heap.size 3 1 (.slice p3 n3 c3) n3 ((out.map intC).flatten)) := Lib.hid (by have := hI8.out.own; unfold Own at this; rwa [hn3.out] at this)
          go_wp2_with (at_builtin; refine rowApp intC 3 39 1 8 (.int .i64 0) Tryz.underlying39 num_info rfl (by decide) (by decide) intC_len intC_one (.slice p3 n3 c3) n3 hn3.out (hown2.out.alloc _) (by have := hI8.out.gr.size; simp; omega) (by have := hlen.out; omega) V1 w8.heap.size (fun j u hu => (cell_new w8 _ _ _ j rfl).trans (by simpa [intC] using hu)) rfl _ _ rfl rfl rfl ?_)
          intro v' w9 hown hgrow
          have hI9 := Lib.hid (hI8.out.app hb hg0.out hown hgrow)
          clear hown hgrow hown2 hI8
          have hm9 := Lib.hid (dMeas_of hI9.out.rd)
          go_wp2
          go_roundw
          case rel => exact hnext.out v' w9 hI9.out
          case measure => rw [hm9.out, hmeas.out]; exact hless.out
        · replace hn8' : decide ((n3 : Int) < 8) = false := decide_eq_false (by omega)
          have hF := hFF.out
          have hDd : dFail B2 t0 5 d = d1 := by rw [← hD1.out, decide_eq_false hn8]; rfl
          replace hDd := Lib.hid hDd
          clear hn8
          go_wp2_with fail
          refine (hN.out _ hI2.out.rd).mono ?_
          rintro e w3 ⟨rfl, x3, rfl⟩
          go_wp2_with fail
          have hI3 := hI2.out.plus hb x3
          refine (hN.out _ hI3.rd).mono ?_
          rintro e w3 ⟨rfl, x4, rfl⟩
          replace hI3 := hI3.plus hb x4
          have hF4 := hF _ hI3.rd B2
          rw [hDd.out] at hF4
          replace hF4 := Lib.hid hF4
          replace hI3 := Lib.hid hI3
          clear hF
          go_wp2_with fail
          refine hF4.out.mono ?_
          rintro e w4 ⟨rfl, hg4, hX4⟩
          have hI4 := Lib.hid (hI3.out.step hb hg4 hX4)
          clear hg4 hX4 hF4 hI3 hI2 hI hN hFF hA hn8'
          go_wp2_with fail
          refine (hP.out _ hI4.out.rd).mono ?_
          rintro e w5 ⟨rfl, hg5, hX5⟩
          have hI5 := hI4.out.step hb hg5 hX5
          go_upto_region 6 with (fail)
          obtain ⟨U, hU, hBU, hzU, ca, -⟩ := box1 w5 #[.int .u8 K1, .string t1.s, .int .i64 t1.w, .int .u64 (hi t1.n), .int .u64 (lo t1.n), .int .i64 (t1.at_ : Int)] 60
          have hI6 : Hid (PoI w b g cap l sw po li (.slice p3 n3 c3) out (dPort l d1) U) := Lib.hid (hU ▸ hI5.alloc hb _)
          rw [← hU]
          clear hU hg5 hX5 hI5 hI4
          have a0 := ca 0 _ rfl
          have a1 := ca 1 _ rfl
          have a2 := ca 2 _ rfl
          have a3 := ca 3 _ rfl
          have a4 := ca 4 _ rfl
          have a5 := ca 5 _ rfl
          have hlies := own_lies hI6.out.own intC_len
          have hH1 := Lib.hid (fun y => (dc_has1 (w := Go.Proofs.YtkffjjlmoojffaaGreatDoor.plus U y) (.slice p3 n3 c3) out V1 (hlies.plus y) (by have := hlen.out; omega)).mono (fun _ _ ⟨he, z, hz⟩ => (⟨he, _, hz.trans (plus_plus _ _ _)⟩ : (_ = Ending.returned (.bool (decide (V1 ∈ out)))) ∧ ∃ z, _ = Go.Proofs.YtkffjjlmoojffaaGreatDoor.plus U z)))
          obtain ⟨B6, hB6⟩ : ∃ B, decide (V1 ∈ out) = B := ⟨_, rfl⟩
          rw [hB6] at hH1
          have hD6 := hD2.out
          rw [hB6] at hD6
          replace hD6 := Lib.hid hD6
          clear ca hB6 hzU hlies
          refine wp_region_own_tail0 6 (by kernel_rfl) (by kernel_rfl) ?_
          simp only [List.take_succ_cons, List.take_zero, List.drop_succ_cons, List.drop_zero]
          repeat (go_big_quiet_step (first | (with_reducible exact hH1.out _)))
          refine wpQuiet_nil ?_
          rintro _ ⟨y, rfl⟩
          have hF6 := dc_fail (hI6.out.rd.plus y) (!B6) t1 8
          rw [hTA1.out, hD6.out] at hF6
          replace hF6 := Lib.hid hF6
          go_wp2_with fail
          refine hF6.out.mono ?_
          rintro e w7 ⟨rfl, hg7, hX7⟩
          have hI7 := Lib.hid ((hI6.out.plus hb y).step hb hg7 hX7)
          clear hg7 hX7 hI6 hF6 a0 a1 a2 a3 a4 a5 hH1 hBU hD6
          go_wp2_with fail
          refine (hW.out _ hI7.out.rd).mono ?_
          rintro e w8 ⟨rfl, hg8, hX8⟩
          have hI8 := Lib.hid (hI7.out.step hb hg8 hX8)
          clear hg8 hX8 hI7
          have hown2 : Hid (w8.ownsRow w.heap.size 3 1 (.slice p3 n3 c3) n3 ((out.map intC).flatten)) := Lib.hid (by have := hI8.out.own; unfold Own at this; rwa [hn3.out] at this)
          go_wp2_with (at_builtin; refine rowApp intC 3 39 1 8 (.int .i64 0) Tryz.underlying39 num_info rfl (by decide) (by decide) intC_len intC_one (.slice p3 n3 c3) n3 hn3.out (hown2.out.alloc _) (by have := hI8.out.gr.size; simp; omega) (by have := hlen.out; omega) V1 w8.heap.size (fun j u hu => (cell_new w8 _ _ _ j rfl).trans (by simpa [intC] using hu)) rfl _ _ rfl rfl rfl ?_)
          intro v' w9 hown hgrow
          have hI9 := Lib.hid (hI8.out.app hb hg0.out hown hgrow)
          clear hown hgrow hown2 hI8
          have hm9 := Lib.hid (dMeas_of hI9.out.rd)
          go_wp2
          go_roundw
          case rel => exact hnext.out v' w9 hI9.out
          case measure => rw [hm9.out, hmeas.out]; exact hless.out
end
end Go.Proofs.YtkffjjlmoojffaaGreatDoor
