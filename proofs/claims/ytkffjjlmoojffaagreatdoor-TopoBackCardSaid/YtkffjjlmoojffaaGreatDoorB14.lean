/-
  WHAT IS PROVED HERE: a part of the proof of the claim's theorem: LexC.
-/
import Derived.Test.YtkffjjlmoojffaaGreatDoorRows
import Derived.Test.YtkffjjlmoojffaaGreatDoorB13
import Derived.WalkKit
import Derived.WalkSpells
import Derived.WalkLawsBesides
import Derived.Recover
set_option linter.all false
namespace Go.Proofs.YtkffjjlmoojffaaGreatDoor
open Go.RowKit
theorem wEnd_rest (s : ByteArray) (k : Nat) : ∀ (d j : Nat), s.size - (k + j) = d → k + wEnd (rest s k) j = wEnd s (k + j)
  | 0, j, h => by rw [wEnd_past (by rw [rest_size]; omega), wEnd_past (by omega)]
  | d + 1, j, h => by
    have hb := byN_rest s k j
    have hz := rest_size s k
    cases hw : isWrd (byN s (k + j)) with
    | true => rw [wrd_go (by omega) (by rw [hb]; exact hw), wrd_go (s := s) (by omega) hw, wEnd_rest s k d (j + 1) (by omega)]; rfl
    | false => rw [wrd_stop (by omega) (by rw [hb]; exact hw), wrd_stop (s := s) (by omega) hw]
theorem first_rest (s : ByteArray) (k : Nat) (hk : k ≤ s.size) : (rest s k).extract 0 (wEnd (rest s k) 0) = s.extract k (wEnd s k) := by
  have h := wEnd_rest s k _ 0 rfl
  have hb := wEnd_bounds s _ k rfl hk
  rw [rest_extract s k 0 _ (by rw [h]; exact hb.2), h]
  rfl
structure TInv (w : World) (B : Nat) (l : List Value) (wr : World) : Prop where
  below : Below w.heap.size w wr
  lt : w.heap.size < B
  ltB : B < wr.heap.size
  r : ∀ i, i < 6 → ∃ u, wr.cell? ⟨w.heap.size, i, none⟩ = some u
  fr : ∀ o, wr.frozen? ⟨w.heap.size, o, none⟩ = false
  t : ∀ i v, l[i]? = some v → wr.cell? ⟨B, i, none⟩ = some v
  ft : ∀ o, wr.frozen? ⟨B, o, none⟩ = false
theorem TInv.plus {w wr : World} {B : Nat} {l : List Value} (h : TInv w B l wr) (x : Ext) : TInv w B l (plus wr x) :=
  ⟨h.below.trans ((below_plus wr x).mono h.below.size), h.lt, Nat.lt_of_lt_of_le h.ltB (size_plus wr x), fun i hi => by obtain ⟨u, hu⟩ := h.r i hi; exact ⟨u, plus_cell (Nat.lt_trans h.lt h.ltB) hu x⟩, plus_frozen (Nat.lt_trans h.lt h.ltB) h.fr x, fun i v hv => plus_cell h.ltB (h.t i v hv) x, plus_frozen h.ltB h.ft x⟩
theorem TInv.put {w wr : World} {B : Nat} {l : List Value} (h : TInv w B l wr) (i : Nat) (v : Value) : TInv w B (l.set i v) (wr.setCell ⟨B, i, none⟩ v) := by
  have hlt := h.lt
  refine ⟨h.below.setCell (Nat.le_of_lt hlt) _, hlt, by have := h.ltB; simp; omega, fun j hj => ?_, fun o => by rw [World.frozen?_setCell]; exact h.fr o, fun j u hu => ?_, fun o => by rw [World.frozen?_setCell]; exact h.ft o⟩
  · obtain ⟨u, hu⟩ := h.r j hj
    exact cell?_setCell_some hu
  · rw [List.getElem?_set] at hu
    split at hu
    · rename_i e
      subst e
      split at hu
      · rename_i hi
        obtain rfl := Option.some.inj hu
        exact World.cell?_setCell_same _ _ _ (h.t i _ (List.getElem?_eq_getElem hi))
      · cases hu
    · rename_i hne
      rw [World.cell?_setCell_other _ _ _ _ (fun e => hne (congrArg Addr.off e))]
      exact h.t j u hu
theorem TInv.start {w V : World} {a0 a1 a2 a3 a4 a5 : Value} {l : List Value} (U : TypeId) (hB : Below w.heap.size w V) (hV : w.heap.size < V.heap.size) (hr : ∀ i v, (#[a0, a1, a2, a3, a4, a5] : Array Value)[i]? = some v → V.cell? ⟨w.heap.size, i, none⟩ = some v) (hf : ∀ o, V.frozen? ⟨w.heap.size, o, none⟩ = false) : TInv w V.heap.size l (V.alloc (.cells l.toArray U)) := by
  refine ⟨hB.alloc hB.size _, hV, by simp, fun i hi => ?_, fun o => (frozen_old V _ _ o hV).trans (hf o), fun i v hv => ?_, fun o => frozen_new V _ U _ o rfl⟩
  · have h6 : i < (#[a0, a1, a2, a3, a4, a5] : Array Value).size := hi
    exact ⟨_, (cell_old V _ _ i hV).trans (hr i _ (Array.getElem?_eq_getElem h6))⟩
  · rw [cell_new V _ U _ i rfl]
    simpa using hv
theorem TInv.mid {w V : World} {l : List Value} {b : Nat} {s : ByteArray} {k : Nat} {B : Nat} (h : TInv w B l V) (hX : Lx w b s k) : Lx V b s k := hX.below h.below hX.lt
theorem TInv.er {w V : World} {l : List Value} {B : Nat} (h : TInv w B l V) (hE : Errs w) : Errs V := by
  obtain ⟨te, pe, hs⟩ := hE.es
  obtain ⟨te2, pe2, hr⟩ := hE.er
  exact hE.below h.below (cell_lt hs) (cell_lt hr)
def TokEnds (w : World) (s : ByteArray) (k : Nat) (e : Ending) (w' : World) : Prop := ((oneR s k).2 = 0 → Back w (tokV (oneR s k).1) e w') ∧ (¬ (oneR s k).2 = 0 → Gives w (oneR s k).2 (lineOf s k : Nat) (colOf s k : Nat) e w')
theorem tok_any (K : Nat) (m : ByteArray) (W : Int) (n k : Nat) : tokV ⟨K, m, W, n, k⟩ = .agg #[.int .u8 (K : Int), .string m, .int .i64 W, .int .u64 (hi n), .int .u64 (lo n), .int .i64 (k : Int)] := by
  unfold tokV tokL
  simp
theorem six_put {w V : World} (hB : Below w.heap.size w V) (a0 a1 a2 a3 a4 a5 : Value) : ∃ x, (((((V.setCell ⟨w.heap.size, 0, none⟩ a0).setCell ⟨w.heap.size, 1, none⟩ a1).setCell ⟨w.heap.size, 2, none⟩ a2).setCell ⟨w.heap.size, 3, none⟩ a3).setCell ⟨w.heap.size, 4, none⟩ a4).setCell ⟨w.heap.size, 5, none⟩ a5 = plus w x :=
  plus_of_below ((((((hB.setCell (p := ⟨w.heap.size, _, none⟩) (Nat.le_refl _) _).setCell (p := ⟨w.heap.size, _, none⟩) (Nat.le_refl _) _).setCell (p := ⟨w.heap.size, _, none⟩) (Nat.le_refl _) _).setCell (p := ⟨w.heap.size, _, none⟩) (Nat.le_refl _) _).setCell (p := ⟨w.heap.size, _, none⟩) (Nat.le_refl _) _).setCell (p := ⟨w.heap.size, _, none⟩) (Nat.le_refl _) _)
set_option maxHeartbeats 4000000 in
theorem lx_token_mark (s : ByteArray) (k b : Nat) (w : World) (hk : k < s.size) (hs : s.size ≤ 140737488355328) (hX : Lx w b s k) (hM : Marks w) (hc : isWrd (byN s k) = false) :
    Calls Tryz.prog 101 #[.pointer (some ⟨b, 0, none⟩)] w (TokEnds w s k) := by
  have hF := tok_first (rest s k) (by rw [rest_size]; omega)
  rw [first_rest s k (by omega), wrd_stop hk hc] at hF
  have hemp : s.extract k k = ⟨#[]⟩ := by
    apply ByteArray.ext
    refine Array.eq_empty_of_size_eq_zero ?_
    show (s.extract k k).size = 0
    rw [ByteArray.size_extract]
    omega
  rw [hemp] at hF
  have hF' := Lib.hid hF
  have hO : oneR s k = if markN s k = 0 then (⟨0, ByteArray.empty, 0, 0, k⟩, 4) else (⟨3, s.extract k (k + markN s k), 0, 0, k⟩, 0) := by
    unfold oneR
    rw [if_neg (by unfold isWrd at hc; rw [hc]; simp)]
  obtain ⟨W, hW, hB, hz, ca, fa⟩ := box1 w #[.int .u8 0, .string ⟨#[]⟩, .int .i64 0, .int .u64 0, .int .u64 0, .int .i64 0] 60
  have hMW : Marks W := by obtain ⟨x, rfl⟩ := plus_of_below hB; exact hM.plus x
  have hXW : Lx W b s k := hW ▸ hX.alloc _
  have hK := Lib.hid (lx_mark s k b W hk hs hXW hMW)
  have c1 := hXW.c1
  rw [hW] at c1
  have hW' := Lib.hid hW
  have hB' := Lib.hid hB
  by_cases h0 : markN s k = 0
  · have hE : Hid ((oneR s k).2 = 4) := by show _ = _; rw [hO, if_pos h0]
    have h0' := Lib.hid h0
    clear hF hO hemp hc hX hM hMW hXW hB h0 ca fa hz hW
    go_enter Tryz.func101, Tryz.ntmps101
    go_wp2_with (first | (go_at_call 77; refine (hF'.out _).mono ?_; rintro e w' ⟨rfl, rfl⟩) | fail)
    rw [← hW'.out]
    refine hK.out.mono ?_
    intro e w' hme
    obtain ⟨rfl, x, rfl⟩ := hme.2 h0'.out
    go_wp2
    refine ⟨rfl, fun h => absurd (hE.out.symm.trans h) (by decide), fun _ => ?_⟩
    rw [hE.out]
    exact ⟨rfl, plus_of_below (hB'.out.trans ((below_plus W x).mono hB'.out.size))⟩
  · have hE : Hid (oneR s k = (⟨3, s.extract k (k + markN s k), 0, 0, k⟩, 0)) := by show _ = _; rw [hO, if_neg h0]
    have h0' := Lib.hid h0
    have z0 := ca 0 (some (.int .u8 0)) rfl
    have z1 := ca 1 (some (.string ⟨#[]⟩)) rfl
    have z2 := ca 2 (some (.int .i64 0)) rfl
    have z3 := ca 3 (some (.int .u64 0)) rfl
    have z4 := ca 4 (some (.int .u64 0)) rfl
    have z5 := ca 5 (some (.int .i64 0)) rfl
    clear hF hO hemp hc hX hM hMW hXW hB h0 ca hz hW
    go_enter Tryz.func101, Tryz.ntmps101
    go_wp2_with (first | (go_at_call 77; refine (hF'.out _).mono ?_; rintro e w' ⟨rfl, rfl⟩) | fail)
    rw [← hW'.out]
    clear c1
    refine hK.out.mono ?_
    intro e w' hme
    obtain ⟨rfl, x, rfl⟩ := hme.1 h0'.out
    rw [tok_three]
    go_wp2
    refine bodyPost_ret (v := tokV ⟨3, s.extract k (k + markN s k), 0, 0, k⟩) ?_ rfl ⟨fun _ => ?_, fun h => absurd (by rw [hE.out]) h⟩
    · rw [tok_three]; simp [results, Tryz.results101, go_sem, z0, z1, z2, z3, z4, z5]
    · rw [hE.out]
      exact ⟨rfl, six_put (hB'.out.trans ((below_plus W x).mono hB'.out.size)) _ _ _ _ _ _⟩
end Go.Proofs.YtkffjjlmoojffaaGreatDoor
namespace Go.Proofs.YtkffjjlmoojffaaGreatDoor
open Go.RowKit
theorem word_first (s : ByteArray) (k : Nat) (hk : k < s.size) (hc : isWrd (byN s k) = true) : 0 < (s.extract k (wEnd s k)).size ∧ (s.extract k (wEnd s k)).size = wEnd s k - k ∧ byN (s.extract k (wEnd s k)) 0 = byN s k := by
  have hb := wEnd_bounds s _ (k + 1) rfl (by omega)
  have hg := wrd_go hk hc
  have hz : (s.extract k (wEnd s k)).size = wEnd s k - k := by rw [ByteArray.size_extract]; omega
  exact ⟨by omega, hz, by rw [byN_extract s k (wEnd s k) 0 (by omega)]; rfl⟩
theorem not_empty {d : ByteArray} (h : 0 < d.size) : d.toList.isEmpty = false ∧ ¬ d.toList = [] := by
  have : d.toList.isEmpty = false := by
    rw [Lib.toList_data]
    cases h2 : d.data.toList with
    | nil => have := data_len d; rw [h2, List.length_nil] at this; omega
    | cons _ _ => rfl
  exact ⟨this, fun e => by rw [e] at this; cases this⟩
set_option maxHeartbeats 4000000 in
theorem lx_token_name (s : ByteArray) (k b : Nat) (w : World) (hk : k < s.size) (hs : s.size ≤ 140737488355328) (hX : Lx w b s k) (hc : isWrd (byN s k) = true) (hd : isDig (byN s k) = false) :
    Calls Tryz.prog 101 #[.pointer (some ⟨b, 0, none⟩)] w (TokEnds w s k) := by
  have hF := tok_first (rest s k) (by rw [rest_size]; omega)
  rw [first_rest s k (by omega)] at hF
  have hO : oneR s k = (⟨1, s.extract k (wEnd s k), 0, 0, k⟩, if 16 < wEnd s k - k then 3 else 0) := by
    unfold oneR
    rw [if_pos (show (isLet (byN s k) || isDig (byN s k)) = true from hc), if_neg (by rw [hd]; simp)]
  obtain ⟨w1, w2, w3⟩ := word_first s k hk hc
  have hE0 := Lib.hid hO
  clear hO
  have hb := wEnd_bounds s _ k rfl (by omega)
  have hE : Hid ((16 < (s.extract k (wEnd s k)).size → oneR s k = (⟨1, s.extract k (wEnd s k), 0, 0, k⟩, 3)) ∧ (¬ 16 < (s.extract k (wEnd s k)).size → oneR s k = (⟨1, s.extract k (wEnd s k), 0, 0, k⟩, 0))) := by
    refine ⟨fun h => ?_, fun h => ?_⟩
    · rw [hE0.out, if_pos (by omega)]
    · rw [hE0.out, if_neg (by omega)]
  have hz : (s.extract k (wEnd s k)).size ≤ 140737488355328 := by omega
  clear hE0 w2 hb
  generalize s.extract k (wEnd s k) = d at hF hE w1 w3 hz
  have hL := Lib.hid (lib_clone d hz)
  have e0 : byN d 0 = (d[0]).toNat := byN_at w1
  have d256 := (d[0]).toNat_lt
  generalize hcc : (d[0]).toNat = c at e0 d256
  have hG := Lib.hid (fun w => tok_digit c w d256)
  rw [show isDig c = false by rw [← e0, w3]; exact hd] at hG
  obtain ⟨q1, q2⟩ := not_empty w1
  have hF' := Lib.hid hF
  obtain ⟨W, hW, hB, hzz, ca, fa⟩ := box1 w #[.int .u8 0, .string ⟨#[]⟩, .int .i64 0, .int .u64 0, .int .u64 0, .int .i64 0] 60
  have hXW : Lx W b s k := hW ▸ hX.alloc _
  have c1 := hXW.c1
  rw [hW] at c1
  have hW' := Lib.hid hW
  have hB' := Lib.hid hB
  have hX' := Lib.hid hX
  have hXW' := Lib.hid hXW
  have hAt := Lib.hid (fun w h => lx_at s k b w (by omega) hs h)
  have hca := Lib.hid ca
  have hfa := Lib.hid fa
  have hWz : w.heap.size < W.heap.size := by omega
  clear hF w3 e0 hc hd hX hXW hB ca fa hzz hW
  go_enter Tryz.func101, Tryz.ntmps101
  go_wp2_with (first | (go_at_call 77; refine (hF'.out _).mono ?_; rintro e w' ⟨rfl, rfl⟩) | fail)
  rw [← hW'.out]
  clear c1 hW'
  refine (hL.out _).mono ?_
  rintro e w' ⟨rfl, x, rfl⟩
  go_wp2_with fail
  refine (hAt.out _ (hXW'.out.plus x)).mono ?_
  rintro e w' ⟨rfl, x2, rfl⟩
  rw [plus_plus]
  generalize (⟨x.blocks ++ x2.blocks, x2.draws⟩ : Ext) = x3
  have hVs : w.heap.size < (plus W x3).heap.size := Nat.lt_of_lt_of_le hWz (size_plus W x3)
  have hI := TInv.start (w := w) (l := [.int .u8 1, .string d, .int .i64 0, .int .u64 0, .int .u64 0, .int .i64 (k : Int)]) 60 (hB'.out.trans ((below_plus W x3).mono hB'.out.size)) hVs (fun i v hv => hca.out i _ hv x3) (hfa.out x3)
  have hI' := Lib.hid hI
  clear hI hWz hca hfa hXW'
  generalize plus W x3 = V at hI' hVs ⊢
  go_wp2_with fail
  refine abs_calls3 (T := TInv w V.heap.size [.int .u8 1, .string d, .int .i64 0, .int .u64 0, .int .u64 0, .int .i64 (k : Int)]) ?_ hI'.out
  clear hI'
  intro U hU
  refine (hG.out _).mono ?_
  rintro e w' ⟨rfl, rfl⟩
  have hU' := Lib.hid hU
  by_cases h16 : 16 < d.size
  · have hR := Lib.hid (hE.out.1 h16)
    have hQ := Lib.hid (lx_fault s k b 3 U (by decide) (by omega) hs (hU.mid hX'.out))
    have h16' : (16 : Int) < (d.size : Int) := by omega
    clear hU
    go_wp2_with fail
    refine hQ.out.mono ?_
    rintro e w' ⟨rfl, y, rfl⟩
    go_wp2
    refine ⟨rfl, fun h => absurd (by rw [hR.out] at h; exact h) (show ¬ (3 : Int) = 0 by decide), fun _ => ?_⟩
    rw [hR.out]
    exact ⟨rfl, plus_of_below (hU'.out.plus y).below⟩
  · have hR := Lib.hid (hE.out.2 h16)
    have t0 := hU.t 0 _ rfl
    have t1 := hU.t 1 _ rfl
    have t2 := hU.t 2 _ rfl
    have t3 := hU.t 3 _ rfl
    have t4 := hU.t 4 _ rfl
    have t5 := hU.t 5 _ rfl
    have fr := hU.fr
    obtain ⟨u0, r0⟩ := hU.r 0 (by decide)
    obtain ⟨u1, r1⟩ := hU.r 1 (by decide)
    obtain ⟨u2, r2⟩ := hU.r 2 (by decide)
    obtain ⟨u3, r3⟩ := hU.r 3 (by decide)
    obtain ⟨u4, r4⟩ := hU.r 4 (by decide)
    obtain ⟨u5, r5⟩ := hU.r 5 (by decide)
    clear hU
    go_wp2
    refine bodyPost_ret (v := tokV ⟨1, d, 0, 0, k⟩) ?_ rfl ⟨fun _ => ?_, fun h => absurd (by rw [hR.out]) h⟩
    · rw [tok_any]; simp [results, Tryz.results101, go_sem, r0, r1, r2, r3, r4, r5, hi, lo]
    · rw [hR.out]
      exact ⟨rfl, six_put hU'.out.below _ _ _ _ _ _⟩
end Go.Proofs.YtkffjjlmoojffaaGreatDoor
namespace Go.Proofs.YtkffjjlmoojffaaGreatDoor
open Go.RowKit
theorem lx_number (d t : ByteArray) (k b : Nat) (w : World) (hd : d.size ≤ 140737488355328) (h0 : isDig (byN d 0) = true) (hk : k ≤ t.size) (ht : t.size ≤ 140737488355328) (hX : Lx w b t k) (hE : Errs w) :
    Calls Tryz.prog 129 #[.pointer (some ⟨b, 0, none⟩), .string d] w (NumEnds w (numR d) (lineOf t k : Nat) (colOf t k : Nat)) := by
  cases h : wAt d with
  | none => exact lx_number_plain d t k b w hd h hk ht hX
  | some a =>
    obtain ⟨h1, h2, _⟩ := atB_lt (show atB d 119 = some a from h)
    refine lx_number_wide d t a k b w hd h ?_ h0 hk ht hX hE
    rcases Nat.eq_zero_or_pos a with rfl | h3
    · rw [h2] at h0; cases h0
    · exact h3
set_option maxHeartbeats 4000000 in
theorem lx_token_number (s : ByteArray) (k b : Nat) (w : World) (hk : k < s.size) (hs : s.size ≤ 140737488355328) (hX : Lx w b s k) (hR : Errs w) (hd : isDig (byN s k) = true) :
    Calls Tryz.prog 101 #[.pointer (some ⟨b, 0, none⟩)] w (TokEnds w s k) := by
  have hc : isWrd (byN s k) = true := by unfold isWrd; rw [hd]; simp
  have hF := tok_first (rest s k) (by rw [rest_size]; omega)
  rw [first_rest s k (by omega)] at hF
  have hO : oneR s k = (⟨2, s.extract k (wEnd s k), (numR (s.extract k (wEnd s k))).1, (numR (s.extract k (wEnd s k))).2.1, k⟩, (numR (s.extract k (wEnd s k))).2.2) := by
    unfold oneR
    rw [if_pos (show (isLet (byN s k) || isDig (byN s k)) = true from hc), if_pos hd]
  obtain ⟨w1, w2, w3⟩ := word_first s k hk hc
  have hb := wEnd_bounds s _ k rfl (by omega)
  have hz : (s.extract k (wEnd s k)).size ≤ 140737488355328 := by omega
  have hE := Lib.hid hO
  clear hO w2 hb
  generalize s.extract k (wEnd s k) = d at hF hE w1 w3 hz
  have hL := Lib.hid (lib_clone d hz)
  have e0 : byN d 0 = (d[0]).toNat := byN_at w1
  have hN := Lib.hid (fun w h1 h2 => lx_number d s k b w hz (by rw [w3]; exact hd) (by omega) hs h1 h2)
  have d256 := (d[0]).toNat_lt
  generalize hcc : (d[0]).toNat = c at e0 d256
  have hG := Lib.hid (fun w => tok_digit c w d256)
  rw [show isDig c = true by rw [← e0, w3]; exact hd] at hG
  obtain ⟨q1, q2⟩ := not_empty w1
  have hF' := Lib.hid hF
  obtain ⟨W, hW, hB, hzz, ca, fa⟩ := box1 w #[.int .u8 0, .string ⟨#[]⟩, .int .i64 0, .int .u64 0, .int .u64 0, .int .i64 0] 60
  have hXW : Lx W b s k := hW ▸ hX.alloc _
  have c1 := hXW.c1
  rw [hW] at c1
  have hW' := Lib.hid hW
  have hB' := Lib.hid hB
  have hX' := Lib.hid hX
  have hXW' := Lib.hid hXW
  have hAt := Lib.hid (fun w h => lx_at s k b w (by omega) hs h)
  have hca := Lib.hid ca
  have hfa := Lib.hid fa
  have hWz : w.heap.size < W.heap.size := by omega
  have hR' := Lib.hid hR
  obtain ⟨⟨W9, n9, E9⟩, h9⟩ : ∃ r, numR d = r := ⟨_, rfl⟩
  rw [h9] at hE hN
  clear hF w3 e0 hc hd hX hXW hB ca fa hzz hW hR h9
  go_enter Tryz.func101, Tryz.ntmps101
  go_wp2_with (first | (go_at_call 77; refine (hF'.out _).mono ?_; rintro e w' ⟨rfl, rfl⟩) | fail)
  rw [← hW'.out]
  clear c1 hW'
  refine (hL.out _).mono ?_
  rintro e w' ⟨rfl, x, rfl⟩
  go_wp2_with fail
  refine (hAt.out _ (hXW'.out.plus x)).mono ?_
  rintro e w' ⟨rfl, x2, rfl⟩
  rw [plus_plus]
  generalize (⟨x.blocks ++ x2.blocks, x2.draws⟩ : Ext) = x3
  have hVs : w.heap.size < (plus W x3).heap.size := Nat.lt_of_lt_of_le hWz (size_plus W x3)
  have hI := TInv.start (w := w) (l := [.int .u8 1, .string d, .int .i64 0, .int .u64 0, .int .u64 0, .int .i64 (k : Int)]) 60 (hB'.out.trans ((below_plus W x3).mono hB'.out.size)) hVs (fun i v hv => hca.out i _ hv x3) (hfa.out x3)
  have hI' := Lib.hid hI
  clear hI hWz hca hfa hXW'
  generalize plus W x3 = V at hI' hVs ⊢
  go_wp2_with fail
  refine abs_calls3 (T := TInv w V.heap.size [.int .u8 1, .string d, .int .i64 0, .int .u64 0, .int .u64 0, .int .i64 (k : Int)]) ?_ hI'.out
  clear hI'
  intro U hU
  refine (hG.out _).mono ?_
  rintro e w' ⟨rfl, rfl⟩
  have t0 := hU.t 0 _ rfl
  have ft := hU.ft
  have hU2 := hU.put 0 (.int .u8 2)
  simp only [List.set] at hU2
  have hU' := Lib.hid hU2
  clear hU hU2
  go_wp2_with fail
  refine abs_calls3 (T := TInv w V.heap.size [.int .u8 2, .string d, .int .i64 0, .int .u64 0, .int .u64 0, .int .i64 (k : Int)]) ?_ hU'.out
  clear hU' t0 ft
  intro Y hY
  refine (hN.out _ (hY.mid hX'.out) (hY.er hR'.out)).mono ?_
  intro e w' hne
  have hY' := Lib.hid hY
  clear hY
  by_cases h0 : E9 = 0
  · subst h0
    obtain ⟨rfl, x, rfl⟩ := hne.1 rfl
    have hZ := hY'.out.plus x
    clear hne hY'
    generalize plus Y x = Z at hZ ⊢
    have t0 := hZ.t 0 _ rfl
    have t1 := hZ.t 1 _ rfl
    have t2 := hZ.t 2 _ rfl
    have t3 := hZ.t 3 _ rfl
    have t4 := hZ.t 4 _ rfl
    have t5 := hZ.t 5 _ rfl
    have ft := hZ.ft
    have fr := hZ.fr
    obtain ⟨u0, r0⟩ := hZ.r 0 (by decide)
    obtain ⟨u1, r1⟩ := hZ.r 1 (by decide)
    obtain ⟨u2, r2⟩ := hZ.r 2 (by decide)
    obtain ⟨u3, r3⟩ := hZ.r 3 (by decide)
    obtain ⟨u4, r4⟩ := hZ.r 4 (by decide)
    obtain ⟨u5, r5⟩ := hZ.r 5 (by decide)
    have hne2 : ¬ V.heap.size = w.heap.size := by omega
    have hne3 : ¬ w.heap.size = V.heap.size := by omega
    have hZ' := Lib.hid (((hZ.put 2 (.int .i64 W9)).put 3 (.int .u64 (hi n9))).put 4 (.int .u64 (lo n9)))
    clear hZ
    go_wp2
    refine bodyPost_ret (v := tokV ⟨2, d, W9, n9, k⟩) ?_ rfl ⟨fun _ => ?_, fun h => absurd (by rw [hE.out]) h⟩
    · rw [tok_any]; simp [results, Tryz.results101, go_sem, r0, r1, r2, r3, r4, r5]
    · rw [hE.out]
      exact ⟨rfl, six_put hZ'.out.below _ _ _ _ _ _⟩
  · obtain ⟨rfl, x, rfl⟩ := hne.2 h0
    have h0' := Lib.hid h0
    clear hne h0
    go_wp2
    refine ⟨rfl, fun h => absurd (by rw [hE.out] at h; exact h) h0'.out, fun _ => ?_⟩
    rw [hE.out]
    exact ⟨rfl, plus_of_below (hY'.out.plus x).below⟩
theorem lx_token (s : ByteArray) (k b : Nat) (w : World) (hk : k < s.size) (hs : s.size ≤ 140737488355328) (hX : Lx w b s k) (hR : Errs w) (hM : Marks w) :
    Calls Tryz.prog 101 #[.pointer (some ⟨b, 0, none⟩)] w (TokEnds w s k) := by
  cases hc : isWrd (byN s k) with
  | false => exact lx_token_mark s k b w hk hs hX hM hc
  | true =>
    cases hd : isDig (byN s k) with
    | true => exact lx_token_number s k b w hk hs hX hR hd
    | false => exact lx_token_name s k b w hk hs hX hc hd
end Go.Proofs.YtkffjjlmoojffaaGreatDoor
namespace Go.Proofs.YtkffjjlmoojffaaGreatDoor
open Go.RowKit
structure Std (w : World) : Prop where
  errs : Errs w
  marks : Marks w
theorem Std.plus {w : World} (h : Std w) (x : Ext) : Std (plus w x) := ⟨h.errs.plus x, h.marks.plus x⟩
theorem Std.below {w w' : World} (h : Std w) (hB : Below w.heap.size w w') : Std w' := by obtain ⟨x, rfl⟩ := plus_of_below hB; exact h.plus x
theorem grown_cell {w w' : World} {b c : Nat} (h : w.grownBy w' (some b)) (o : Nat) (hc : c < w.heap.size) (hne : c ≠ b) : w'.cell? ⟨c, o, none⟩ = w.cell? ⟨c, o, none⟩ := World.cell?_of_block (a := ⟨c, o, none⟩) (h.block c hc (fun e => hne (Option.some.inj e)))
theorem Std.grown {w w' : World} {b : Nat} (h : Std w) (hg : w.grownBy w' (some b)) (h3 : 7 < b ∧ 8 < b ∧ 1 < b) : Std w' := by
  obtain ⟨te, pe, hs⟩ := h.errs.es
  obtain ⟨te2, pe2, hr⟩ := h.errs.er
  exact ⟨⟨⟨te, pe, (grown_cell hg 0 (cell_lt hs) (by omega)).trans hs⟩, te2, pe2, (grown_cell hg 0 (cell_lt hr) (by omega)).trans hr⟩, fun k hk => (grown_cell hg k (cell_lt (h.marks k hk)) (by omega)).trans (h.marks k hk)⟩
structure YInv (w : World) (b : Nat) (s : ByteArray) (a : Nat) (acc : List Tok) (v : Value) (wr : World) : Prop where
  gr : w.grownBy wr (some b)
  lx : Lx wr b s a
  own : wr.ownsRow w.heap.size 60 6 v acc.length (acc.flatMap tokL)
theorem own_block {w : World} {base : Nat} {e : TypeId} {size : Nat} {v : Value} {n : Nat} {xs : List Value} (h : w.ownsRow base e size v n xs) (b : Nat) (hb : b < base) : v.ownBlock = none ∨ v.ownBlock ≠ some b := by
  cases hv : v.ownBlock with
  | none => exact .inl rfl
  | some g => right; intro e; have := (h.lt g hv).1; have := Option.some.inj e; omega
theorem YInv.plus {w wr : World} {b : Nat} {s : ByteArray} {a : Nat} {acc : List Tok} {v : Value} (h : YInv w b s a acc v wr) (x : Ext) : YInv w b s a acc v (plus wr x) :=
  ⟨grown_trans h.gr (grown_plus_any _ _ _), h.lx.plus x, owns_plus h.own x⟩
theorem grown_alloc (w : World) (o : Obj) (row : Option Nat) : w.grownBy (w.alloc o) row := by
  have hB : Below w.heap.size w (w.alloc o) := (Below.refl _ _).alloc (Nat.le_refl _) o
  obtain ⟨x, hx⟩ := plus_of_below hB
  rw [hx]
  exact grown_plus_any w x row
theorem YInv.alloc {w wr : World} {b : Nat} {s : ByteArray} {a : Nat} {acc : List Tok} {v : Value} (h : YInv w b s a acc v wr) (o : Obj) : YInv w b s a acc v (wr.alloc o) :=
  ⟨grown_trans h.gr (grown_alloc _ _ _), h.lx.alloc o, h.own.alloc o⟩
theorem YInv.skip {w wr w2 : World} {b : Nat} {s : ByteArray} {a a2 : Nat} {acc : List Tok} {v : Value} (h : YInv w b s a acc v wr) (hb : b < w.heap.size) (hX : Lx w2 b s a2) (hg : wr.grownBy w2 (some b)) : YInv w b s a2 acc v w2 :=
  ⟨grown_trans h.gr hg, hX, h.own.kept hg (own_block h.own b hb)⟩
theorem YInv.put {w wr : World} {b : Nat} {s : ByteArray} {a : Nat} {acc : List Tok} {v : Value} (h : YInv w b s a acc v wr) (hb : b < w.heap.size) (a2 : Nat) : YInv w b s a2 acc v (wr.setCell ⟨b, 1, none⟩ (.string (rest s a2))) :=
  h.skip hb (h.lx.put a2) (grown_put _ _ _ _)
theorem YInv.grown {w wr w1 : World} {b : Nat} {s : ByteArray} {a : Nat} {acc : List Tok} {v v' : Value} {t : Tok} (h : YInv w b s a acc v wr) (hb : b < w.heap.size) (ho : w1.ownsRow w.heap.size 60 6 v' (acc.length + 1) (acc.flatMap tokL ++ tokL t)) (hg : wr.grownBy w1 v.ownBlock) : YInv w b s a (acc ++ [t]) v' w1 := by
  have hne : some b ≠ v.ownBlock := by
    rcases own_block h.own b hb with e | e
    · rw [e]; simp
    · exact fun x => e x.symm
  have hbl := hg.block b h.lx.lt hne
  refine ⟨⟨hg.os.trans h.gr.os, hg.tape.trans h.gr.tape, hg.output.trans h.gr.output, Nat.le_trans h.gr.size hg.size, fun j hj hj2 => (hg.block j (Nat.lt_of_lt_of_le hj h.gr.size) (fun e => by have := (h.own.lt j e.symm).1; omega)).trans (h.gr.block j hj hj2)⟩, ⟨Nat.lt_of_lt_of_le h.lx.lt hg.size, (World.cell?_of_block (a := ⟨b, 0, none⟩) hbl).trans h.lx.c0, (World.cell?_of_block (a := ⟨b, 1, none⟩) hbl).trans h.lx.c1, fun o => (World.frozen?_of_block (a := ⟨b, o, none⟩) hbl).trans (h.lx.fz o)⟩, ?_⟩
  simpa using ho
def ToksEnd (w : World) (b : Nat) (s : ByteArray) (r : List Tok × Nat × Int) (e : Ending) (w' : World) : Prop := w.grownBy w' (some b) ∧
  (r.2.2 = 0 → ∃ v, e = .returned v ∧ w'.ownsRow w.heap.size 60 6 v r.1.length (r.1.flatMap tokL)) ∧ (¬ r.2.2 = 0 → e = gaveUp r.2.2 (lineOf s r.2.1 : Nat) (colOf s r.2.1 : Nat))
theorem rest_test {s : ByteArray} {a : Nat} (h : a < s.size) : (rest s a).toList.isEmpty = false ∧ ¬ (rest s a).toList = [] := not_empty (by rw [rest_size]; omega)
theorem rest_none {s : ByteArray} {a : Nat} (h : ¬ a < s.size) : rest s a = ⟨#[]⟩ := rest_end s a (by omega)
set_option maxHeartbeats 8000000 in
theorem lx_tokens (s : ByteArray) (b : Nat) (w : World) (hs : s.size ≤ 140737488355328) (hX : Lx w b s 0) (hS : Std w) (h3 : 7 < b ∧ 8 < b ∧ 1 < b) :
    Calls Tryz.prog 85 #[.pointer (some ⟨b, 0, none⟩)] w (ToksEnd w b s (lexR s)) := by
  by_cases hbig : 65536 < s.size
  · have hR : Hid (lexR s = ([], 0, 3)) := by show _ = _; unfold lexR; rw [if_pos hbig]
    have hF := Lib.hid (lx_fault s 0 b 3 w (by decide) (Nat.zero_le _) hs hX)
    have c0 := hX.c0
    clear hX hS h3
    go_enter Tryz.func85, Tryz.ntmps85
    go_wp2_with fail
    refine hF.out.mono ?_
    rintro e w' ⟨rfl, x, rfl⟩
    go_wp2
    refine ⟨rfl, grown_plus_any _ _ _, fun h => absurd (by rw [hR.out] at h; exact h) (show ¬ (3 : Int) = 0 by decide), fun _ => by rw [hR.out]⟩
  · obtain ⟨RES, hRES⟩ : ∃ RES, lexR s = RES := ⟨_, rfl⟩
    have hL : lexN s s.size (skipN s 0) [] = RES := by rw [← hRES]; unfold lexR; rw [if_neg hbig]
    rw [hRES]
    have hsk := skip_bounds s _ 0 (Nat.le_refl _) (Nat.zero_le _)
    have hS0 := Lib.hid (lx_skip s 0 b w (Nat.zero_le _) hs hX)
    generalize skipN s 0 = a0 at hL hsk hS0
    have hL' := Lib.hid hL
    have c0 := hX.c0
    have hblt := hX.lt
    have hS' := Lib.hid hS
    have hStd : Hid (∀ wr, w.grownBy wr (some b) → Std wr) := fun wr hg => hS.grown hg h3
    clear hRES hL hX hS h3
    go_enter Tryz.func85, Tryz.ntmps85
    go_wp2_with fail
    refine hS0.out.mono ?_
    rintro e W ⟨rfl, hXW, hgW⟩
    have hY0 : Hid (YInv w b s a0 [] (.slice none 0 0) W) := ⟨hgW, hXW, World.ownsRow_nil _ _ _ _⟩
    clear hXW hgW c0 hS0
    go_wp2
    go_loopw [3] (fun ov wr => ∃ (a f : Nat) (acc : List Tok), a ≤ s.size ∧ s.size ≤ a + f ∧ acc.length ≤ a ∧ lexN s f a acc = RES ∧ YInv w b s a acc ov wr) (fun _ wr => restLen wr b)
    case atStart => exact ⟨a0, s.size, [], hsk.2, by omega, Nat.zero_le _, hL'.out, hY0.out⟩
    case round =>
      obtain ⟨a, f, acc, ha, haf, hacc, hres, hY⟩ := hrel
      clear hL' hY0
      have hY' := Lib.hid hY
      have c1 := hY.lx.c1
      have hmeas := Lib.hid (restLen_of hY.lx)
      by_cases hlt : a < s.size
      · obtain ⟨f, rfl⟩ : ∃ g, f = g + 1 := ⟨f - 1, by omega⟩
        have hO := lx_token s a b _ hlt hs hY.lx (hStd.out _ hY.gr).errs (hStd.out _ hY.gr).marks
        have hsz := oneR_size s a hlt
        have hgo := lexN_go (s := s) (a := a) (f := f) (acc := acc) hlt
        have hbd := lexN_bad (s := s) (a := a) (f := f) (acc := acc) hlt
        obtain ⟨q1, q2⟩ := rest_test hlt
        unfold TokEnds at hO
        generalize oneR s a = r at hO hsz hgo hbd
        obtain ⟨t, E⟩ := r
        simp only at hO hsz hgo hbd
        have hO' := Lib.hid hO
        have hov := Lib.hid hY.own.lt
        clear hO hY
        go_wp2_with fail
        refine hO'.out.mono ?_
        intro e w' hme
        by_cases hE : E = 0
        · subst hE
          obtain ⟨hz1, hz2⟩ := hsz rfl
          have hgo2 := Lib.hid ((hgo rfl).symm.trans hres)
          obtain ⟨rfl, x, rfl⟩ := hme.1 rfl
          clear hme hgo hbd hsz hres
          have hY2 := hY'.out.plus x
          have hYlt : wr.heap.size ≤ (Go.Proofs.YtkffjjlmoojffaaGreatDoor.plus wr x).heap.size := size_plus wr x
          have hmeas2 := Lib.hid hmeas
          clear c1 hmeas hO'
          generalize Go.Proofs.YtkffjjlmoojffaaGreatDoor.plus wr x = V at hY2 hYlt ⊢
          have hY3 := (hY2.alloc (.cells (tokL t).toArray 60)).alloc (.cells (tokL t).toArray 60)
          have hcells : ∀ j u, (tokL t)[j]? = some u → ((V.alloc (.cells (tokL t).toArray 60)).alloc (.cells (tokL t).toArray 60)).cell? ((⟨V.heap.size + 1, 0, none⟩ : Addr).add j) = some u := fun j u hj => by
            rw [Addr.add_lit, Nat.zero_add, cell_new _ _ _ _ _ (by simp)]
            simpa using hj
          have h1c : ∀ u ∈ tokL t, u.oneCell' = true := by
            intro u hu
            unfold tokL at hu
            simp only [List.mem_cons, List.not_mem_nil, or_false] at hu
            rcases hu with rfl | rfl | rfl | rfl | rfl | rfl <;> rfl
          have hblV : b < V.heap.size := hY2.lx.lt
          have hVb : w.heap.size ≤ V.heap.size := hY2.gr.size
          have hY3' := Lib.hid hY3
          have hcells' := Lib.hid hcells
          have h1c' := Lib.hid h1c
          have hown0 := Lib.hid hY2.own.lt
          clear hY2 hY' hY3 hcells h1c hov
          rw [show tokV t = .agg #[.int .u8 (t.kind : Int), .string t.s, .int .i64 t.w, .int .u64 (hi t.n), .int .u64 (lo t.n), .int .i64 (t.at_ : Int)] from rfl]
          obtain ⟨i0, hi, hz01, hz02, hz03⟩ := info_parts tok_info
          go_wp2_with (at_builtin; refine wpList_append_own _ rfl _ _ 49 rfl w.heap.size 60 i0 _ 6 56 Tryz.underlying49 hi hz01 hz02 hz03 rfl (by decide) _ _ _ rfl hY3'.out.own ⟨V.heap.size + 1, 0, none⟩ 1 1 (tokL t) rfl rfl hcells'.out h1c'.out (by unfold maxLen; omega) (by omega) (by simp; omega) ?_)
          intro v' w1 hown hgrow _
          have hY4 := hY3'.out.grown (t := t) hblt hown hgrow
          have hts : w1.cell? ⟨V.heap.size, 1, none⟩ = some (.string t.s) := hgrow.cell ((cell_old _ _ V.heap.size 1 (by simp)).trans (cell_new V _ _ _ 1 rfl)) (fun e => by have := (hown0.out _ e.symm).2; simp at this)
          have hVlt : V.heap.size < w1.heap.size := by have := hgrow.size; simp at this; omega
          have k1 := plus_cell hY4.lx.lt hY4.lx.c1
          have kf := plus_frozen hY4.lx.lt hY4.lx.fz
          have kt := plus_cell hVlt hts
          have hr := rest_size s a
          have hlen : (t.s.size : Int) ≤ ((rest s a).size : Int) := by omega
          have hS5 := Lib.hid (fun w2 hX => lx_skip s (a + t.s.size) b w2 hz2 hs hX)
          have hsb := skip_bounds s _ (a + t.s.size) (Nat.le_refl _) hz2
          have hrr : Hid ((rest s a).extract t.s.size (s.size - a) = rest s (a + t.s.size)) := by show _ = _; rw [← rest_rest s a t.s.size, ← rest_size s a]
          have hY5 := Lib.hid hY4
          generalize skipN s (a + t.s.size) = a2 at hS5 hsb hgo2
          have hr2 := Lib.hid hr
          clear hown hgrow hi hz01 hz02 hz03 hY4 hts hVlt hY3' hcells' h1c' hown0 hr
          go_wp2
          refine wp_region_own_tail0 11 (by kernel_rfl) (by kernel_rfl) ?_
          simp only [List.take_succ_cons, List.take_zero, List.drop_succ_cons, List.drop_zero]
          repeat (go_big_quiet_step (fail))
          refine wpQuiet_nil ?_
          rintro _ ⟨y9, rfl⟩
          go_wp2_with fail
          rw [hrr.out]
          refine (hS5.out _ ((hY5.out.plus y9).put hblt _).lx).mono ?_
          rintro e w2 ⟨rfl, hX6, hg6⟩
          have hY6 := Lib.hid (((hY5.out.plus y9).put hblt (a + t.s.size)).skip hblt hX6 hg6)
          have hm6 := Lib.hid (restLen_of hX6)
          clear hX6 hg6 k1 kf kt
          go_wp2
          go_roundw
          case rel => exact ⟨a2, f, acc ++ [t], hsb.2, by omega, by simp; omega, hgo2.out, hY6.out⟩
          case measure => rw [hm6.out, hmeas2.out]; omega
        · have hbd2 := Lib.hid ((hbd hE).symm.trans hres)
          obtain ⟨rfl, x, rfl⟩ := hme.2 hE
          have hE' := Lib.hid hE
          clear hme hgo hbd hsz hres hE
          go_wp2
          refine ⟨rfl, grown_trans hY'.out.gr (grown_plus_any _ _ _), fun h => absurd (by rw [← hbd2.out] at h; exact h) hE'.out, fun _ => by rw [← hbd2.out]⟩
      · have hend := Lib.hid ((lexN_end (s := s) (a := a) hlt f acc).symm.trans hres)
        have hrn := rest_none hlt
        rw [hrn] at c1
        have hAt := Lib.hid (lx_at s a b wr ha hs hY.lx)
        have hae : a = s.size := by omega
        subst hae
        clear hY hres hrn
        go_wp2_with fail
        refine hAt.out.mono ?_
        rintro e w' ⟨rfl, x, rfl⟩
        have hY2 := hY'.out.plus x
        clear c1 hY' hAt
        generalize Go.Proofs.YtkffjjlmoojffaaGreatDoor.plus wr x = V at hY2 ⊢
        have hY3 := hY2.alloc (.cells (tokL (endTok s)).toArray 60)
        have hcells : ∀ j u, (tokL (endTok s))[j]? = some u → (V.alloc (.cells (tokL (endTok s)).toArray 60)).cell? ((⟨V.heap.size, 0, none⟩ : Addr).add j) = some u := fun j u hj => by
          rw [Addr.add_lit, Nat.zero_add, cell_new _ _ _ _ _ rfl]
          simpa using hj
        have h1c : ∀ u ∈ tokL (endTok s), u.oneCell' = true := by
          intro u hu
          unfold tokL at hu
          simp only [List.mem_cons, List.not_mem_nil, or_false] at hu
          rcases hu with rfl | rfl | rfl | rfl | rfl | rfl <;> rfl
        have hVb : w.heap.size ≤ V.heap.size := hY2.gr.size
        have hL0 := tokL_end s
        rw [hL0] at hY3 hcells h1c
        have hL0' := Lib.hid hL0
        clear hL0 hY2
        have hY3' := Lib.hid hY3
        have hcells' := Lib.hid hcells
        have h1c' := Lib.hid h1c
        clear hY3 hcells h1c
        obtain ⟨i0, hi, hz01, hz02, hz03⟩ := info_parts tok_info
        go_wp2_with (at_builtin; refine wpList_append_own _ rfl _ _ 49 rfl w.heap.size 60 i0 _ 6 56 Tryz.underlying49 hi hz01 hz02 hz03 rfl (by decide) _ _ _ rfl hY3'.out.own ⟨V.heap.size, 0, none⟩ 1 1 [.int .u8 0, .string ⟨#[]⟩, .int .i64 0, .int .u64 0, .int .u64 0, .int .i64 (s.size : Int)] rfl rfl hcells'.out h1c'.out (by unfold maxLen; omega) (by omega) (by simp; omega) ?_)
        intro v' w1 hown hgrow _
        rw [← hL0'.out] at hown
        have hY4 := Lib.hid (hY3'.out.grown (t := endTok s) hblt hown hgrow)
        clear hown hgrow hi hz01 hz02 hz03 hY3' hcells' h1c'
        go_wp2
        go_ret
        refine ⟨hY4.out.gr, fun _ => ⟨v', rfl, ?_⟩, fun h => absurd (by rw [← hend.out]) h⟩
        rw [← hend.out]
        exact hY4.out.own
end Go.Proofs.YtkffjjlmoojffaaGreatDoor
namespace Go.Proofs.YtkffjjlmoojffaaGreatDoor
open Go.RowKit
theorem assert_fault (v : Value) (w : World) : (Instr.typeAssert (.iface 32 v) 20 32 true).run Tryz.prog w = .ok (.tuple #[v, .bool true]) w := by
  simp [Instr.typeAssert, run_underlying Tryz.underlying32, go_sem]
theorem assert_nil (w : World) : (Instr.typeAssert .nilIface 20 32 true).run Tryz.prog w = .ok (.tuple #[fv 0 0 0, .bool false]) w := by
  simp [Instr.typeAssert, run_underlying Tryz.underlying32, go_sem]
theorem frame11 (p q x t f d b : Value) : (#[p, q] ++ (((((((Array.replicate 9 undef).setIfInBounds 3 x).setIfInBounds 4 t).setIfInBounds 2 t).setIfInBounds 5 f).setIfInBounds 6 b).setIfInBounds 0 d).setIfInBounds 1 b : Array Value) = #[p, q, d, b, t, x, t, f, b, undef, undef] := by
  simp [Array.replicate]
def Caught (w : World) (n : Nat) (E l c : Int) (older : List PanicEntry) (e : Ending) (u' : FrameMode) (w' : World) : Prop :=
  e = .returned (.tuple #[]) ∧ u' = .panicking ({ v := .iface 32 (fv E l c), recovered := true } :: older) ∧ Below n w w' ∧ w'.cell? ⟨n, 0, none⟩ = some (.slice none 0 0) ∧ w'.cell? ⟨n + 1, 0, none⟩ = some (.int .i64 E) ∧ w'.cell? ⟨n + 1, 1, none⟩ = some (.int .i64 l) ∧ w'.cell? ⟨n + 1, 2, none⟩ = some (.int .i64 c)
theorem below_drew {n : Nat} {w X : World} (h : Below n w X) : Below n w X.drew := by
  obtain ⟨h1, h2, h3, h4, h5⟩ := h
  exact ⟨h1, h2, h3, h4, h5⟩
theorem cell_drew (X : World) (a : Addr) : X.drew.cell? a = X.cell? a := rfl
theorem caught_of {n : Nat} {E l c : Int} {older : List PanicEntry} {w V : World} {u v0 v1 v2 : Value} (hB : Below n w V) (k0 : V.cell? ⟨n, 0, none⟩ = some u) (q0 : V.cell? ⟨n + 1, 0, none⟩ = some v0) (q1 : V.cell? ⟨n + 1, 1, none⟩ = some v1) (q2 : V.cell? ⟨n + 1, 2, none⟩ = some v2) :
    Caught w n E l c older (.returned (.tuple #[])) (.panicking ({ v := .iface 32 (fv E l c), recovered := true } :: older)) ((((V.setCell ⟨n, 0, none⟩ (.slice none 0 0)).setCell ⟨n + 1, 0, none⟩ (.int .i64 E)).setCell ⟨n + 1, 1, none⟩ (.int .i64 l)).setCell ⟨n + 1, 2, none⟩ (.int .i64 c)).drew := by
  refine ⟨rfl, rfl, below_drew ((((hB.setCell (p := ⟨n, _, none⟩) (Nat.le_refl _) _).setCell (p := ⟨n + 1, _, none⟩) (Nat.le_succ _) _).setCell (p := ⟨n + 1, _, none⟩) (Nat.le_succ _) _).setCell (p := ⟨n + 1, _, none⟩) (Nat.le_succ _) _), ?_, ?_, ?_, ?_⟩
  · rw [cell_drew, World.cell?_setCell_other _ _ _ _ (by simp), World.cell?_setCell_other _ _ _ _ (by simp), World.cell?_setCell_other _ _ _ _ (by simp)]
    exact World.cell?_setCell_same _ _ _ k0
  · rw [cell_drew, World.cell?_setCell_other _ _ _ _ (by simp), World.cell?_setCell_other _ _ _ _ (by simp)]
    exact World.cell?_setCell_same _ _ _ (u := v0) (by rw [World.cell?_setCell_other _ _ _ _ (by simp)]; exact q0)
  · rw [cell_drew, World.cell?_setCell_other _ _ _ _ (by simp)]
    exact World.cell?_setCell_same _ _ _ (u := v1) (by rw [World.cell?_setCell_other _ _ _ _ (by simp), World.cell?_setCell_other _ _ _ _ (by simp)]; exact q1)
  · rw [cell_drew]
    exact World.cell?_setCell_same _ _ _ (u := v2) (by rw [World.cell?_setCell_other _ _ _ _ (by simp), World.cell?_setCell_other _ _ _ _ (by simp), World.cell?_setCell_other _ _ _ _ (by simp)]; exact q2)
set_option maxHeartbeats 4000000 in
theorem catch_fault (n : Nat) (E l c : Int) (older : List PanicEntry) (w : World) (u v0 v1 v2 : Value) (hn : n + 1 < w.heap.size) (hp : w.cell? ⟨n, 0, none⟩ = some u) (h0 : w.cell? ⟨n + 1, 0, none⟩ = some v0) (h1 : w.cell? ⟨n + 1, 1, none⟩ = some v1) (h2 : w.cell? ⟨n + 1, 2, none⟩ = some v2) (fp : ∀ o, w.frozen? ⟨n, o, none⟩ = false) (fq : ∀ o, w.frozen? ⟨n + 1, o, none⟩ = false) :
    CallsD Tryz.prog 84 #[.pointer (some ⟨n, 0, none⟩), .pointer (some ⟨n + 1, 0, none⟩)] (.panicking ({ v := .iface 32 (fv E l c), recovered := false } :: older)) w (Caught w n E l c older) := by
  have hta := assert_fault (fv E l c)
  refine callsD_of_wpS Tryz.func84 rfl fun c₀ cs hu => ?_
  apply wpS_seq
  apply wpS_region
  simp [wpOpsS, go_sem, recoverD, hu, Tryz.ntmps84, Exit.thenS, hta]
  refine wpS_of_wp ?_
  rw [frame11]
  obtain ⟨V, hV⟩ : ∃ V, V = w.alloc (.cells #[.int .i64 E, .int .i64 l, .int .i64 c] 32) := ⟨_, rfl⟩
  have old : ∀ (m o : Nat) (x : Value), m < w.heap.size → w.cell? ⟨m, o, none⟩ = some x → V.cell? ⟨m, o, none⟩ = some x := fun m o x hm hx => by rw [hV]; exact (cell_old w _ m o hm).trans hx
  have k0 := old n 0 u (by omega) hp
  have q0 := old (n + 1) 0 v0 hn h0
  have q1 := old (n + 1) 1 v1 hn h1
  have q2 := old (n + 1) 2 v2 hn h2
  have g0 : V.cell? ⟨w.heap.size, 0, none⟩ = some (.int .i64 E) := by rw [hV]; exact cell_new w _ _ _ 0 rfl
  have g1 : V.cell? ⟨w.heap.size, 1, none⟩ = some (.int .i64 l) := by rw [hV]; exact cell_new w _ _ _ 1 rfl
  have g2 : V.cell? ⟨w.heap.size, 2, none⟩ = some (.int .i64 c) := by rw [hV]; exact cell_new w _ _ _ 2 rfl
  have f0 : ∀ o, V.frozen? ⟨n, o, none⟩ = false := fun o => by rw [hV]; exact (frozen_old w _ n o (by omega)).trans (fp o)
  have f1 : ∀ o, V.frozen? ⟨n + 1, o, none⟩ = false := fun o => by rw [hV]; exact (frozen_old w _ (n + 1) o hn).trans (fq o)
  have hB : Hid (Below n w V) := by show Below _ _ _; rw [hV]; exact (Below.refl _ w).alloc (by omega) _
  have n1 : ¬ w.heap.size = n := by omega
  have n2 : ¬ w.heap.size = n + 1 := by omega
  have n3 : ¬ n = w.heap.size := by omega
  have n4 : ¬ n + 1 = w.heap.size := by omega
  rw [← hV]
  clear hV old hp h0 h1 h2 fp fq hta hn
  generalize w.heap.size = N at *
  go_wp2
  go_region
  go_wp2
  simp only [bodyPostS]
  exact ⟨trivial, _, rfl, _, results_none rfl _ _ _, caught_of hB.out k0 q0 q1 q2⟩
set_option maxHeartbeats 4000000 in
theorem catch_none (n : Nat) (w : World) :
    CallsD Tryz.prog 84 #[.pointer (some ⟨n, 0, none⟩), .pointer (some ⟨n + 1, 0, none⟩)] .returning w fun e u' w' => e = .returned (.tuple #[]) ∧ u' = .returning ∧ ∃ x, w' = plus w x := by
  have hta := assert_nil
  refine callsD_of_wpS Tryz.func84 rfl fun c₀ cs hu => ?_
  apply wpS_seq
  apply wpS_region
  simp [wpOpsS, go_sem, recoverD, hu, Tryz.ntmps84, Exit.thenS, hta]
  refine wpS_of_wp ?_
  rw [frame11]
  have hB : ∃ x, w.alloc (.cells #[.int .i64 0, .int .i64 0, .int .i64 0] 32) = plus w x := plus_of_below ((Below.refl _ w).alloc (Nat.le_refl _) _)
  obtain ⟨x, hx⟩ := hB
  have hx' := Lib.hid hx
  rw [hx]
  clear hx
  go_wp2
  simp only [bodyPostS]
  cases c₀
  simp only at hu
  subst hu
  exact ⟨trivial, _, rfl, _, results_none rfl _ _ _, rfl, rfl, x, rfl⟩
structure LInv3 (w : World) (s : ByteArray) (W : World) : Prop where
  below : Below w.heap.size w W
  size : w.heap.size + 1 + 1 + 1 ≤ W.heap.size
  r0 : W.cell? ⟨w.heap.size, 0, none⟩ = some (.slice none 0 0)
  q0 : W.cell? ⟨w.heap.size + 1, 0, none⟩ = some (.int .i64 0)
  q1 : W.cell? ⟨w.heap.size + 1, 1, none⟩ = some (.int .i64 0)
  q2 : W.cell? ⟨w.heap.size + 1, 2, none⟩ = some (.int .i64 0)
  fr : ∀ o, W.frozen? ⟨w.heap.size, o, none⟩ = false
  fq : ∀ o, W.frozen? ⟨w.heap.size + 1, o, none⟩ = false
  lx : Lx W (w.heap.size + 1 + 1) s 0
theorem LInv3.start (w : World) (s : ByteArray) (T U V : TypeId) : LInv3 w s (((w.alloc (.cells #[.slice none 0 0] T)).alloc (.cells #[.int .i64 0, .int .i64 0, .int .i64 0] U)).alloc (.cells #[.string s, .string s] V)) := by
  obtain ⟨W, hW, hB, hz, ca, cb, cc, fa, fb, fc⟩ := box3 w #[.slice none 0 0] #[.int .i64 0, .int .i64 0, .int .i64 0] #[.string s, .string s] T U V
  rw [← hW, ← plus_self W]
  refine ⟨hB.trans ((below_plus W _).mono hB.size), Nat.le_trans (by omega) (size_plus W _), ca 0 _ rfl _, cb 0 _ rfl _, cb 1 _ rfl _, cb 2 _ rfl _, fa _, fb _, Nat.lt_of_lt_of_le (by omega) (size_plus W _), cc 0 _ rfl _, ?_, fc _⟩
  rw [rest_zero]
  exact cc 1 _ rfl _
theorem own_base {w : World} {base base' : Nat} {e : TypeId} {size : Nat} {v : Value} {n : Nat} {xs : List Value} (h : w.ownsRow base e size v n xs) (hb : base' ≤ base) : w.ownsRow base' e size v n xs := by
  obtain ⟨hl, h2⟩ := h
  refine ⟨hl, ?_⟩
  rcases h2 with h2 | ⟨g, cap, cur, hv, hg, hr⟩
  · exact .inl h2
  · exact .inr ⟨g, cap, cur, hv, Nat.le_trans hb hg, hr⟩
def LexEnds (w : World) (s : ByteArray) (r : List Tok × Nat × Int) (e : Ending) (w' : World) : Prop := ∃ v, e = .returned (.tuple #[v, faultOf s r]) ∧ w'.ownsRow w.heap.size 60 6 v r.1.length (r.1.flatMap tokL) ∧ Below w.heap.size w w'
theorem lexR_none (s : ByteArray) (h : ¬ (lexR s).2.2 = 0) : (lexR s).1 = [] := by
  have hN : ∀ (f a : Nat) (acc : List Tok), ¬ (lexN s f a acc).2.2 = 0 → (lexN s f a acc).1 = [] := by
    intro f
    induction f with
    | zero => intro a acc h; exact absurd rfl h
    | succ f ih =>
      intro a acc h
      by_cases h1 : a < s.size
      · by_cases h2 : (oneR s a).2 = 0
        · rw [lexN_go h1 h2] at h ⊢; exact ih _ _ h
        · rw [lexN_bad h1 h2]
      · rw [lexN_end h1] at h; exact absurd rfl h
  unfold lexR at h ⊢
  split
  · rfl
  · rename_i hb
    rw [if_neg hb] at h
    exact hN _ _ _ h
set_option maxHeartbeats 8000000 in
theorem tok_lex (s : ByteArray) (hs : s.size ≤ 140737488355328) (w : World) (hS : Std w) : Calls Tryz.prog 59 #[.string s] w (LexEnds w s (lexR s)) := by
  have hmf : ∀ (fn : Fn) (first cap : Array Value) (w : World), (Instr.makeFunc fn first cap).run Tryz.prog w = .ok (.func fn first cap) w := fun _ _ _ _ => rfl
  have g1 : 7 < w.heap.size := by obtain ⟨te, pe, g⟩ := hS.errs.es; exact cell_lt g
  have g2 : 8 < w.heap.size := by obtain ⟨te, pe, g⟩ := hS.errs.er; exact cell_lt g
  have g3 := cell_lt (hS.marks 0 (by decide))
  have hg : Hid (7 < w.heap.size + 1 + 1 ∧ 8 < w.heap.size + 1 + 1 ∧ 1 < w.heap.size + 1 + 1) := ⟨by omega, by omega, by omega⟩
  have hS' := Lib.hid hS
  clear g1 g2 g3 hS
  have hT0 := Lib.hid (fun W hX hSt => lx_tokens s (w.heap.size + 1 + 1) W hs hX hSt hg.out)
  have hnil := lexR_none s
  generalize lexR s = r at hT0 hnil ⊢
  have hnil' := Lib.hid hnil
  clear hnil
  have hI := Lib.hid (LInv3.start w s 49 32 124)
  go_enter_defers Tryz.func59, Tryz.ntmps59
  go_wp2_with fail
  refine abs_calls3 (T := LInv3 w s) ?_ hI.out
  clear hI
  intro W hW
  have hT := hT0.out W hW.lx (hS'.out.below hW.below)
  refine hT.mono ?_
  rintro e W2 ⟨hgr, hok, hno⟩
  have hsz := hW.size
  have c (m o : Nat) (u : Value) (hm : m < w.heap.size + 1 + 1) (h : W.cell? ⟨m, o, none⟩ = some u) : W2.cell? ⟨m, o, none⟩ = some u := (grown_cell hgr o (by omega) (by omega)).trans h
  have r0 := c _ _ _ (by omega) hW.r0
  have q0 := c _ _ _ (by omega) hW.q0
  have q1 := c _ _ _ (by omega) hW.q1
  have q2 := c _ _ _ (by omega) hW.q2
  have fr : ∀ o, W2.frozen? ⟨w.heap.size, o, none⟩ = false := fun o => (World.frozen?_of_block (a := ⟨w.heap.size, o, none⟩) (hgr.block _ (by show w.heap.size < _; omega) (fun e => by have : w.heap.size = w.heap.size + 1 + 1 := Option.some.inj e; omega))).trans (hW.fr o)
  have fq : ∀ o, W2.frozen? ⟨w.heap.size + 1, o, none⟩ = false := fun o => (World.frozen?_of_block (a := ⟨w.heap.size + 1, o, none⟩) (hgr.block _ (by show w.heap.size + 1 < _; omega) (fun e => by have : w.heap.size + 1 = w.heap.size + 1 + 1 := Option.some.inj e; omega))).trans (hW.fq o)
  have hB2 : Hid (Below w.heap.size w W2) := hW.below.grown hgr hW.below.size (fun k hk => by have := Option.some.inj hk; omega)
  have hsz2 : w.heap.size + 1 + 1 + 1 ≤ W2.heap.size := Nat.le_trans hsz hgr.size
  have hWs := Lib.hid hW.below.size
  clear c hW hT hT0 hS' hgr hg
  by_cases h0 : r.2.2 = 0
  · obtain ⟨v, rfl, hown⟩ := hok h0
    have hf := Lib.hid (fault0 s r h0)
    obtain ⟨a0, n0, c0, rfl⟩ : ∃ a n c, v = .slice a n c := by
      rcases hown.2 with ⟨rfl, _⟩ | ⟨g, cap, cur, rfl, _⟩
      · exact ⟨_, _, _, rfl⟩
      · exact ⟨_, _, _, rfl⟩
    have hown' := Lib.hid hown
    clear hok hno hown h0 hnil'
    go_wp2
    have z0 : ((((W2.setCell ⟨w.heap.size, 0, none⟩ (.slice a0 n0 c0)).setCell ⟨w.heap.size + 1, 0, none⟩ (.int .i64 0)).setCell ⟨w.heap.size + 1, 1, none⟩ (.int .i64 0)).setCell ⟨w.heap.size + 1, 2, none⟩ (.int .i64 0)).cell? ⟨w.heap.size, 0, none⟩ = some (.slice a0 n0 c0) := by
      rw [World.cell?_setCell_other _ _ _ _ (by simp), World.cell?_setCell_other _ _ _ _ (by simp), World.cell?_setCell_other _ _ _ _ (by simp)]
      exact World.cell?_setCell_same _ _ _ r0
    have z1 : ((((W2.setCell ⟨w.heap.size, 0, none⟩ (.slice a0 n0 c0)).setCell ⟨w.heap.size + 1, 0, none⟩ (.int .i64 0)).setCell ⟨w.heap.size + 1, 1, none⟩ (.int .i64 0)).setCell ⟨w.heap.size + 1, 2, none⟩ (.int .i64 0)).cell? ⟨w.heap.size + 1, 0, none⟩ = some (.int .i64 0) := by
      rw [World.cell?_setCell_other _ _ _ _ (by simp), World.cell?_setCell_other _ _ _ _ (by simp)]
      exact World.cell?_setCell_same _ _ _ (u := .int .i64 0) (by rw [World.cell?_setCell_other _ _ _ _ (by simp)]; exact q0)
    have z2 : ((((W2.setCell ⟨w.heap.size, 0, none⟩ (.slice a0 n0 c0)).setCell ⟨w.heap.size + 1, 0, none⟩ (.int .i64 0)).setCell ⟨w.heap.size + 1, 1, none⟩ (.int .i64 0)).setCell ⟨w.heap.size + 1, 2, none⟩ (.int .i64 0)).cell? ⟨w.heap.size + 1, 1, none⟩ = some (.int .i64 0) := by
      rw [World.cell?_setCell_other _ _ _ _ (by simp)]
      exact World.cell?_setCell_same _ _ _ (u := .int .i64 0) (by rw [World.cell?_setCell_other _ _ _ _ (by simp), World.cell?_setCell_other _ _ _ _ (by simp)]; exact q1)
    have z3 : ((((W2.setCell ⟨w.heap.size, 0, none⟩ (.slice a0 n0 c0)).setCell ⟨w.heap.size + 1, 0, none⟩ (.int .i64 0)).setCell ⟨w.heap.size + 1, 1, none⟩ (.int .i64 0)).setCell ⟨w.heap.size + 1, 2, none⟩ (.int .i64 0)).cell? ⟨w.heap.size + 1, 2, none⟩ = some (.int .i64 0) :=
      World.cell?_setCell_same _ _ _ (u := .int .i64 0) (by rw [World.cell?_setCell_other _ _ _ _ (by simp), World.cell?_setCell_other _ _ _ _ (by simp), World.cell?_setCell_other _ _ _ _ (by simp)]; exact q2)
    have hz4 : w.heap.size + 1 + 1 + 1 ≤ ((((W2.setCell ⟨w.heap.size, 0, none⟩ (.slice a0 n0 c0)).setCell ⟨w.heap.size + 1, 0, none⟩ (.int .i64 0)).setCell ⟨w.heap.size + 1, 1, none⟩ (.int .i64 0)).setCell ⟨w.heap.size + 1, 2, none⟩ (.int .i64 0)).heap.size := by simpa using hsz2
    have hB4 : Hid (Below w.heap.size w ((((W2.setCell ⟨w.heap.size, 0, none⟩ (.slice a0 n0 c0)).setCell ⟨w.heap.size + 1, 0, none⟩ (.int .i64 0)).setCell ⟨w.heap.size + 1, 1, none⟩ (.int .i64 0)).setCell ⟨w.heap.size + 1, 2, none⟩ (.int .i64 0))) :=
      (((hB2.out.setCell (p := ⟨w.heap.size, _, none⟩) (Nat.le_refl _) _).setCell (p := ⟨w.heap.size + 1, _, none⟩) (Nat.le_succ _) _).setCell (p := ⟨w.heap.size + 1, _, none⟩) (Nat.le_succ _) _).setCell (p := ⟨w.heap.size + 1, _, none⟩) (Nat.le_succ _) _
    have ho4 : Hid (World.ownsRow ((((W2.setCell ⟨w.heap.size, 0, none⟩ (.slice a0 n0 c0)).setCell ⟨w.heap.size + 1, 0, none⟩ (.int .i64 0)).setCell ⟨w.heap.size + 1, 1, none⟩ (.int .i64 0)).setCell ⟨w.heap.size + 1, 2, none⟩ (.int .i64 0)) W.heap.size 60 6 (.slice a0 n0 c0) r.1.length (r.1.flatMap tokL)) :=
      owns_set (owns_set (owns_set (owns_set hown'.out _ _ _ (by omega)) _ _ _ (by omega)) _ _ _ (by omega)) _ _ _ (by omega)
    generalize (((W2.setCell ⟨w.heap.size, 0, none⟩ (.slice a0 n0 c0)).setCell ⟨w.heap.size + 1, 0, none⟩ (.int .i64 0)).setCell ⟨w.heap.size + 1, 1, none⟩ (.int .i64 0)).setCell ⟨w.heap.size + 1, 2, none⟩ (.int .i64 0) = Y at z0 z1 z2 z3 hz4 hB4 ho4 ⊢
    clear r0 q0 q1 q2 fr fq hB2 hown' hsz2
    refine leaves_cons (f := 84) (args := #[.pointer (some ⟨w.heap.size, 0, none⟩), .pointer (some ⟨w.heap.size + 1, 0, none⟩)]) (by simp) (by simp [go_sem]) ?_
    refine (catch_none w.heap.size Y).mono ?_
    rintro e u' w'' ⟨rfl, rfl, x, rfl⟩
    have p0 := plus_cell (by omega) z0 x
    have p1 := plus_cell (by omega) z1 x
    have p2 := plus_cell (by omega) z2 x
    have p3 := plus_cell (by omega) z3 x
    have hfin : Hid (LexEnds w s r (.returned (.tuple #[.slice a0 n0 c0, fv 0 0 0])) (plus Y x)) := ⟨_, by rw [hf.out], own_base (owns_plus ho4.out x) hWs.out, hB4.out.trans ((below_plus Y x).mono hB4.out.size)⟩
    simp [Leaves, settle, results, Tryz.results59, go_sem, p0, p1, p2, p3]
    exact hfin.out
  · have he := hno h0
    subst he
    have hf := Lib.hid (fault1 s r h0)
    have hn := Lib.hid (hnil'.out h0)
    clear hok hno h0 hnil'
    go_wp2
    refine leaves_cons (f := 84) (args := #[.pointer (some ⟨w.heap.size, 0, none⟩), .pointer (some ⟨w.heap.size + 1, 0, none⟩)]) (by simp) (by simp [go_sem]) ?_
    refine (catch_fault w.heap.size _ _ _ [] W2 _ _ _ _ (by omega) r0 q0 q1 q2 fr fq).mono ?_
    rintro e u' w'' ⟨rfl, rfl, hB, p0, p1, p2, p3⟩
    have hfin : Hid (LexEnds w s r (.returned (.tuple #[.slice none 0 0, fv r.2.2 (lineOf s r.2.1 : Nat) (colOf s r.2.1 : Nat)])) w'') := ⟨_, by rw [hf.out], by rw [hn.out]; exact World.ownsRow_nil _ _ _ _, hB2.out.trans (hB.mono (Nat.le_refl _))⟩
    simp [Leaves, settle, results, Tryz.results59, go_sem, p0, p1, p2, p3]
    exact hfin.out
end Go.Proofs.YtkffjjlmoojffaaGreatDoor
