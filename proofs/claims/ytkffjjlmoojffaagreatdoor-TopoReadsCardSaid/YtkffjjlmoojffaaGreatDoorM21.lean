/-
  WHAT IS PROVED HERE: a part of the proof of the claim's theorem: NetC; NetD; NetE.
-/
import Derived.Test.YtkffjjlmoojffaaGreatDoorRows
import Derived.Test.YtkffjjlmoojffaaGreatDoorM19
import Derived.Test.YtkffjjlmoojffaaGreatDoorM20
set_option linter.all false
namespace Go.Proofs.YtkffjjlmoojffaaGreatDoor
open Go.RowKit
structure Rd (w : World) (b g cap : Nat) (l : List Tok) (sw po li : Value) (d : DS) : Prop where
  lt : b < w.heap.size
  c0 : w.cell? ⟨b, 0, none⟩ = some (.slice (some ⟨g, 0, none⟩) l.length cap)
  c1 : w.cell? ⟨b, 1, none⟩ = some (.int .i64 (d.k : Int))
  c2 : w.cell? ⟨b, 2, none⟩ = some sw
  c3 : w.cell? ⟨b, 3, none⟩ = some po
  c4 : w.cell? ⟨b, 4, none⟩ = some li
  c5 : w.cell? ⟨b, 5, none⟩ = some (.bool d.bad)
  c6 : w.cell? ⟨b, 6, none⟩ = some (.int .i64 d.e)
  c7 : w.cell? ⟨b, 7, none⟩ = some (.int .i64 (d.p : Int))
  fz : ∀ o, w.frozen? ⟨b, o, none⟩ = false
  ne : g ≠ b
  pos : 0 < l.length
  big : l.length ≤ 140737488355328
  tk : ∀ (j : Nat) (t : Tok), l[j]? = some t → TokAt w g j t
section
variable {w w' : World} {b g cap : Nat} {l : List Tok} {sw po li : Value} {d : DS}
theorem Rd.keep (h : Rd w b g cap l sw po li d) (hs : w.heap.size ≤ w'.heap.size) (hb : w'.heap[b]? = w.heap[b]?) (hg : w'.heap[g]? = w.heap[g]?) : Rd w' b g cap l sw po li d :=
  have c := fun i v (e : w.cell? ⟨b, i, none⟩ = v) => (World.cell?_of_block (w := w) (a := ⟨b, i, none⟩) hb).trans e
  ⟨Nat.lt_of_lt_of_le h.lt hs, c _ _ h.c0, c _ _ h.c1, c _ _ h.c2, c _ _ h.c3, c _ _ h.c4, c _ _ h.c5, c _ _ h.c6, c _ _ h.c7, fun o => (World.frozen?_of_block (w := w) (a := ⟨b, o, none⟩) hb).trans (h.fz o), h.ne, h.pos, h.big, fun j t ht => (h.tk j t ht).block hs hg⟩
theorem Rd.glt (h : Rd w b g cap l sw po li d) : g < w.heap.size := (h.tk 0 (l[0]'h.pos) (List.getElem?_eq_getElem h.pos)).lt
theorem Rd.below (h : Rd w b g cap l sw po li d) (hB : Below w.heap.size w w') : Rd w' b g cap l sw po li d := h.keep hB.size (hB.block b h.lt) (hB.block g h.glt)
theorem Rd.plus (h : Rd w b g cap l sw po li d) (x : Ext) : Rd (plus w x) b g cap l sw po li d := h.below (below_plus w x)
theorem Rd.alloc (h : Rd w b g cap l sw po li d) (o : Obj) : Rd (w.alloc o) b g cap l sw po li d := h.below ((Below.refl _ w).alloc (Nat.le_refl _) o)
theorem Rd.set (h : Rd w b g cap l sw po li d) {n : Nat} (hb : ¬ n = b) (hg : ¬ n = g) (i : Nat) (v : Value) : Rd (w.setCell ⟨n, i, none⟩ v) b g cap l sw po li d :=
  h.keep (Nat.le_of_eq (by simp)) (Below.heap_setCell _ _ _ _ (fun e => hb e.symm)) (Below.heap_setCell _ _ _ _ (fun e => hg e.symm))
theorem Rd.put (h : Rd w b g cap l sw po li d) (i : Nat) (v : Value) {sw' po' li' : Value} {d' : DS}
    (e : [.slice (some ⟨g, 0, none⟩) l.length cap, .int .i64 (d'.k : Int), sw', po', li', .bool d'.bad, .int .i64 d'.e, .int .i64 (d'.p : Int)] = [.slice (some ⟨g, 0, none⟩) l.length cap, .int .i64 (d.k : Int), sw, po, li, .bool d.bad, .int .i64 d.e, .int .i64 (d.p : Int)].set i v) : Rd (w.setCell ⟨b, i, none⟩ v) b g cap l sw' po' li' d' := by
  have hz : (w.setCell ⟨b, i, none⟩ v).heap.size = w.heap.size := by simp
  have old : ∀ j u, [.slice (some ⟨g, 0, none⟩) l.length cap, .int .i64 (d.k : Int), sw, po, li, .bool d.bad, .int .i64 d.e, .int .i64 (d.p : Int)][j]? = some u → w.cell? ⟨b, j, none⟩ = some u := by
    intro j u hu
    match j, hu with
    | 0, hu => exact h.c0.trans hu
    | 1, hu => exact h.c1.trans hu
    | 2, hu => exact h.c2.trans hu
    | 3, hu => exact h.c3.trans hu
    | 4, hu => exact h.c4.trans hu
    | 5, hu => exact h.c5.trans hu
    | 6, hu => exact h.c6.trans hu
    | 7, hu => exact h.c7.trans hu
    | j + 8, hu => simp at hu
  have c : ∀ j u, [.slice (some ⟨g, 0, none⟩) l.length cap, .int .i64 (d'.k : Int), sw', po', li', .bool d'.bad, .int .i64 d'.e, .int .i64 (d'.p : Int)][j]? = some u → (w.setCell ⟨b, i, none⟩ v).cell? ⟨b, j, none⟩ = some u := by
    intro j u hu
    rw [e, List.getElem?_set] at hu
    split at hu
    · rename_i hij
      subst hij
      split at hu
      · rename_i hi
        obtain rfl := Option.some.inj hu
        exact World.cell?_setCell_same _ _ _ (old i _ (List.getElem?_eq_getElem hi))
      · cases hu
    · rename_i hij
      rw [World.cell?_setCell_other _ _ _ _ (fun e => hij (congrArg Addr.off e))]
      exact old j u hu
  exact ⟨by rw [hz]; exact h.lt, c 0 _ rfl, c 1 _ rfl, c 2 _ rfl, c 3 _ rfl, c 4 _ rfl, c 5 _ rfl, c 6 _ rfl, c 7 _ rfl, fun o => by rw [World.frozen?_setCell]; exact h.fz o, h.ne, h.pos, h.big, fun j t ht => (h.tk j t ht).block (Nat.le_of_eq hz.symm) (Below.heap_setCell _ _ _ _ h.ne)⟩
set_option maxHeartbeats 1000000 in
theorem dc_now_bad (h : Rd w b g cap l sw po li d) (hb : d.bad = true) : Calls Tryz.prog 20 #[.pointer (some ⟨b, 0, none⟩)] w (Back w (tokA badTok)) := by
  have hX := h.alloc (.cells #[.int .u8 0, .string ⟨#[]⟩, .int .i64 0, .int .u64 0, .int .u64 0, .int .i64 0] 60)
  have c5 := hX.c5
  rw [hb] at c5
  clear hX h
  go_enter Tryz.func20, Tryz.ntmps20
  go_wp2
  obtain ⟨V, hV, hB, -, ca, -⟩ := box1 w #[.int .u8 9, .string ⟨#[]⟩, .int .i64 0, .int .u64 0, .int .u64 0, .int .i64 0] 60
  rw [← hV]
  have r0 := ca 0 _ rfl ⟨#[], V.drawn⟩
  have r1 := ca 1 _ rfl ⟨#[], V.drawn⟩
  have r2 := ca 2 _ rfl ⟨#[], V.drawn⟩
  have r3 := ca 3 _ rfl ⟨#[], V.drawn⟩
  have r4 := ca 4 _ rfl ⟨#[], V.drawn⟩
  have r5 := ca 5 _ rfl ⟨#[], V.drawn⟩
  rw [plus_self] at r0 r1 r2 r3 r4 r5
  clear hV ca c5
  refine bodyPost_ret (v := tokA badTok) ?_ rfl ⟨rfl, plus_of_below hB⟩
  simp [results, Tryz.results20, go_sem, r0, r1, r2, r3, r4, r5, badTok, hi, lo]
  rfl
set_option maxHeartbeats 1000000 in
theorem dc_now_ok (h : Rd w b g cap l sw po li d) (hb : d.bad = false) {t : Tok} (ht : l[d.k]? = some t) : Calls Tryz.prog 20 #[.pointer (some ⟨b, 0, none⟩)] w (Back w (tokA t)) := by
  have hk := (List.getElem?_eq_some_iff.1 ht).1
  have hbig := h.big
  obtain ⟨W, hW, hB, hz, ca, fa⟩ := box1 w #[.int .u8 0, .string ⟨#[]⟩, .int .i64 0, .int .u64 0, .int .u64 0, .int .i64 0] 60
  have hX : Rd W b g cap l sw po li d := hW ▸ h.alloc _
  have c0 := plus_cell hX.lt hX.c0
  have c1 := plus_cell hX.lt hX.c1
  have c5 := plus_cell hX.lt hX.c5
  rw [hb] at c5
  have T := fun y => (hX.plus y).tk d.k t ht
  have t0 := fun y => (T y).c0
  have t1 := fun y => (T y).c1
  have t2 := fun y => (T y).c2
  have t3 := fun y => (T y).c3
  have t4 := fun y => (T y).c4
  have t5 := fun y => (T y).c5
  obtain ⟨n, hn⟩ : ∃ n, l.length = n := ⟨_, rfl⟩
  rw [hn] at c0 hk hbig
  have k0 : ¬ ((d.k : Int) < 0) := by omega
  have k1 : (d.k : Int) < (n : Int) := by omega
  have r0 := ca 0 _ rfl
  have r1 := ca 1 _ rfl
  have r2 := ca 2 _ rfl
  have r3 := ca 3 _ rfl
  have r4 := ca 4 _ rfl
  have r5 := ca 5 _ rfl
  have hB' := Lib.hid hB
  clear hX h T hB ca hn hz ht
  go_enter Tryz.func20, Tryz.ntmps20
  go_upto_region 1 with (fail)
  rw [← hW, ← plus_self W]
  clear hW
  go_wp2
  refine wp_region_own_tail 10 (by kernel_rfl) (by kernel_rfl) ?_
  simp only [List.take_succ_cons, List.take_zero, List.drop_succ_cons, List.drop_zero]
  repeat (go_big_quiet_step (fail))
  refine wpQuiet_nil ?_
  rintro _ ⟨y, rfl⟩
  go_wp2
  refine bodyPost_ret (v := tokA t) ?_ rfl ⟨rfl, six_put (hB'.out.trans ((below_plus W _).mono hB'.out.size)) _ _ _ _ _ _⟩
  simp [results, Tryz.results20, go_sem, r0, r1, r2, r3, r4, r5]
theorem dc_now (h : Rd w b g cap l sw po li d) (hk : d.bad = false → d.k < l.length) : Calls Tryz.prog 20 #[.pointer (some ⟨b, 0, none⟩)] w (Back w (tokA (dNow l d))) := by
  unfold dNow
  cases hb : d.bad with
  | true => rw [if_pos rfl]; exact dc_now_bad h hb
  | false => rw [if_neg (by decide)]; exact dc_now_ok h hb (getT_get d.k (hk hb))
end
end Go.Proofs.YtkffjjlmoojffaaGreatDoor
namespace Go.Proofs.YtkffjjlmoojffaaGreatDoor
open Go.RowKit
def RdEnds (w : World) (b g cap : Nat) (l : List Tok) (sw po li : Value) (v : Value) (d : DS) (e : Ending) (w' : World) : Prop := e = .returned v ∧ w.grownBy w' (some b) ∧ Rd w' b g cap l sw po li d
section
variable {w w' : World} {b g cap : Nat} {l : List Tok} {sw po li : Value} {d : DS}
theorem net_succ (k n : Nat) (h : k < n) (hn : n ≤ 140737488355328) : wrap64 ((k : Int) + 1) = ((k + 1 : Nat) : Int) := by unfold wrap64; omega
theorem grown_sets {w X : World} {b : Nat} (h : w.grownBy X (some b)) (i : Nat) (v : Value) : w.grownBy (X.setCell ⟨b, i, none⟩ v) (some b) := grown_trans h (grown_put _ _ _ _)
set_option maxHeartbeats 1000000 in
theorem dc_fail (h : Rd w b g cap l sw po li d) (so : Bool) (t : Tok) (e0 : Int) :
    Calls Tryz.prog 19 #[.pointer (some ⟨b, 0, none⟩), .bool so, tokA t, .int .i64 e0] w (RdEnds w b g cap l sw po li (.tuple #[]) (dFail so t e0 d)) := by
  have hz0 := h.lt
  cases so with
  | true =>
    rw [dFail_so]
    have h' := Lib.hid h
    clear h
    go_enter Tryz.func19, Tryz.ntmps19
    go_wp2
    refine bodyPost_ret (results_none rfl _ _ _) rfl ⟨rfl, ?_, h'.out.alloc _⟩
    exact grown_alloc _ _ _
  | false =>
    cases hb : d.bad with
    | true =>
      rw [dFail_bad _ _ _ _ hb]
      have c5 := (h.alloc (.cells #[.int .u8 (t.kind : Int), .string t.s, .int .i64 t.w, .int .u64 (hi t.n), .int .u64 (lo t.n), .int .i64 (t.at_ : Int)] 60)).c5
      rw [hb] at c5
      have h' := Lib.hid h
      clear h
      go_enter Tryz.func19, Tryz.ntmps19
      go_wp2
      refine bodyPost_ret (results_none rfl _ _ _) rfl ⟨rfl, ?_, h'.out.alloc _⟩
      exact grown_alloc _ _ _
    | false =>
      rw [dFail_no _ _ _ hb]
      obtain ⟨W, hW, hB, hz, ca, fa⟩ := box1 w #[.int .u8 (t.kind : Int), .string t.s, .int .i64 t.w, .int .u64 (hi t.n), .int .u64 (lo t.n), .int .i64 (t.at_ : Int)] 60
      have hX : Rd W b g cap l sw po li d := hW ▸ h.alloc _
      have c5 := hX.c5
      have c6 := hX.c6
      have c7 := hX.c7
      have fz := hX.fz
      rw [hb] at c5
      have a5 := ca 5 _ rfl ⟨#[], W.drawn⟩
      rw [plus_self] at a5
      have hne1 : ¬ w.heap.size = b := by omega
      have hne2 : ¬ b = w.heap.size := by omega
      have hB' := Lib.hid hB
      have hX' := Lib.hid hX
      clear ca fa hB hX hz h
      go_enter Tryz.func19, Tryz.ntmps19
      go_upto_region 1 with (fail)
      rw [← hW]
      clear hW
      go_wp2
      refine bodyPost_ret (results_none rfl _ _ _) rfl ⟨rfl, ?_, ?_⟩
      · exact grown_sets (grown_sets (grown_sets (grown_of_below hB'.out _) _ _) _ _) _ _
      · have h1 := hX'.out.put 5 (.bool true) (sw' := sw) (po' := po) (li' := li) (d' := ⟨d.k, true, d.e, d.p⟩) (by simp)
        have h2 := h1.put 6 (.int .i64 e0) (sw' := sw) (po' := po) (li' := li) (d' := ⟨d.k, true, e0, d.p⟩) (by simp)
        exact h2.put 7 (.int .i64 (t.at_ : Int)) (sw' := sw) (po' := po) (li' := li) (d' := ⟨d.k, true, e0, t.at_⟩) (by simp)
set_option maxHeartbeats 1000000 in
theorem dc_take (h : Rd w b g cap l sw po li d) (hk : d.bad = false → d.k < l.length) :
    Calls Tryz.prog 21 #[.pointer (some ⟨b, 0, none⟩)] w (RdEnds w b g cap l sw po li (tokA (dNow l d)) (dTake l d)) := by
  have hX := h.alloc (.cells #[.int .u8 0, .string ⟨#[]⟩, .int .i64 0, .int .u64 0, .int .u64 0, .int .i64 0] 60)
  have hN := Lib.hid (dc_now hX hk)
  have hbig := h.big
  have hkb : Hid (d.bad = false → d.k < l.length) := hk
  have hX' := Lib.hid hX
  have hlt := h.lt
  have hglt := h.glt
  have hT : Hid (dTake l d = if (!d.bad && decide (¬ (dNow l d).kind = 0)) = true then ⟨d.k + 1, d.bad, d.e, d.p⟩ else d) := rfl
  obtain ⟨t, ht⟩ : ∃ t, dNow l d = t := ⟨_, rfl⟩
  rw [ht] at hN hT ⊢
  obtain ⟨D, hD⟩ : ∃ D, dTake l d = D := ⟨_, rfl⟩
  rw [hD] at hT ⊢
  have q : ((t.kind : Int) != 0) = decide (¬ t.kind = 0) := by rw [Bool.eq_iff_iff]; simp
  obtain ⟨K, hK⟩ : ∃ K, (t.kind : Int) = K := ⟨_, rfl⟩
  have hTA : Hid (tokA t = .agg #[.int .u8 K, .string t.s, .int .i64 t.w, .int .u64 (hi t.n), .int .u64 (lo t.n), .int .i64 (t.at_ : Int)]) := by show _ = _; rw [← hK]
  rw [hK] at q
  rw [hTA.out] at hN
  clear hX h hk ht hD hK
  go_enter Tryz.func21, Tryz.ntmps21
  go_wp2_with fail
  refine hN.out.mono ?_
  rintro e w' ⟨rfl, x, rfl⟩
  go_upto_region 2 with (fail)
  obtain ⟨V, hV⟩ : ∃ V, V = w.alloc (.cells #[.int .u8 0, .string ⟨#[]⟩, .int .i64 0, .int .u64 0, .int .u64 0, .int .i64 0] 60) := ⟨_, rfl⟩
  have hVz : V.heap.size = w.heap.size + 1 := by rw [hV]; simp
  have hBV : Below w.heap.size w V := by rw [hV]; exact (Below.refl _ _).alloc (Nat.le_refl _) _
  have rr : ∀ i v, (#[.int .u8 0, .string ⟨#[]⟩, .int .i64 0, .int .u64 0, .int .u64 0, .int .i64 0] : Array Value)[i]? = some v → V.cell? ⟨w.heap.size, i, none⟩ = some v := fun i v hv => by
    rw [hV]; exact (cell_new w _ _ _ i rfl).trans hv
  have rf : ∀ o, V.frozen? ⟨w.heap.size, o, none⟩ = false := by rw [hV]; exact fun o => frozen_new w _ _ _ o rfl
  rw [← hV] at hX' ⊢
  clear hV
  obtain ⟨U, hU, hB, hz, ca, fa⟩ := box1 (plus V x) #[.int .u8 K, .string t.s, .int .i64 t.w, .int .u64 (hi t.n), .int .u64 (lo t.n), .int .i64 (t.at_ : Int)] 60
  have hxz := size_plus V x
  have hBU : Below w.heap.size w U := (hBV.trans ((below_plus V x).mono (by omega))).trans (hB.mono (by omega))
  have hXU : Rd U b g cap l sw po li d := (hX'.out.plus x).below hB
  rw [← hU]
  have c1 := hXU.c1
  have c5 := hXU.c5
  have fz := hXU.fz
  have q0 := ca 0 _ rfl ⟨#[], U.drawn⟩
  have q1 := ca 1 _ rfl ⟨#[], U.drawn⟩
  have q2 := ca 2 _ rfl ⟨#[], U.drawn⟩
  have q3 := ca 3 _ rfl ⟨#[], U.drawn⟩
  have q4 := ca 4 _ rfl ⟨#[], U.drawn⟩
  have q5 := ca 5 _ rfl ⟨#[], U.drawn⟩
  rw [plus_self] at q0 q1 q2 q3 q4 q5
  have hwp : w.heap.size < (plus V x).heap.size := by omega
  have up := fun i v hv => (hB.cell (p := ⟨w.heap.size, i, none⟩) hwp).trans (plus_cell (by omega) (rr i v hv) x)
  have r0 := up 0 _ rfl
  have r1 := up 1 _ rfl
  have r2 := up 2 _ rfl
  have r3 := up 3 _ rfl
  have r4 := up 4 _ rfl
  have r5 := up 5 _ rfl
  have rfU : ∀ o, U.frozen? ⟨w.heap.size, o, none⟩ = false := fun o => (hB.frozen (p := ⟨w.heap.size, o, none⟩) hwp).trans (plus_frozen (by omega) rf x o)
  generalize hzz : (plus V x).heap.size = z at q0 q1 q2 q3 q4 q5 ⊢
  have hne1 : ¬ z = b := by omega
  have hne2 : ¬ b = z := by omega
  have hne3 : ¬ w.heap.size = b := by omega
  have hne4 : ¬ b = w.heap.size := by omega
  have hne5 : Hid (¬ w.heap.size = g) := by show ¬ _; omega
  have hBU' := Lib.hid hBU
  have hXU' := Lib.hid hXU
  clear hU hB ca fa hBU hXU hBV rr rf up hX' hzz hwp hxz hVz hN hz
  cases hb : d.bad with
  | true =>
    rw [hb] at c5
    have hDd : D = d := by rw [hT.out, hb]; rfl
    subst hDd
    have hTA' := hTA
    clear hT
    go_wp2
    refine bodyPost_ret (v := tokA t) ?_ rfl ⟨rfl, grown_six (grown_of_below hBU'.out _) _ _ _ _ _ _, ?_⟩
    · rw [hTA'.out]; simp [results, Tryz.results21, go_sem, r0, r1, r2, r3, r4, r5, hne3, hne4]
    · exact (((((hXU'.out.set hne3 hne5.out 0 _).set hne3 hne5.out 1 _).set hne3 hne5.out 2 _).set hne3 hne5.out 3 _).set hne3 hne5.out 4 _).set hne3 hne5.out 5 _
  | false =>
    rw [hb] at c5
    have hkl := hkb.out hb
    by_cases h0 : t.kind = 0
    · have hDd : D = d := by rw [hT.out, hb]; simp [h0]
      subst hDd
      rw [decide_eq_false (by simpa using h0)] at q
      have hTA' := hTA
      clear hT
      go_wp2
      refine bodyPost_ret (v := tokA t) ?_ rfl ⟨rfl, grown_six (grown_of_below hBU'.out _) _ _ _ _ _ _, ?_⟩
      · rw [hTA'.out]; simp [results, Tryz.results21, go_sem, r0, r1, r2, r3, r4, r5, hne3, hne4]
      · exact (((((hXU'.out.set hne3 hne5.out 0 _).set hne3 hne5.out 1 _).set hne3 hne5.out 2 _).set hne3 hne5.out 3 _).set hne3 hne5.out 4 _).set hne3 hne5.out 5 _
    · have hDd : D = ⟨d.k + 1, d.bad, d.e, d.p⟩ := by rw [hT.out, hb]; simp [h0]
      subst hDd
      rw [decide_eq_true h0] at q
      have hTA' := hTA
      clear hT
      go_wp2
      refine bodyPost_ret (v := tokA t) ?_ rfl ⟨rfl, grown_six (grown_sets (grown_of_below hBU'.out _) _ _) _ _ _ _ _ _, ?_⟩
      · rw [hTA'.out]; simp [results, Tryz.results21, go_sem, r0, r1, r2, r3, r4, r5, hne3, hne4]
      · have hP := hXU'.out.put 1 (.int .i64 ((d.k + 1 : Nat) : Int)) (sw' := sw) (po' := po) (li' := li) (d' := ⟨d.k + 1, d.bad, d.e, d.p⟩) (by simp)
        rw [show ((d.k + 1 : Nat) : Int) = (d.k : Int) + 1 by omega] at hP
        exact (((((hP.set hne3 hne5.out 0 _).set hne3 hne5.out 1 _).set hne3 hne5.out 2 _).set hne3 hne5.out 3 _).set hne3 hne5.out 4 _).set hne3 hne5.out 5 _
end
end Go.Proofs.YtkffjjlmoojffaaGreatDoor
namespace Go.Proofs.YtkffjjlmoojffaaGreatDoor
open Go.RowKit
section
variable {w w' : World} {b g cap : Nat} {l : List Tok} {sw po li : Value} {d : DS}
theorem dTake_lt {z : Nat} (hl : TL l z) (d : DS) (hk : d.bad = false → d.k < l.length) : (dTake l d).bad = false → (dTake l d).k < l.length := by
  intro h
  unfold dTake at h ⊢
  split
  · rename_i hc
    simp only [Bool.and_eq_true, Bool.not_eq_true', decide_eq_true_eq] at hc
    have h1 := hc.2
    rw [dNow_k l d hc.1] at h1
    exact next_lt hl d.k (hk hc.1) h1
  · rename_i hc
    rw [if_neg hc] at h
    exact hk h
theorem dFail_lt (so : Bool) (t : Tok) (e : Int) (d : DS) (hk : d.bad = false → d.k < l.length) : (dFail so t e d).bad = false → (dFail so t e d).k < l.length := by
  unfold dFail
  split
  · intro h; cases h
  · exact hk
theorem dWant_lt {z : Nat} (hl : TL l z) (d : DS) (x : ByteArray) (hk : d.bad = false → d.k < l.length) : (dWant l d x).bad = false → (dWant l d x).k < l.length := dFail_lt _ _ _ _ (dTake_lt hl d hk)
theorem dName_lt {z : Nat} (hl : TL l z) (d : DS) (hk : d.bad = false → d.k < l.length) : (dName l d).bad = false → (dName l d).k < l.length := dFail_lt _ _ _ _ (dTake_lt hl d hk)
theorem dPort_lt {z : Nat} (hl : TL l z) (d : DS) (hk : d.bad = false → d.k < l.length) : (dPort l d).bad = false → (dPort l d).k < l.length := dFail_lt _ _ _ _ (dFail_lt _ _ _ _ (dFail_lt _ _ _ _ (dTake_lt hl d hk)))
set_option maxHeartbeats 1000000 in
theorem dc_has (h : Rd w b g cap l sw po li d) (hk : d.bad = false → d.k < l.length) (x : ByteArray) :
    Calls Tryz.prog 18 #[.pointer (some ⟨b, 0, none⟩), .string x] w (RdEnds w b g cap l sw po li (.bool (dHas l d x)) d) := by
  have hN := Lib.hid (dc_now h hk)
  have h' := Lib.hid h
  unfold dHas
  obtain ⟨⟨K, S, D, N, A⟩, ht⟩ : ∃ t, dNow l d = t := ⟨_, rfl⟩
  rw [ht] at hN ⊢
  simp only
  unfold tokA at hN
  simp only at hN
  clear h hk ht
  have q1 : ((K : Int) == 1) = decide (K = 1) := by rw [Bool.eq_iff_iff, beq_iff_eq, decide_eq_true_eq]; omega
  have q3 : ((K : Int) == 3) = decide (K = 3) := by rw [Bool.eq_iff_iff, beq_iff_eq, decide_eq_true_eq]; omega
  have qs := bytes_beq S x
  generalize decide (K = 1) = B1 at q1 ⊢
  generalize decide (K = 3) = B3 at q3 ⊢
  generalize decide (S = x) = BS at qs ⊢
  generalize (K : Int) = KK at q1 q3 hN
  go_enter Tryz.func18, Tryz.ntmps18
  go_wp2_with fail
  refine hN.out.mono ?_
  rintro e w' ⟨rfl, y, rfl⟩
  cases B1 <;> cases B3 <;> cases BS <;>
  · go_wp2
    go_ret
    exact ⟨rfl, grown_trans (grown_plus_any _ _ _) (grown_alloc _ _ _), (h'.out.plus y).alloc _⟩
set_option maxHeartbeats 1000000 in
theorem dc_want {z : Nat} (hl : TL l z) (h : Rd w b g cap l sw po li d) (hk : d.bad = false → d.k < l.length) (x : ByteArray) :
    Calls Tryz.prog 26 #[.pointer (some ⟨b, 0, none⟩), .string x] w (RdEnds w b g cap l sw po li (.tuple #[]) (dWant l d x)) := by
  have hH := Lib.hid (dc_has h hk x)
  have hT := Lib.hid (fun (w : World) h => dc_take (w := w) (b := b) (g := g) (cap := cap) (l := l) (sw := sw) (po := po) (li := li) (d := d) h hk)
  unfold dWant
  generalize dNow l d = t at hT ⊢
  generalize dHas l d x = B at hH ⊢
  have hF := Lib.hid (fun (w : World) h => dc_fail (w := w) (b := b) (g := g) (cap := cap) (l := l) (sw := sw) (po := po) (li := li) (d := dTake l d) h B t 4)
  generalize dFail B t 4 (dTake l d) = D2 at hF ⊢
  generalize dTake l d = D1 at hT hF
  have hlt := h.lt
  clear h hk
  go_enter Tryz.func26, Tryz.ntmps26
  go_wp2_with fail
  refine hH.out.mono ?_
  rintro e w1 ⟨rfl, hg1, hX1⟩
  replace hg1 := Lib.hid hg1
  replace hX1 := Lib.hid hX1
  go_wp2_with fail
  refine (hT.out _ hX1.out).mono ?_
  rintro e w2 ⟨rfl, hg2, hX2⟩
  replace hg2 := Lib.hid hg2
  replace hX2 := Lib.hid hX2
  go_wp2_with fail
  refine (hF.out _ (hX2.out.alloc _)).mono ?_
  rintro e w3 ⟨rfl, hg3, hX3⟩
  replace hg3 := Lib.hid hg3
  replace hX3 := Lib.hid hX3
  go_wp2
  exact bodyPost_ret (results_none rfl _ _ _) rfl ⟨rfl, grown_trans (grown_trans (grown_trans hg1.out hg2.out) (grown_alloc _ _ _)) hg3.out, hX3.out⟩
end
end Go.Proofs.YtkffjjlmoojffaaGreatDoor
