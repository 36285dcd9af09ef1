/-
  WHAT IS PROVED HERE: a part of the proof of the claim's theorem: LexB.
-/
import Derived.Test.YtkffjjlmoojffaaGreatDoorRows
import Derived.Test.YtkffjjlmoojffaaGreatDoorB12
import Derived.WalkKit
import Derived.WalkSpells
import Derived.WalkLawsBesides
import Derived.Test.YtkffjjlmoojffaaGreatDoorB3
import Derived.Deep.RegionWith
import Derived.Deep.MidRow
set_option linter.all false
namespace Go.Proofs.YtkffjjlmoojffaaGreatDoor
open Go.RowKit
def Back (w : World) (v : Value) (e : Ending) (w' : World) : Prop := e = .returned v ∧ ∃ x, w' = plus w x
def Gives (w : World) (E l c : Int) (e : Ending) (w' : World) : Prop := e = gaveUp E l c ∧ ∃ x, w' = plus w x
set_option maxHeartbeats 1000000 in
theorem lx_value (d : ByteArray) (b : Nat) (h0 : (parseS d).2 = 0) (w : World) : Calls Tryz.prog 151 #[.pointer (some ⟨b, 0, none⟩), .string d] w (Back w (nv (parseS d).1)) := by
  have hP := num_parse d
  rw [h0] at hP
  generalize (parseS d).1 = n at hP ⊢
  have hP' := Lib.hid hP
  clear hP h0
  obtain ⟨W, hW, hB, hz, ca, fa⟩ := box1 w #[.int .u64 0, .int .u64 0] 58
  go_enter Tryz.func151, Tryz.ntmps151
  go_wp2_with fail
  rw [← hW]
  refine (hP'.out _).mono ?_
  rintro e w' ⟨rfl, x, rfl⟩
  have c0 := ca 0 (some (.int .u64 0)) rfl x
  have c1 := ca 1 (some (.int .u64 0)) rfl x
  have f0 := fa x
  have hlt : w.heap.size < (plus W x).heap.size := by have := size_plus W x; omega
  have hBV := Lib.hid (hB.trans ((below_plus W x).mono hB.size))
  clear ca fa hW
  generalize plus W x = V at c0 c1 f0 hlt hBV ⊢
  go_wp2
  refine bodyPost_ret (v := nv n) (by simp [results, Tryz.results151, go_sem, c0, c1, hlt]) rfl ⟨rfl, ?_⟩
  exact plus_of_below (((hBV.out.setCell (p := ⟨w.heap.size, _, none⟩) (Nat.le_refl _) _).setCell (p := ⟨w.heap.size, _, none⟩) (Nat.le_refl _) _).alloc (by have := hBV.out.size; simp; omega) _)
set_option maxHeartbeats 1000000 in
theorem lx_value_no (d s : ByteArray) (k b : Nat) (w : World) (h0 : ¬ (parseS d).2 = 0) (hk : k ≤ s.size) (hs : s.size ≤ 140737488355328) (hX : Lx w b s k) :
    Calls Tryz.prog 151 #[.pointer (some ⟨b, 0, none⟩), .string d] w (Gives w (parseS d).2 (lineOf s k : Nat) (colOf s k : Nat)) := by
  have hP := num_parse d
  have q : (((parseS d).2 : Int) == 0) = false := by simpa using h0
  have hF := Lib.hid (fun w h => lx_fault s k b (parseS d).2 w h0 hk hs h)
  generalize (parseS d).2 = E at hP hF q ⊢
  generalize (parseS d).1 = n at hP
  have hP' := Lib.hid hP
  clear hP h0
  obtain ⟨W, hW, hB, hz, ca, fa⟩ := box1 w #[.int .u64 0, .int .u64 0] 58
  have hXW : Lx W b s k := hW ▸ hX.alloc _
  go_enter Tryz.func151, Tryz.ntmps151
  go_wp2_with fail
  rw [← hW]
  refine (hP'.out _).mono ?_
  rintro e w' ⟨rfl, x, rfl⟩
  have hXV := Lib.hid (hXW.plus x)
  have hBV := Lib.hid (hB.trans ((below_plus W x).mono hB.size))
  clear ca fa hW hX hXW
  generalize plus W x = V at hXV hBV ⊢
  go_wp2_with fail
  refine (hF.out _ (hXV.out.alloc _)).mono ?_
  rintro e w' ⟨rfl, y, rfl⟩
  go_wp2
  exact ⟨rfl, rfl, plus_of_below ((hBV.out.alloc hBV.out.size _).trans ((below_plus _ y).mono (by have := hBV.out.size; simp; omega)))⟩
theorem ne_nil (p : Addr) (w : World) : (binOp .neq 77 (.iface 225 (.pointer (some p))) .nilIface).run Tryz.prog w = .ok (.bool true) w := by go_simp
theorem ne_nil0 (w : World) : (binOp .neq 77 .nilIface .nilIface).run Tryz.prog w = .ok (.bool false) w := by go_simp
set_option maxHeartbeats 1000000 in
theorem lx_width (s : ByteArray) (a b : Nat) (ha : a ≤ s.size) (h1 : 1 ≤ a) (hs : s.size ≤ 140737488355328) (hh : headOk s a = true) (hw : 1 ≤ decV s a ∧ decV s a ≤ 128) (w : World) :
    Calls Tryz.prog 152 #[.pointer (some ⟨b, 0, none⟩), .string (s.extract 0 a)] w (Back w (.int .i64 (decV s a : Nat))) := by
  have hz : (s.extract 0 a).size = a := by rw [ByteArray.size_extract]; omega
  have hA := Lib.hid (lib_atoi_ok (s.extract 0 a) (by omega) _ (atoi_head s a ha h1 hh))
  have h3 : a ≤ 3 := by
    unfold headOk at hh
    rw [Bool.and_eq_true, decide_eq_true_eq] at hh
    exact hh.1
  have hz3 : (s.extract 0 a).size ≤ 3 := by omega
  obtain ⟨w1, w2⟩ := hw
  generalize decV s a = v at hA w1 w2 ⊢
  generalize s.extract 0 a = d at hA hz3 ⊢
  have q := ne_nil0
  clear hz hh
  go_enter Tryz.func152, Tryz.ntmps152
  go_wp2_with (go_at_call 160; refine (hA.out _).mono ?_; rintro e w' ⟨rfl, x, rfl⟩)
  go_ret
  exact ⟨rfl, x, rfl⟩
set_option maxHeartbeats 1000000 in
theorem lx_width_no (s t : ByteArray) (k a b : Nat) (ha : a ≤ s.size) (h1 : 1 ≤ a) (hs : s.size ≤ 140737488355328) (h0 : isDig (byN s 0) = true) (hh : headOk s a = false) (w : World) (hE : Errs w) (hk : k ≤ t.size) (ht : t.size ≤ 140737488355328) (hX : Lx w b t k) :
    Calls Tryz.prog 152 #[.pointer (some ⟨b, 0, none⟩), .string (s.extract 0 a)] w (Gives w 4 (lineOf t k : Nat) (colOf t k : Nat)) := by
  have hz : (s.extract 0 a).size = a := by rw [ByteArray.size_extract]; omega
  have hF := Lib.hid (fun w h => lx_fault t k b 4 w (by decide) hk ht h)
  have hX' := Lib.hid hX
  by_cases hv : ∃ v, Lib.atoiAll (s.extract 0 a).data.toList = .ok v
  · obtain ⟨v, hv⟩ := hv
    have h3 : 3 < a := by
      rcases Nat.lt_or_ge 3 a with h | h
      · exact h
      · exact absurd hv (atoi_nohead s a ha h1 h h0 hh v)
    have hA := Lib.hid (lib_atoi_ok (s.extract 0 a) (by omega) _ hv)
    have hz3 : 3 < (s.extract 0 a).size := by omega
    generalize s.extract 0 a = d at hA hz3 ⊢
    have q := ne_nil0
    clear hz hh hv hX hE h0
    go_enter Tryz.func152, Tryz.ntmps152
    go_wp2_with (first | (go_at_call 160; refine (hA.out _).mono ?_; rintro e w' ⟨rfl, x, rfl⟩) | (go_at_call 99; refine (hF.out _ (hX'.out.plus _)).mono ?_; rintro e w' ⟨rfl, y, rfl⟩))
    exact ⟨rfl, rfl, _, plus_plus _ _ _⟩
  · have hA := Lib.hid (fun w h => lib_atoi_no (s.extract 0 a) (by omega) (fun v e => hv ⟨v, e⟩) w h)
    generalize s.extract 0 a = d at hA ⊢
    have q := ne_nil
    have hE' := Lib.hid hE
    clear hz hh hv hX hE h0
    go_enter Tryz.func152, Tryz.ntmps152
    go_wp2_with (first | (go_at_call 160; refine (hA.out _ hE'.out).mono ?_; rintro e w' ⟨n, p, x, rfl, rfl⟩) | (go_at_call 99; refine (hF.out _ (hX'.out.plus _)).mono ?_; rintro e w' ⟨rfl, y, rfl⟩))
    exact ⟨rfl, rfl, _, plus_plus _ _ _⟩
set_option maxHeartbeats 1000000 in
theorem lx_width_bad (s t : ByteArray) (k a b : Nat) (ha : a ≤ s.size) (h1 : 1 ≤ a) (hs : s.size ≤ 140737488355328) (hh : headOk s a = true) (hw : decV s a < 1 ∨ 128 < decV s a) (w : World) (hk : k ≤ t.size) (ht : t.size ≤ 140737488355328) (hX : Lx w b t k) :
    Calls Tryz.prog 152 #[.pointer (some ⟨b, 0, none⟩), .string (s.extract 0 a)] w (Gives w 10 (lineOf t k : Nat) (colOf t k : Nat)) := by
  have hz : (s.extract 0 a).size = a := by rw [ByteArray.size_extract]; omega
  have hF := Lib.hid (fun w h => lx_fault t k b 10 w (by decide) hk ht h)
  have hX' := Lib.hid hX
  have hA := Lib.hid (lib_atoi_ok (s.extract 0 a) (by omega) _ (atoi_head s a ha h1 hh))
  have h3 : a ≤ 3 := by
    unfold headOk at hh
    rw [Bool.and_eq_true, decide_eq_true_eq] at hh
    exact hh.1
  have hz3 : (s.extract 0 a).size ≤ 3 := by omega
  generalize decV s a = v at hA hw
  generalize s.extract 0 a = d at hA hz3 ⊢
  have q := ne_nil0
  clear hz hh hX
  by_cases hv : v < 1
  · obtain rfl : v = 0 := by omega
    clear hw hv
    go_enter Tryz.func152, Tryz.ntmps152
    go_wp2_with (first | (go_at_call 160; refine (hA.out _).mono ?_; rintro e w' ⟨rfl, x, rfl⟩) | (go_at_call 99; refine (hF.out _ (hX'.out.plus _)).mono ?_; rintro e w' ⟨rfl, y, rfl⟩))
    exact ⟨rfl, rfl, _, plus_plus _ _ _⟩
  · have hv2 : 128 < v := by omega
    clear hw hv
    go_enter Tryz.func152, Tryz.ntmps152
    go_wp2_with (first | (go_at_call 160; refine (hA.out _).mono ?_; rintro e w' ⟨rfl, x, rfl⟩) | (go_at_call 99; refine (hF.out _ (hX'.out.plus _)).mono ?_; rintro e w' ⟨rfl, y, rfl⟩))
    exact ⟨rfl, rfl, _, plus_plus _ _ _⟩
end Go.Proofs.YtkffjjlmoojffaaGreatDoor
namespace Go.Proofs.YtkffjjlmoojffaaGreatDoor
open Go.RowKit
theorem cut_none {d : ByteArray} (h : wAt d = none) : cutV d 119 = .tuple #[.string d, .string ⟨#[]⟩, .bool false] := by
  unfold cutV
  rw [show atB d 119 = none from h]
theorem cut_some {d : ByteArray} {a : Nat} (h : wAt d = some a) : cutV d 119 = .tuple #[.string (d.extract 0 a), .string (rest d (a + 1)), .bool true] := by
  unfold cutV
  rw [show atB d 119 = some a from h]
theorem numR_none {d : ByteArray} (h : wAt d = none) : numR d = if (parseS d).2 = 0 then (0, (parseS d).1, 0) else (0, 0, (parseS d).2) := by
  unfold numR; rw [h]
theorem numR_some {d : ByteArray} {a : Nat} (h : wAt d = some a) : numR d = if headOk d a = true then
      (if decV d a < 1 ∨ 128 < decV d a then (0, 0, 10)
       else if (parseS (rest d (a + 1))).2 = 0 then
         (if (parseS (rest d (a + 1))).1 % 2 ^ hw (decV d a) = (parseS (rest d (a + 1))).1 then (((decV d a : Nat) : Int), (parseS (rest d (a + 1))).1, 0) else (0, 0, 5))
       else (0, 0, (parseS (rest d (a + 1))).2))
      else (0, 0, 4) := by
  unfold numR; rw [h]
structure NInv (w wr : World) : Prop where
  below : Below w.heap.size w wr
  lt : w.heap.size < wr.heap.size
  c0 : ∃ u, wr.cell? ⟨w.heap.size, 0, none⟩ = some u
  c1 : ∃ u, wr.cell? ⟨w.heap.size, 1, none⟩ = some u
  fz : ∀ o, wr.frozen? ⟨w.heap.size, o, none⟩ = false
theorem NInv.start (w : World) (T : TypeId) : NInv w (w.alloc (.cells #[.int .u64 0, .int .u64 0] T)) :=
  ⟨(Below.refl _ _).alloc (Nat.le_refl _) _, by simp, ⟨_, cell_new w _ T _ 0 rfl⟩, ⟨_, cell_new w _ T _ 1 rfl⟩, fun o => frozen_new w _ T _ o rfl⟩
theorem NInv.plus {w wr : World} (h : NInv w wr) (x : Ext) : NInv w (plus wr x) := by
  obtain ⟨u0, h0⟩ := h.c0
  obtain ⟨u1, h1⟩ := h.c1
  exact ⟨h.below.trans ((below_plus wr x).mono h.below.size), Nat.lt_of_lt_of_le h.lt (size_plus wr x), ⟨u0, plus_cell h.lt h0 x⟩, ⟨u1, plus_cell h.lt h1 x⟩, plus_frozen h.lt h.fz x⟩
theorem NInv.put {w wr : World} (h : NInv w wr) (i : Nat) (v : Value) : NInv w (wr.setCell ⟨w.heap.size, i, none⟩ v) := by
  obtain ⟨u0, h0⟩ := h.c0
  obtain ⟨u1, h1⟩ := h.c1
  exact ⟨h.below.setCell (Nat.le_refl _) _, by have := h.lt; simp; omega, cell?_setCell_some h0, cell?_setCell_some h1, fun o => by rw [World.frozen?_setCell]; exact h.fz o⟩
theorem NInv.lx {w wr : World} (h : NInv w wr) {b : Nat} {t : ByteArray} {k : Nat} (hX : Lx w b t k) : Lx wr b t k := hX.below h.below hX.lt
theorem NInv.er {w wr : World} (h : NInv w wr) (hE : Errs w) : Errs wr := by
  obtain ⟨te, pe, hs⟩ := hE.es
  obtain ⟨te2, pe2, hr⟩ := hE.er
  exact hE.below h.below (cell_lt hs) (cell_lt hr)
structure NVal (w : World) (n : Nat) (wr : World) : Prop where
  inv : NInv w wr
  v0 : wr.cell? ⟨w.heap.size, 0, none⟩ = some (.int .u64 (hi n))
  v1 : wr.cell? ⟨w.heap.size, 1, none⟩ = some (.int .u64 (lo n))
theorem NInv.put2 {w wr : World} (h : NInv w wr) (n : Nat) : NVal w n ((wr.setCell ⟨w.heap.size, 0, none⟩ (.int .u64 (hi n))).setCell ⟨w.heap.size, 1, none⟩ (.int .u64 (lo n))) := by
  obtain ⟨u0, h0⟩ := h.c0
  obtain ⟨u1, h1⟩ := (h.put 0 (.int .u64 (hi n))).c1
  exact ⟨(h.put 0 _).put 1 _, by rw [World.cell?_setCell_other _ _ _ _ (by simp)]; exact World.cell?_setCell_same _ _ _ h0, World.cell?_setCell_same _ _ _ h1⟩
theorem NVal.plus {w wr : World} {n : Nat} (h : NVal w n wr) (x : Ext) : NVal w n (plus wr x) := ⟨h.inv.plus x, plus_cell h.inv.lt h.v0 x, plus_cell h.inv.lt h.v1 x⟩
def NumEnds (w : World) (r : Int × Nat × Int) (l c : Int) (e : Ending) (w' : World) : Prop := (r.2.2 = 0 → Back w (.tuple #[.int .i64 r.1, nv r.2.1]) e w') ∧ (¬ r.2.2 = 0 → Gives w r.2.2 l c e w')
theorem NumEnds.ok {w w' : World} {W : Int} {n : Nat} {l c : Int} (h : ∃ x, w' = plus w x) : NumEnds w (W, n, 0) l c (.returned (.tuple #[.int .i64 W, nv n])) w' := ⟨fun _ => ⟨rfl, h⟩, fun h => absurd rfl h⟩
theorem NumEnds.no {w w' : World} {W : Int} {n : Nat} {E l c : Int} (h0 : ¬ E = 0) (h : ∃ x, w' = plus w x) : NumEnds w (W, n, E) l c (gaveUp E l c) w' := ⟨fun e => absurd e h0, fun _ => ⟨rfl, h⟩⟩
set_option maxHeartbeats 4000000 in
theorem lx_number_plain (d t : ByteArray) (k b : Nat) (w : World) (hd : d.size ≤ 140737488355328) (hw : wAt d = none) (hk : k ≤ t.size) (ht : t.size ≤ 140737488355328) (hX : Lx w b t k) :
    Calls Tryz.prog 129 #[.pointer (some ⟨b, 0, none⟩), .string d] w (NumEnds w (numR d) (lineOf t k : Nat) (colOf t k : Nat)) := by
  have hC := lib_cut1 d 119 hd
  rw [show (119 : UInt8).toNat = 119 from rfl, cut_none hw] at hC
  have hN := NInv.start w 58
  have hN' := Lib.hid hN
  have hC' := Lib.hid hC
  rw [numR_none hw]
  by_cases h0 : (parseS d).2 = 0
  · rw [if_pos h0]
    have hV := Lib.hid (lx_value d b h0)
    generalize (parseS d).1 = n at hV ⊢
    clear hC h0 hw hX hN
    go_enter Tryz.func129, Tryz.ntmps129
    go_wp2_with fail
    refine abs_calls3 (T := NInv w) ?_ hN'.out
    intro W hN2
    have hN2' := Lib.hid hN2
    clear hN2 hN'
    refine (hC'.out _).mono ?_
    rintro e w' ⟨rfl, x, rfl⟩
    go_wp2_with fail
    refine (hV.out _).mono ?_
    rintro e w' ⟨rfl, y, rfl⟩
    rw [plus_plus]
    have hN3 := hN2'.out.plus ⟨x.blocks ++ y.blocks, y.draws⟩
    generalize Go.Proofs.YtkffjjlmoojffaaGreatDoor.plus W ⟨x.blocks ++ y.blocks, y.draws⟩ = V at hN3 ⊢
    obtain ⟨u0, c0⟩ := hN3.c0
    obtain ⟨u1, c1⟩ := hN3.c1
    have fz := hN3.fz
    have hB := Lib.hid hN3.below
    clear hN3
    go_wp2
    refine bodyPost_ret (v := .tuple #[.int .i64 0, nv n]) (by simp [results, Tryz.results129, go_sem, c0, c1]) rfl (NumEnds.ok ?_)
    exact plus_of_below ((hB.out.setCell (p := ⟨w.heap.size, _, none⟩) (Nat.le_refl _) _).setCell (p := ⟨w.heap.size, _, none⟩) (Nat.le_refl _) _)
  · rw [if_neg h0]
    have hV := Lib.hid (fun w h => lx_value_no d t k b w h0 hk ht h)
    have h0' := Lib.hid h0
    generalize (parseS d).2 = E at hV h0' ⊢
    have hX' := Lib.hid hX
    clear hC h0 hw hX hN
    go_enter Tryz.func129, Tryz.ntmps129
    go_wp2_with fail
    refine abs_calls3 (T := NInv w) ?_ hN'.out
    intro W hN2
    have hN2' := Lib.hid hN2
    clear hN2 hN'
    refine (hC'.out _).mono ?_
    rintro e w' ⟨rfl, x, rfl⟩
    go_wp2_with fail
    refine (hV.out _ ((hN2'.out.plus x).lx hX'.out)).mono ?_
    rintro e w' ⟨rfl, y, rfl⟩
    go_wp2
    exact ⟨rfl, NumEnds.no h0'.out (plus_of_below ((hN2'.out.plus x).plus y).below)⟩
end Go.Proofs.YtkffjjlmoojffaaGreatDoor
namespace Go.Proofs.YtkffjjlmoojffaaGreatDoor
open Go.RowKit
set_option maxHeartbeats 4000000 in
theorem lx_number_wide (d t : ByteArray) (a k b : Nat) (w : World) (hd : d.size ≤ 140737488355328) (hwa : wAt d = some a) (h1 : 1 ≤ a) (h0 : isDig (byN d 0) = true) (hk : k ≤ t.size) (ht : t.size ≤ 140737488355328) (hX : Lx w b t k) (hE : Errs w) :
    Calls Tryz.prog 129 #[.pointer (some ⟨b, 0, none⟩), .string d] w (NumEnds w (numR d) (lineOf t k : Nat) (colOf t k : Nat)) := by
  have ha : a < d.size := (atB_lt (show atB d 119 = some a from hwa)).1
  have hC := lib_cut1 d 119 hd
  rw [show (119 : UInt8).toNat = 119 from rfl, cut_some hwa] at hC
  have hN' := Lib.hid (NInv.start w 58)
  have hC' := Lib.hid hC
  have hX' := Lib.hid hX
  rw [numR_some hwa]
  cases hh : headOk d a with
  | false =>
    rw [if_neg (by simp)]
    have hW := Lib.hid (fun w hE hX => lx_width_no d t k a b (by omega) h1 hd h0 hh w hE hk ht hX)
    have hE' := Lib.hid hE
    generalize d.extract 0 a = da at hC' hW
    generalize rest d (a + 1) = db at hC'
    clear hC hwa hX hE hh h0 h1
    go_enter Tryz.func129, Tryz.ntmps129
    go_wp2_with fail
    refine abs_calls3 (T := NInv w) ?_ hN'.out
    intro W hN2
    have hN2' := Lib.hid hN2
    clear hN2 hN'
    refine (hC'.out _).mono ?_
    rintro e w' ⟨rfl, x, rfl⟩
    go_wp2_with fail
    refine (hW.out _ ((hN2'.out.plus x).er hE'.out) ((hN2'.out.plus x).lx hX'.out)).mono ?_
    rintro e w' ⟨rfl, y, rfl⟩
    go_wp2
    exact ⟨rfl, NumEnds.no (by decide) (plus_of_below ((hN2'.out.plus x).plus y).below)⟩
  | true =>
    rw [if_pos rfl]
    by_cases hv : decV d a < 1 ∨ 128 < decV d a
    · rw [if_pos hv]
      have hW := Lib.hid (fun w hX => lx_width_bad d t k a b (by omega) h1 hd hh hv w hk ht hX)
      generalize d.extract 0 a = da at hC' hW
      generalize rest d (a + 1) = db at hC'
      clear hC hwa hX hE hh h0 h1 hv
      go_enter Tryz.func129, Tryz.ntmps129
      go_wp2_with fail
      refine abs_calls3 (T := NInv w) ?_ hN'.out
      intro W hN2
      have hN2' := Lib.hid hN2
      clear hN2 hN'
      refine (hC'.out _).mono ?_
      rintro e w' ⟨rfl, x, rfl⟩
      go_wp2_with fail
      refine (hW.out _ ((hN2'.out.plus x).lx hX'.out)).mono ?_
      rintro e w' ⟨rfl, y, rfl⟩
      go_wp2
      exact ⟨rfl, NumEnds.no (by decide) (plus_of_below ((hN2'.out.plus x).plus y).below)⟩
    · rw [if_neg hv]
      have hW := Lib.hid (fun w => lx_width d a b (by omega) h1 hd hh (by omega) w)
      have hdv : decV d a ≤ 128 := by omega
      by_cases hp : (parseS (rest d (a + 1))).2 = 0
      · rw [if_pos hp]
        have hV := Lib.hid (fun w => lx_value (rest d (a + 1)) b hp w)
        have hlt := parseS_lt (rest d (a + 1))
        have hF := Lib.hid (num_fits (parseS (rest d (a + 1))).1 (decV d a : Nat) hlt)
        generalize (parseS (rest d (a + 1))).1 = n at hV hF ⊢
        generalize decV d a = v at hW hdv hF ⊢
        generalize d.extract 0 a = da at hC' hW
        generalize rest d (a + 1) = db at hC' hV
        by_cases hf : n % 2 ^ hw (v : Int) = n
        · rw [if_pos hf]
          rw [decide_eq_true hf] at hF
          clear hC hwa hX hE hh h0 h1 hv hp hlt hf
          go_enter Tryz.func129, Tryz.ntmps129
          go_wp2_with fail
          refine abs_calls3 (T := NInv w) ?_ hN'.out
          intro W hN2
          have hN2' := Lib.hid hN2
          clear hN2 hN'
          refine (hC'.out _).mono ?_
          rintro e w' ⟨rfl, x, rfl⟩
          go_wp2_with fail
          refine (hW.out _).mono ?_
          rintro e w' ⟨rfl, y, rfl⟩
          go_wp2_with fail
          refine (hV.out _).mono ?_
          rintro e w' ⟨rfl, z, rfl⟩
          have hN3 := ((hN2'.out.plus x).plus y).plus z
          generalize Go.Proofs.YtkffjjlmoojffaaGreatDoor.plus (Go.Proofs.YtkffjjlmoojffaaGreatDoor.plus (Go.Proofs.YtkffjjlmoojffaaGreatDoor.plus W x) y) z = V at hN3 ⊢
          obtain ⟨u0, c0⟩ := hN3.c0
          obtain ⟨u1, c1⟩ := hN3.c1
          have fz := hN3.fz
          have hN4 := Lib.hid (hN3.put2 n)
          clear hN3
          go_wp2_with fail
          refine abs_calls3 (T := NVal w n) ?_ hN4.out
          clear hN4 c0 c1 fz
          intro U hN5
          refine (hF.out _).mono ?_
          rintro e w' ⟨rfl, q, rfl⟩
          have hN6 := hN5.plus q
          clear hN5
          generalize Go.Proofs.YtkffjjlmoojffaaGreatDoor.plus U q = Y at hN6 ⊢
          have hlt := hN6.inv.lt
          have c0 := plus_cell hlt hN6.v0
          have c1 := plus_cell hlt hN6.v1
          have fz := plus_frozen hlt hN6.inv.fz
          have hN7 := Lib.hid hN6
          clear hN6
          go_wp2
          refine wp_region_own_tail0 3 (by kernel_rfl) (by kernel_rfl) ?_
          simp only [List.take_succ_cons, List.take_zero, List.drop_succ_cons, List.drop_zero]
          repeat (go_big_quiet_step (fail))
          refine wpQuiet_nil ?_
          rintro _ ⟨y9, rfl⟩
          go_wp2
          refine bodyPost_ret (v := .tuple #[.int .i64 (v : Int), nv n]) (by simp [results, Tryz.results129, go_sem, c0, c1]) rfl (NumEnds.ok ?_)
          exact plus_of_below ((((hN7.out.inv.plus y9).put 0 _).put 1 _).below)
        · rw [if_neg hf]
          rw [decide_eq_false hf] at hF
          have hQ := Lib.hid (fun w h => lx_fault t k b 5 w (by decide) hk ht h)
          clear hC hwa hX hE hh h0 h1 hv hp hlt hf
          go_enter Tryz.func129, Tryz.ntmps129
          go_wp2_with fail
          refine abs_calls3 (T := NInv w) ?_ hN'.out
          intro W hN2
          have hN2' := Lib.hid hN2
          clear hN2 hN'
          refine (hC'.out _).mono ?_
          rintro e w' ⟨rfl, x, rfl⟩
          go_wp2_with fail
          refine (hW.out _).mono ?_
          rintro e w' ⟨rfl, y, rfl⟩
          go_wp2_with fail
          refine (hV.out _).mono ?_
          rintro e w' ⟨rfl, z, rfl⟩
          have hN3 := ((hN2'.out.plus x).plus y).plus z
          generalize Go.Proofs.YtkffjjlmoojffaaGreatDoor.plus (Go.Proofs.YtkffjjlmoojffaaGreatDoor.plus (Go.Proofs.YtkffjjlmoojffaaGreatDoor.plus W x) y) z = V at hN3 ⊢
          obtain ⟨u0, c0⟩ := hN3.c0
          obtain ⟨u1, c1⟩ := hN3.c1
          have fz := hN3.fz
          have hN4 := Lib.hid (hN3.put2 n)
          clear hN3
          go_wp2_with fail
          refine abs_calls3 (T := NVal w n) ?_ hN4.out
          clear hN4 c0 c1 fz
          intro U hN5
          refine (hF.out _).mono ?_
          rintro e w' ⟨rfl, q, rfl⟩
          have hN7 := Lib.hid (hN5.plus q)
          clear hN5
          go_wp2_with fail
          refine (hQ.out _ (hN7.out.inv.lx hX'.out)).mono ?_
          rintro e w' ⟨rfl, r, rfl⟩
          go_wp2
          exact ⟨rfl, NumEnds.no (by decide) (plus_of_below (hN7.out.inv.plus r).below)⟩
      · rw [if_neg hp]
        have hV := Lib.hid (fun w hX => lx_value_no (rest d (a + 1)) t k b w hp hk ht hX)
        have hp' := Lib.hid hp
        generalize (parseS (rest d (a + 1))).2 = E at hV hp' ⊢
        generalize decV d a = v at hW
        generalize d.extract 0 a = da at hC' hW
        generalize rest d (a + 1) = db at hC' hV
        clear hC hwa hX hE hh h0 h1 hv hp hdv
        go_enter Tryz.func129, Tryz.ntmps129
        go_wp2_with fail
        refine abs_calls3 (T := NInv w) ?_ hN'.out
        intro W hN2
        have hN2' := Lib.hid hN2
        clear hN2 hN'
        refine (hC'.out _).mono ?_
        rintro e w' ⟨rfl, x, rfl⟩
        go_wp2_with fail
        refine (hW.out _).mono ?_
        rintro e w' ⟨rfl, y, rfl⟩
        go_wp2_with fail
        refine (hV.out _ (((hN2'.out.plus x).plus y).lx hX'.out)).mono ?_
        rintro e w' ⟨rfl, z, rfl⟩
        go_wp2
        exact ⟨rfl, NumEnds.no hp'.out (plus_of_below (((hN2'.out.plus x).plus y).plus z).below)⟩
end Go.Proofs.YtkffjjlmoojffaaGreatDoor
namespace Go.Proofs.YtkffjjlmoojffaaGreatDoor
open Go.RowKit
def markTab : Array ByteArray := #[⟨#[38, 38, 38]⟩, ⟨#[61, 61]⟩, ⟨#[33, 61]⟩, ⟨#[60, 61]⟩, ⟨#[62, 61]⟩, ⟨#[60, 60]⟩, ⟨#[62, 62]⟩, ⟨#[38, 38]⟩, ⟨#[124, 124]⟩, ⟨#[43, 43]⟩, ⟨#[45, 62]⟩, ⟨#[123]⟩, ⟨#[125]⟩, ⟨#[40]⟩, ⟨#[41]⟩, ⟨#[91]⟩, ⟨#[93]⟩, ⟨#[59]⟩, ⟨#[58]⟩, ⟨#[44]⟩, ⟨#[61]⟩, ⟨#[60]⟩, ⟨#[62]⟩, ⟨#[43]⟩, ⟨#[45]⟩, ⟨#[38]⟩, ⟨#[124]⟩, ⟨#[94]⟩, ⟨#[126]⟩, ⟨#[33]⟩, ⟨#[46]⟩, ⟨#[47]⟩]
def markAt (k : Nat) : ByteArray := markTab.getD k ByteArray.empty
def markCells : List Value := (List.range 32).map fun k => .string (markAt k)
theorem mark_len : markCells.length = 32 := by unfold markCells; simp
theorem mark_cell (k : Nat) (h : k < 32) : markCells[k]? = some (.string (markAt k)) := by
  unfold markCells
  rw [List.getElem?_map, List.getElem?_range h]
  rfl
theorem mark_lo (k : Nat) (h : k < 11) : markAt k = longAt k := by
  have hall : ∀ k : Nat, k < 11 → markAt k = longAt k := by decide +kernel
  exact hall k h
theorem mark_hi (j : Nat) (h : j < 21) : (markAt (11 + j)).size = 1 ∧ byN (markAt (11 + j)) 0 = byN shortT j := by
  have hall : ∀ j : Nat, j < 21 → (markAt (11 + j)).size = 1 ∧ byN (markAt (11 + j)) 0 = byN shortT j := by decide +kernel
  exact hall j h
theorem mark_size (k : Nat) (h : k < 32) : 1 ≤ (markAt k).size ∧ (markAt k).size ≤ 3 := by
  have hall : ∀ k : Nat, k < 32 → 1 ≤ (markAt k).size ∧ (markAt k).size ≤ 3 := by decide +kernel
  exact hall k h
theorem fit_one (s : ByteArray) (a : Nat) (m : ByteArray) (hm : m.size = 1) : fitB s a m = decide (byN m 0 = byN s a) := by
  have h0 : byN m 0 = (m[0]).toNat := byN_at (by omega)
  unfold fitB
  rw [Bool.eq_iff_iff, decide_eq_true_eq, decide_eq_true_eq, hm]
  constructor
  · rintro ⟨h1, h2⟩
    have := byN_extract s a (a + 1) 0 (by omega)
    rw [h2] at this
    exact this
  · intro h
    have hlt : a < s.size := by
      rcases Nat.lt_or_ge a s.size with g | g
      · exact g
      · have := (m[0]).toNat_lt
        rw [byN_past g] at h
        omega
    refine ⟨by omega, ?_⟩
    rw [h0, byN_at hlt] at h
    rw [ByteArray.extract_add_one (by omega)]
    apply ByteArray.ext_getElem
    · simp [hm]
    · intro i h1 h2
      obtain rfl : i = 0 := by omega
      simp [ByteArray.getElem_eq_getElem_data] at h ⊢
      exact (UInt8.toNat_inj.1 h).symm
theorem mark_first {s : ByteArray} {a k : Nat} (hk : k < 32) (hf : fitB s a (markAt k) = true) (hno : ∀ j, j < k → fitB s a (markAt j) = false) : markN s a = (markAt k).size ∧ s.extract a (a + markN s a) = markAt k := by
  have hfit : s.extract a (a + (markAt k).size) = markAt k := by
    unfold fitB at hf
    rw [decide_eq_true_eq] at hf
    exact hf.2
  have hn : markN s a = (markAt k).size := by
    rcases Nat.lt_or_ge k 11 with h | h
    · rw [mark_lo k h] at hf ⊢
      exact mark_long h hf fun j hj => by rw [← mark_lo j (by omega)]; exact hno j hj
    · obtain ⟨j, rfl⟩ : ∃ j, k = 11 + j := ⟨k - 11, by omega⟩
      obtain ⟨h1, h2⟩ := mark_hi j (by omega)
      rw [fit_one s a _ h1, decide_eq_true_eq, h2] at hf
      rw [mark_short fun i hi => by rw [← mark_lo i hi]; exact hno i (by omega), short_yes (by omega) hf, if_pos rfl, h1]
  exact ⟨hn, by rw [hn]; exact hfit⟩
theorem mark_nothing {s : ByteArray} {a : Nat} (hno : ∀ j, j < 32 → fitB s a (markAt j) = false) : markN s a = 0 := by
  rw [mark_short fun i hi => by rw [← mark_lo i hi]; exact hno i (by omega), short_no fun j hj e => ?_, if_neg (by simp)]
  obtain ⟨h1, h2⟩ := mark_hi j hj
  have := hno (11 + j) (by omega)
  rw [fit_one s a _ h1, h2, decide_eq_true e] at this
  cases this
def Marks (w : World) : Prop := ∀ k, k < 32 → w.cell? ⟨1, k, none⟩ = some (.string (markAt k))
theorem Marks.below {w w' : World} {n : Nat} (h : Marks w) (hB : Below n w w') (h1 : 1 < n) : Marks w' := fun k hk => (hB.cell (p := ⟨_, k, none⟩) h1).trans (h k hk)
theorem Marks.plus {w : World} (h : Marks w) (x : Ext) : Marks (plus w x) := h.below (below_plus w x) (cell_lt (h 0 (by decide)))
theorem Marks.range {w : World} (h : Marks w) : w.rangeAt 1 0 markCells := fun j v hj => by
  have hlt := (List.getElem?_eq_some_iff.1 hj).1
  rw [mark_len] at hlt
  rw [mark_cell j hlt] at hj
  rw [Nat.zero_add, ← hj]
  exact h j hlt
theorem marks_info : (Tryz.prog.info? 190).map (·.size) = some 32 := by kernel_rfl
theorem mark_index (k : Nat) (h : k < 32) (w : World) : (Instr.index 190 (.agg markCells.toArray) (.int .i64 (k : Int))).run Tryz.prog w = .ok (.string (markAt k)) w := by
  have hc := mark_cell k h
  simp [Instr.index, run_underlying Tryz.underlying190, asIntOf, go_sem, hc]
  intro h2
  omega
def MarkEnds (w : World) (s : ByteArray) (k : Nat) (e : Ending) (w' : World) : Prop := (¬ markN s k = 0 → Back w (tokV ⟨3, s.extract k (k + markN s k), 0, 0, k⟩) e w') ∧ (markN s k = 0 → Gives w 4 (lineOf s k : Nat) (colOf s k : Nat) e w')
theorem tok_three (m : ByteArray) (k : Nat) : tokV ⟨3, m, 0, 0, k⟩ = .agg #[.int .u8 3, .string m, .int .i64 0, .int .u64 0, .int .u64 0, .int .i64 (k : Int)] := by
  unfold tokV tokL hi lo
  simp
set_option maxHeartbeats 4000000 in
theorem lx_mark (s : ByteArray) (k b : Nat) (w : World) (hk : k < s.size) (hs : s.size ≤ 140737488355328) (hX : Lx w b s k) (hM : Marks w) :
    Calls Tryz.prog 127 #[.pointer (some ⟨b, 0, none⟩)] w (MarkEnds w s k) := by
  obtain ⟨W, hW, hB, hz, ca, fa⟩ := box1 w #[.int .u8 0, .string ⟨#[]⟩, .int .i64 0, .int .u64 0, .int .u64 0, .int .i64 0] 60
  have hMW : Marks W := by obtain ⟨x, rfl⟩ := plus_of_below hB; exact hM.plus x
  have hXW : Lx W b s k := hW ▸ hX.alloc _
  have hr := Lib.hid hMW.range
  obtain ⟨A, hA⟩ : ∃ A, markCells.toArray = A := ⟨_, rfl⟩
  have hF := Lib.hid (fun w h => lx_fault s k b 4 w (by decide) (by omega) hs h)
  have hB' := Lib.hid hB
  have hXW' := Lib.hid hXW
  have z0 := ca 0 (some (.int .u8 0)) rfl
  have z1 := ca 1 (some (.string ⟨#[]⟩)) rfl
  have z2 := ca 2 (some (.int .i64 0)) rfl
  have z3 := ca 3 (some (.int .u64 0)) rfl
  have z4 := ca 4 (some (.int .u64 0)) rfl
  have z5 := ca 5 (some (.int .i64 0)) rfl
  clear hX hM hMW hB ca
  go_enter Tryz.func127, Tryz.ntmps127
  go_wp2_with (first | refine wpList_load_mid rfl 190 _ rfl 1 0 rfl markCells _ (hW ▸ hr.out) Tryz.underlying190 rfl (by rw [mark_len]; exact marks_info) ?_ | fail)
  rw [← hW]
  clear hW
  have hA' := Lib.hid hA
  have hz' : w.heap.size < W.heap.size := by omega
  clear hz hA
  go_loopw [6] (fun iv wr => ∃ i : Nat, i ≤ 32 ∧ iv = .int .i64 (i : Int) ∧ (∃ y, wr = plus W y) ∧ ∀ j, j < i → fitB s k (markAt j) = false) (fun iv _ => 32 - (intOf iv).toNat)
  case atStart => exact ⟨0, Nat.zero_le _, rfl, ⟨⟨#[], W.drawn⟩, (plus_self W).symm⟩, fun j hj => absurd hj (by omega)⟩
  case round =>
    obtain ⟨i, hi, rfl, ⟨y, rfl⟩, hno⟩ := hrel
    have hno' := Lib.hid hno
    clear hno
    by_cases hlt : i < 32
    · have hix := mark_index i hlt
      rw [hA'.out] at hix
      have c1 := plus_cell hXW.lt hXW.c1
      have hP := lib_prefix s (markAt i) k (by omega)
      have hfst := Lib.hid (mark_first (s := s) (a := k) hlt)
      obtain ⟨m, hm⟩ : ∃ m, markAt i = m := ⟨_, rfl⟩
      have hm' := Lib.hid hm
      rw [hm] at hix hP hfst
      clear hm hXW
      cases hf : fitB s k m with
      | true =>
        rw [hf] at hP
        have hP' := Lib.hid hP
        have hAt := Lib.hid (fun w h => lx_at s k b w (by omega) hs h)
        obtain ⟨e1, e2⟩ := hfst.out hf hno'.out
        have hE : Hid (¬ markN s k = 0 ∧ s.extract k (k + markN s k) = m) := ⟨by rw [e1, ← hm'.out]; have := (mark_size i hlt).1; omega, e2⟩
        clear hP hf e1 e2
        go_wp2_with fail
        refine (hP'.out.at _ _).mono ?_
        rintro e w' ⟨rfl, x, rfl⟩
        go_wp2_with fail
        refine (hAt.out _ (hXW'.out.plus _)).mono ?_
        rintro e w' ⟨rfl, x2, rfl⟩
        rw [plus_plus]
        generalize (⟨x.blocks ++ x2.blocks, x2.draws⟩ : Ext) = x3
        go_wp2
        refine bodyPost_ret (v := tokV ⟨3, m, 0, 0, k⟩) ?_ rfl ⟨fun _ => ?_, fun h => absurd h hE.out.1⟩
        · rw [tok_three]; simp [results, Tryz.results127, go_sem, z0, z1, z2, z3, z4, z5]
        · rw [hE.out.2]
          refine ⟨rfl, ?_⟩
          exact plus_of_below (((((((hB'.out.trans ((below_plus W x3).mono hB'.out.size)).setCell (p := ⟨w.heap.size, _, none⟩) (Nat.le_refl _) _).setCell (p := ⟨w.heap.size, _, none⟩) (Nat.le_refl _) _).setCell (p := ⟨w.heap.size, _, none⟩) (Nat.le_refl _) _).setCell (p := ⟨w.heap.size, _, none⟩) (Nat.le_refl _) _).setCell (p := ⟨w.heap.size, _, none⟩) (Nat.le_refl _) _).setCell (p := ⟨w.heap.size, _, none⟩) (Nat.le_refl _) _)
      | false =>
        rw [hf] at hP
        have hP' := Lib.hid hP
        have hf' := Lib.hid hf
        clear hP hf
        go_wp2_with fail
        refine (hP'.out.at _ _).mono ?_
        rintro e w' ⟨rfl, x, rfl⟩
        go_wp2
        go_roundw
        case rel =>
          refine ⟨i + 1, by omega, by go_num, ⟨x, rfl⟩, fun j hj => ?_⟩
          rcases Nat.lt_or_ge j i with h | h
          · exact hno'.out j h
          · rw [show j = i by omega, hm'.out]; exact hf'.out
        case measure => simp [intOf]; omega
    · have hnone := Lib.hid (mark_nothing (s := s) (a := k) fun j hj => hno'.out j (by omega))
      go_wp2_with fail
      refine (hF.out _ (hXW'.out.plus _)).mono ?_
      rintro e w' ⟨rfl, x, rfl⟩
      go_wp2
      refine ⟨rfl, fun h => absurd hnone.out h, fun _ => ⟨rfl, ?_⟩⟩
      exact plus_of_below ((hB'.out.trans ((below_plus W y).mono hB'.out.size)).trans ((below_plus _ x).mono (Nat.le_trans hB'.out.size (size_plus W y))))
end Go.Proofs.YtkffjjlmoojffaaGreatDoor
