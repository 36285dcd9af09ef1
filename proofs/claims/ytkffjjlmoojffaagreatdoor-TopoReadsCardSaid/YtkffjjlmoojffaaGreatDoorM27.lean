/-
  WHAT IS PROVED HERE: a part of the proof of the claim's theorem: NetK.
-/
import Derived.Test.YtkffjjlmoojffaaGreatDoorRows
import Derived.Test.YtkffjjlmoojffaaGreatDoorM26
import Derived.Deep.RegionHeld3
import Derived.Deep.CutRange
set_option linter.all false
namespace Go.Proofs.YtkffjjlmoojffaaGreatDoor
open Go.RowKit
structure Kn (b : Nat) (zs : List (Nat × List Value)) (W : World) : Prop where
  all : ∀ z cs, (z, cs) ∈ zs → b < z ∧ z < W.heap.size ∧ (∀ i v, cs[i]? = some v → W.cell? ⟨z, i, none⟩ = some v) ∧ ∀ o, W.frozen? ⟨z, o, none⟩ = false
theorem Kn.nil (b : Nat) (W : World) : Kn b [] W := ⟨fun _ _ h => by cases h⟩
theorem Kn.grown {b : Nat} {zs : List (Nat × List Value)} {W W' : World} (h : Kn b zs W) (hg : W.grownBy W' (some b)) : Kn b zs W' := by
  refine ⟨fun z cs hz => ?_⟩
  obtain ⟨h1, h2, h3, h4⟩ := h.all z cs hz
  have hb := hg.block z h2 (fun e => by have := Option.some.inj e; omega)
  exact ⟨h1, Nat.lt_of_lt_of_le h2 hg.size, fun i v hv => (World.cell?_of_block (w := W) (a := ⟨z, i, none⟩) hb).trans (h3 i v hv), fun o => (World.frozen?_of_block (w := W) (a := ⟨z, o, none⟩) hb).trans (h4 o)⟩
theorem Kn.plus {b : Nat} {zs : List (Nat × List Value)} {W : World} (h : Kn b zs W) (x : Ext) : Kn b zs (plus W x) := h.grown (grown_plus_any _ _ _)
theorem Kn.new {b : Nat} {zs : List (Nat × List Value)} {W : World} (h : Kn b zs W) (hb : b < W.heap.size) (cs : List Value) (T : TypeId) : Kn b ((W.heap.size, cs) :: zs) (W.alloc (.cells cs.toArray T)) := by
  refine ⟨fun z cs' hz => ?_⟩
  rw [List.mem_cons] at hz
  rcases hz with hz | hz
  · obtain ⟨rfl, rfl⟩ := Prod.mk.inj hz
    exact ⟨hb, by simp, fun i v hv => (cell_new W _ T _ i rfl).trans (by simpa using hv), fun o => frozen_new W _ T _ o rfl⟩
  · exact (h.grown (grown_alloc W _ _)).all z cs' hz
theorem Kn.cell {b : Nat} {zs : List (Nat × List Value)} {W : World} (h : Kn b zs W) (z : Nat) (cs : List Value) (hz : (z, cs) ∈ zs) (i : Nat) (v : Value) (hv : cs[i]? = some v) : W.cell? ⟨z, i, none⟩ = some v := (h.all z cs hz).2.2.1 i v hv
theorem Kn.frozen {b : Nat} {zs : List (Nat × List Value)} {W : World} (h : Kn b zs W) (z : Nat) (cs : List Value) (hz : (z, cs) ∈ zs) (o : Nat) : W.frozen? ⟨z, o, none⟩ = false := (h.all z cs hz).2.2.2 o
def Up (U X : World) : Prop := ∃ z, X = plus U z
theorem Up.drew {U X : World} (h : Up U X) : Up U X.drew := by obtain ⟨z, rfl⟩ := h; exact ⟨⟨z.blocks, z.draws + 1⟩, rfl⟩
theorem Up.plus {U X : World} (h : Up U X) (x : Ext) : Up U (Go.Proofs.YtkffjjlmoojffaaGreatDoor.plus X x) := by obtain ⟨z, rfl⟩ := h; exact ⟨_, plus_plus _ _ _⟩
theorem Up.self (U : World) : Up U U := ⟨_, (plus_self U).symm⟩
theorem Up.below {U X : World} (h : Up U X) : Below U.heap.size U X := by obtain ⟨z, rfl⟩ := h; exact below_plus _ _
theorem up_of {U X : World} (h : Below U.heap.size U X) : Up U X := plus_of_below h
theorem Up.alloc {U X : World} (h : Up U X) (o : Obj) : Up U (X.alloc o) := up_of (h.below.alloc h.below.size o)
theorem Up.set {U X : World} (h : Up U X) {n : Nat} (hn : U.heap.size ≤ n) (i : Nat) (v : Value) : Up U (X.setCell ⟨n, i, none⟩ v) := up_of (h.below.setCell (p := ⟨n, i, none⟩) hn v)
theorem Up.size {U X : World} (h : Up U X) : U.heap.size ≤ X.heap.size := h.below.size
def NetOk (w : World) (b : Nat) (sw po li : Value) (pvs : List Sl3) (n : Net') : Prop := ∀ W, w.grownBy W (some b) → Lies W 1 strC sw n.names ∧ PortsAt W po pvs n.ports ∧ Lies W 4 linkC li n.links
theorem NetOk.up {w w' : World} {b : Nat} {sw po li : Value} {pvs : List Sl3} {n : Net'} (h : NetOk w b sw po li pvs n) (hg : w.grownBy w' (some b)) : NetOk w' b sw po li pvs n := fun W hW => h W (grown_trans hg hW)
def dEndI (l : List Tok) (n : Net') (d : DS) : Int := findF n.names (dNow l d).s
def dEnd1 (l : List Tok) (n : Net') (d : DS) : DS := dWant l (dFail (decide (0 ≤ dEndI l n d)) (dNow l d) 7 (dName l d)) wColon
def dEndE (l : List Tok) (n : Net') (d : DS) : End' := ⟨dEndI l n d, dPortV l (dEnd1 l n d)⟩
def dEnd (l : List Tok) (n : Net') (d : DS) : DS :=
  dFail (!(nextV (thereD n.ports (dEndE l n d)) n.links (dEndE l n d)).2.2) (dNow l (dEnd1 l n d)) 8 (dFail (nextV (thereD n.ports (dEndE l n d)) n.links (dEndE l n d)).2.1 (dNow l (dEnd1 l n d)) 7 (dPort l (dEnd1 l n d)))
section
variable {w : World} {b g cap : Nat} {l : List Tok} {sw po li : Value} {d : DS}
theorem fin_set {X : World} (h : w.grownBy X (some b) ∧ Rd X b g cap l sw po li d) {m : Nat} (hm : w.heap.size ≤ m) (hb : ¬ m = b) (hg : ¬ m = g) (i : Nat) (v : Value) : w.grownBy (X.setCell ⟨m, i, none⟩ v) (some b) ∧ Rd (X.setCell ⟨m, i, none⟩ v) b g cap l sw po li d := ⟨grown_new h.1 hm i v, h.2.set hb hg i v⟩
theorem fin_drew {X : World} (h : w.grownBy X (some b) ∧ Rd X b g cap l sw po li d) : w.grownBy X.drew (some b) ∧ Rd X.drew b g cap l sw po li d := ⟨⟨h.1.os, h.1.tape, h.1.output, h.1.size, h.1.block⟩, h.2.keep (Nat.le_refl _) rfl rfl⟩
set_option maxRecDepth 100000 in
set_option maxHeartbeats 8000000 in
theorem dc_end {z : Nat} (hl : TL l z) (h : Rd w b g cap l sw po li d) (hk : d.bad = false → d.k < l.length) (pvs : List Sl3) (n : Net') (hN : NetOk w b sw po li pvs n) (hb1 : n.names.length ≤ 1048576) (hb2 : n.ports.length ≤ 1048576) (hb3 : n.links.length ≤ 1048576) :
    Calls Tryz.prog 25 #[.pointer (some ⟨b, 0, none⟩)] w (RdEnds w b g cap l sw po li (.tuple #[tokA (dNow l (dEnd1 l n d)), endV (dEndE l n d)]) (dEnd l n d)) := by
  have hb := h.lt
  obtain ⟨i, hii⟩ : ∃ i, dEndI l n d = i := ⟨_, rfl⟩
  obtain ⟨t, ht⟩ : ∃ t, dNow l d = t := ⟨_, rfl⟩
  have hif : findF n.names t.s = i := by rw [← hii, ← ht]; rfl
  obtain ⟨d1, hd1⟩ : ∃ x, dName l d = x := ⟨_, rfl⟩
  have hdk1 := dName_lt hl d hk
  rw [hd1] at hdk1
  obtain ⟨B2, hB2⟩ : ∃ B, decide (0 ≤ i) = B := ⟨_, rfl⟩
  obtain ⟨d2, hd2⟩ : ∃ x, dFail B2 t 7 d1 = x := ⟨_, rfl⟩
  have hdk2 : d2.bad = false → d2.k < l.length := by rw [← hd2]; exact dFail_lt _ _ _ _ hdk1
  obtain ⟨d3, hd3⟩ : ∃ x, dWant l d2 wColon = x := ⟨_, rfl⟩
  have hdk3 : d3.bad = false → d3.k < l.length := by rw [← hd3]; exact dWant_lt hl _ _ hdk2
  have h13 : dEnd1 l n d = d3 := by unfold dEnd1; rw [hii, ht, hd1, hB2, hd2, hd3]
  obtain ⟨t5, ht5⟩ : ∃ t, dNow l d3 = t := ⟨_, rfl⟩
  obtain ⟨p, hp⟩ : ∃ p, dPortV l d3 = p := ⟨_, rfl⟩
  obtain ⟨d4, hd4⟩ : ∃ x, dPort l d3 = x := ⟨_, rfl⟩
  have hE : dEndE l n d = ⟨i, p⟩ := by unfold dEndE; rw [hii, h13, hp]
  obtain ⟨⟨NE, BT, BL⟩, hNV⟩ : ∃ x, nextV (thereD n.ports ⟨i, p⟩) n.links ⟨i, p⟩ = x := ⟨_, rfl⟩
  obtain ⟨d5, hd5⟩ : ∃ x, dFail BT t5 7 d4 = x := ⟨_, rfl⟩
  obtain ⟨d6, hd6⟩ : ∃ x, dFail (!BL) t5 8 d5 = x := ⟨_, rfl⟩
  have hD : dEnd l n d = d6 := by unfold dEnd; rw [hE, h13, hNV, ht5, hd4]; simp only; rw [hd5, hd6]
  rw [hD, h13, ht5, hE]
  have hW0 : ∀ (T1 T2 : TypeId), Hid (Kn b [(w.heap.size + 1, [.int .i64 0, .int .i64 0]), (w.heap.size, [.int .u8 0, .string ⟨#[]⟩, .int .i64 0, .int .u64 0, .int .u64 0, .int .i64 0])] ((w.alloc (.cells #[.int .u8 0, .string ⟨#[]⟩, .int .i64 0, .int .u64 0, .int .u64 0, .int .i64 0] T1)).alloc (.cells #[.int .i64 0, .int .i64 0] T2)) ∧ Rd ((w.alloc (.cells #[.int .u8 0, .string ⟨#[]⟩, .int .i64 0, .int .u64 0, .int .u64 0, .int .i64 0] T1)).alloc (.cells #[.int .i64 0, .int .i64 0] T2)) b g cap l sw po li d ∧ w.grownBy ((w.alloc (.cells #[.int .u8 0, .string ⟨#[]⟩, .int .i64 0, .int .u64 0, .int .u64 0, .int .i64 0] T1)).alloc (.cells #[.int .i64 0, .int .i64 0] T2)) (some b)) := fun T1 T2 => by
    have hz : (w.alloc (.cells #[.int .u8 0, .string ⟨#[]⟩, .int .i64 0, .int .u64 0, .int .u64 0, .int .i64 0] T1)).heap.size = w.heap.size + 1 := by simp
    have k1 := (Kn.nil b w).new hb [.int .u8 0, .string ⟨#[]⟩, .int .i64 0, .int .u64 0, .int .u64 0, .int .i64 0] T1
    have k2 := k1.new (by simp; omega) [.int .i64 0, .int .i64 0] T2
    have e : (w.alloc (.cells ([.int .u8 0, .string ⟨#[]⟩, .int .i64 0, .int .u64 0, .int .u64 0, .int .i64 0] : List Value).toArray T1)).heap.size = w.heap.size + 1 := by simp
    rw [e] at k2
    exact ⟨k2, (h.alloc _).alloc _, grown_trans (grown_alloc _ _ _) (grown_alloc _ _ _)⟩
  have hW := hW0 60 41
  have hC1 := Lib.hid (fun w h => dc_name (w := w) (b := b) (g := g) (cap := cap) (l := l) (sw := sw) (po := po) (li := li) (d := d) hl h hk)
  rw [ht, hd1] at hC1
  have hC2 := Lib.hid (fun w h => dc_fail (w := w) (b := b) (g := g) (cap := cap) (l := l) (sw := sw) (po := po) (li := li) (d := d1) h B2 t 7)
  rw [hd2] at hC2
  have hC3 := Lib.hid (fun w h => dc_want (w := w) (b := b) (g := g) (cap := cap) (l := l) (sw := sw) (po := po) (li := li) (d := d2) hl h hdk2 wColon)
  rw [hd3] at hC3
  have hC4 := Lib.hid (fun w h => dc_port (w := w) (b := b) (g := g) (cap := cap) (l := l) (sw := sw) (po := po) (li := li) (d := d3) hl h hdk3)
  rw [ht5, hp, hd4] at hC4
  have hC5 := Lib.hid (fun w h => dc_fail (w := w) (b := b) (g := g) (cap := cap) (l := l) (sw := sw) (po := po) (li := li) (d := d4) h BT t5 7)
  rw [hd5] at hC5
  have hC6 := Lib.hid (fun w h => dc_fail (w := w) (b := b) (g := g) (cap := cap) (l := l) (sw := sw) (po := po) (li := li) (d := d5) h (!BL) t5 8)
  rw [hd6] at hC6
  obtain ⟨⟨p1, c1, rfl, -⟩, ⟨⟨p2, c2, rfl, -⟩, -, -⟩, p3, c3, rfl, -⟩ := hN w (grown_refl w _)
  obtain ⟨n1, hn1⟩ : ∃ n1, n.names.length = n1 := ⟨_, rfl⟩
  obtain ⟨n2, hn2⟩ : ∃ n2, pvs.length = n2 := ⟨_, rfl⟩
  obtain ⟨n3, hn3⟩ : ∃ n3, n.links.length = n3 := ⟨_, rfl⟩
  rw [hn1, hn2, hn3] at hN hC1 hC2 hC3 hC4 hC5 hC6 hW ⊢
  have hFi := Lib.hid (fun (W : World) (hg : w.grownBy W (some b)) => dc_find (w := W) (.slice p1 n1 c1) n.names t.s p2 p3 n2 c2 n3 c3 (hN W hg).1 hb1)
  rw [hif] at hFi
  have hNx := Lib.hid (fun (W : World) (hg : w.grownBy W (some b)) => dc_next (w := W) (.slice p2 n2 c2) (.slice p3 n3 c3) pvs n.ports n.links ⟨i, p⟩ p1 n1 c1 (hN W hg).2.1 hb2 (hN W hg).2.2 hb3)
  rw [hNV] at hNx
  simp only at hNx
  have hgw : Hid (g < w.heap.size) := Lib.hid h.glt
  have q2 : (decide (0 ≤ i)) = B2 := hB2
  obtain ⟨K, hK⟩ : ∃ K, (t.kind : Int) = K := ⟨_, rfl⟩
  obtain ⟨K5, hK5⟩ : ∃ K, (t5.kind : Int) = K := ⟨_, rfl⟩
  have hTA : Hid (tokA t = .agg #[.int .u8 K, .string t.s, .int .i64 t.w, .int .u64 (hi t.n), .int .u64 (lo t.n), .int .i64 (t.at_ : Int)]) := by show _ = _; rw [← hK]
  have hTA5 : Hid (tokA t5 = .agg #[.int .u8 K5, .string t5.s, .int .i64 t5.w, .int .u64 (hi t5.n), .int .u64 (lo t5.n), .int .i64 (t5.at_ : Int)]) := by show _ = _; rw [← hK5]
  rw [hTA.out] at hC1 hC2
  rw [hTA5.out] at hC4 hC5 hC6
  clear h hk hN hW0 hii ht hif hd1 hdk1 hB2 hd2 hdk2 hd3 hdk3 h13 ht5 hp hd4 hE hNV hd5 hd6 hD hb1 hb2 hb3 hn1 hn2 hn3 hK hK5 hl
  go_enter Tryz.func25, Tryz.ntmps25
  go_upto_region 1 with (fail)
  obtain ⟨W0, hW0⟩ : ∃ X, (w.alloc (.cells #[.int .u8 0, .string ⟨#[]⟩, .int .i64 0, .int .u64 0, .int .u64 0, .int .i64 0] 60)).alloc (.cells #[.int .i64 0, .int .i64 0] 41) = X := ⟨_, rfl⟩
  rw [hW0] at hW ⊢
  clear hW0
  go_wp2_with fail
  refine (hC1.out _ hW.out.2.1).mono ?_
  rintro e X1 ⟨rfl, hg1, hX1⟩
  have hK1 := hW.out.1.grown hg1
  have hG1 := grown_trans hW.out.2.2 hg1
  go_upto_region 2 with (fail)
  obtain ⟨W2, hW2⟩ : ∃ X, X1.alloc (.cells #[.int .u8 K, .string t.s, .int .i64 t.w, .int .u64 (hi t.n), .int .u64 (lo t.n), .int .i64 (t.at_ : Int)] 60) = X := ⟨_, rfl⟩
  have hKW2 := hK1.new (Nat.lt_of_lt_of_le hb hG1.size) [.int .u8 K, .string t.s, .int .i64 t.w, .int .u64 (hi t.n), .int .u64 (lo t.n), .int .i64 (t.at_ : Int)] 60
  have hXW2 := hX1.alloc (.cells #[.int .u8 K, .string t.s, .int .i64 t.w, .int .u64 (hi t.n), .int .u64 (lo t.n), .int .i64 (t.at_ : Int)] 60)
  have hGW2 := grown_trans hG1 (grown_alloc X1 (.cells #[.int .u8 K, .string t.s, .int .i64 t.w, .int .u64 (hi t.n), .int .u64 (lo t.n), .int .i64 (t.at_ : Int)] 60) (some b))
  change Kn b _ (X1.alloc (.cells #[.int .u8 K, .string t.s, .int .i64 t.w, .int .u64 (hi t.n), .int .u64 (lo t.n), .int .i64 (t.at_ : Int)] 60)) at hKW2
  rw [hW2] at hKW2 hXW2 hGW2 ⊢
  clear hW2
  clear hg1 hK1 hG1 hX1 hW hC1
  generalize X1.heap.size = z4 at hKW2 ⊢
  have e2 := plus_cell hXW2.lt hXW2.c2
  have e3 := plus_cell hXW2.lt hXW2.c3
  have e4 := plus_cell hXW2.lt hXW2.c4
  have tS := fun y => (hKW2.plus y).cell z4 _ (.head _) 1 _ rfl
  have hFi2 := Lib.hid (fun y => (hFi.out (Go.Proofs.YtkffjjlmoojffaaGreatDoor.plus W2 y) (grown_trans hGW2 (grown_plus_any _ _ _))).mono (fun _ _ ⟨he, z, hz⟩ => (⟨he, _, hz.trans (plus_plus _ _ _)⟩ : (_ = Ending.returned (.int .i64 i)) ∧ ∃ z, _ = Go.Proofs.YtkffjjlmoojffaaGreatDoor.plus W2 z)))
  replace hKW2 := Lib.hid hKW2
  replace hXW2 := Lib.hid hXW2
  replace hGW2 := Lib.hid hGW2
  clear hFi
  refine wp_region_own_tail0 7 (by kernel_rfl) (by kernel_rfl) ?_
  simp only [List.take_succ_cons, List.take_zero, List.drop_succ_cons, List.drop_zero]
  repeat (go_big_quiet_step (first | (with_reducible exact hFi2.out _)))
  refine wpQuiet_nil ?_
  rintro _ ⟨y2, rfl⟩
  clear e2 e3 e4 tS hFi2
  have hKW3 := hKW2.out.plus y2
  have hXW3 := hXW2.out.plus y2
  have hGW3 := grown_trans hGW2.out (grown_plus_any W2 y2 _)
  clear hKW2 hXW2 hGW2
  generalize Go.Proofs.YtkffjjlmoojffaaGreatDoor.plus W2 y2 = W3 at hKW3 hXW3 hGW3 ⊢
  have s0 := hKW3.cell z4 _ (.head _) 0 _ rfl
  have s1 := hKW3.cell z4 _ (.head _) 1 _ rfl
  have s2 := hKW3.cell z4 _ (.head _) 2 _ rfl
  have s3 := hKW3.cell z4 _ (.head _) 3 _ rfl
  have s4 := hKW3.cell z4 _ (.head _) 4 _ rfl
  have s5 := hKW3.cell z4 _ (.head _) 5 _ rfl
  replace hKW3 := Lib.hid hKW3
  replace hXW3 := Lib.hid hXW3
  replace hGW3 := Lib.hid hGW3
  go_wp2_with fail
  refine (hC2.out _ hXW3.out).mono ?_
  rintro e X4 ⟨rfl, hg4, hX4⟩
  have hK4 := Lib.hid (hKW3.out.grown hg4)
  have hG4 := Lib.hid (grown_trans hGW3.out hg4)
  replace hX4 := Lib.hid hX4
  clear s0 s1 s2 s3 s4 s5 hg4 hKW3 hXW3 hGW3 hC2 q2
  go_wp2_with fail
  refine (hC3.out _ hX4.out).mono ?_
  rintro e X5 ⟨rfl, hg5, hX5⟩
  have hK5' := Lib.hid (hK4.out.grown hg5)
  have hG5 := Lib.hid (grown_trans hG4.out hg5)
  replace hX5 := Lib.hid hX5
  clear hg5 hK4 hX4 hG4 hC3
  go_wp2_with fail
  refine (hC4.out _ hX5.out).mono ?_
  rintro e X6 ⟨rfl, hg6, hX6⟩
  have hK6 := hK5'.out.grown hg6
  have hG6 := grown_trans hG5.out hg6
  clear hg6 hK5' hX5 hG5 hC4
  go_upto_region 6 with (fail)
  obtain ⟨W7, hW7⟩ : ∃ X, X6.alloc (.cells #[.int .u8 K5, .string t5.s, .int .i64 t5.w, .int .u64 (hi t5.n), .int .u64 (lo t5.n), .int .i64 (t5.at_ : Int)] 60) = X := ⟨_, rfl⟩
  have hKW7 := hK6.new (Nat.lt_of_lt_of_le hb hG6.size) [.int .u8 K5, .string t5.s, .int .i64 t5.w, .int .u64 (hi t5.n), .int .u64 (lo t5.n), .int .i64 (t5.at_ : Int)] 60
  have hXW7 := hX6.alloc (.cells #[.int .u8 K5, .string t5.s, .int .i64 t5.w, .int .u64 (hi t5.n), .int .u64 (lo t5.n), .int .i64 (t5.at_ : Int)] 60)
  have hGW7 := grown_trans hG6 (grown_alloc X6 (.cells #[.int .u8 K5, .string t5.s, .int .i64 t5.w, .int .u64 (hi t5.n), .int .u64 (lo t5.n), .int .i64 (t5.at_ : Int)] 60) (some b))
  change Kn b _ (X6.alloc (.cells #[.int .u8 K5, .string t5.s, .int .i64 t5.w, .int .u64 (hi t5.n), .int .u64 (lo t5.n), .int .i64 (t5.at_ : Int)] 60)) at hKW7
  rw [hW7] at hKW7 hXW7 hGW7 ⊢
  clear hW7
  clear hK6 hG6 hX6
  generalize X6.heap.size = z6 at hKW7 ⊢
  go_upto_region 7 with (fail)
  obtain ⟨W8, hW8⟩ : ∃ X, W7.alloc (.cells #[.int .i64 i, .int .i64 p] 41) = X := ⟨_, rfl⟩
  have hKW8 := hKW7.new (Nat.lt_of_lt_of_le hb hGW7.size) [.int .i64 i, .int .i64 p] 41
  have hXW8 := hXW7.alloc (.cells #[.int .i64 i, .int .i64 p] 41)
  have hGW8 := grown_trans hGW7 (grown_alloc W7 (.cells #[.int .i64 i, .int .i64 p] 41) (some b))
  change Kn b _ (W7.alloc (.cells #[.int .i64 i, .int .i64 p] 41)) at hKW8
  rw [hW8] at hKW8 hXW8 hGW8 ⊢
  clear hW8
  have z8gt := (hKW7.all (w.heap.size + 1) _ (.tail _ (.tail _ (.head _)))).2.1
  clear hKW7 hGW7 hXW7
  generalize W7.heap.size = z8 at hKW8 z8gt ⊢
  replace z8gt := Lib.hid z8gt
  have e2 := plus_cell hXW8.lt hXW8.c2
  have e3 := plus_cell hXW8.lt hXW8.c3
  have e4 := plus_cell hXW8.lt hXW8.c4
  have g0 := fun y => (hKW8.plus y).cell z8 _ (.head _) 0 _ rfl
  have g1 := fun y => (hKW8.plus y).cell z8 _ (.head _) 1 _ rfl
  replace hKW8 := Lib.hid hKW8
  replace hXW8 := Lib.hid hXW8
  replace hGW8 := Lib.hid hGW8
  have hNx8 : Hid (∀ X, Up W8 X → Calls Tryz.prog 51 #[.agg #[.slice p1 n1 c1, .slice p2 n2 c2, .slice p3 n3 c3], .agg #[.int .i64 i, .int .i64 p]] X (Back X (.tuple #[.agg #[.int .i64 NE.sw, .int .i64 NE.po], .bool BT, .bool BL]))) := Lib.hid (fun X hX => hNx.out X (grown_trans hGW8.out (grown_of_below hX.below _)))
  clear hNx
  go_cut [9, 10, 11] from 36 to 45 (fun s9 s10 s11 wx => s10 = .bool BT ∧ s11 = .bool BL ∧ Up W8 wx)
  case first =>
    refine wp_region_held_drew (S := Up W8) (by kernel_rfl) (Up.self _).drew (fun hHeld => ?_)
    obtain ⟨U0, hU0⟩ : ∃ W, (W8).drew = W := ⟨_, rfl⟩
    rw [hU0] at hHeld ⊢
    clear hU0
    refine wpAnyH_take (i := 0) (v := ?vq0) rfl (by kernel_rfl) (by kernel_rfl) (by kernel_rfl) (fun _ _ _ h => h) (Or.inl ⟨by rfl, ?hq0⟩) hHeld ?rq0
    case hq0 =>
      rintro W ⟨zz, rfl⟩
      go_simp
      try with_reducible rfl
    try simp only [Act.put, List.setIfInBounds_toArray, List.set_cons_zero, List.set_cons_succ]
    refine wpAnyH_take (i := 1) (v := ?vq1) rfl (by kernel_rfl) (by kernel_rfl) (by kernel_rfl) (fun _ _ _ h => h) (Or.inl ⟨by rfl, ?hq1⟩) hHeld ?rq1
    case hq1 =>
      rintro W ⟨zz, rfl⟩
      go_simp
      try with_reducible rfl
    try simp only [Act.put, List.setIfInBounds_toArray, List.set_cons_zero, List.set_cons_succ]
    refine wpAnyH_take (i := 2) (v := ?vq2) rfl (by kernel_rfl) (by kernel_rfl) (by kernel_rfl) (fun _ _ _ h => h) (Or.inl ⟨by rfl, ?hq2⟩) hHeld ?rq2
    case hq2 =>
      rintro W ⟨zz, rfl⟩
      go_simp
      try with_reducible rfl
    try simp only [Act.put, List.setIfInBounds_toArray, List.set_cons_zero, List.set_cons_succ]
    refine wpAnyH_take (i := 3) (v := ?vq3) rfl (by kernel_rfl) (by kernel_rfl) (by kernel_rfl) (fun _ _ _ h => h) (Or.inl ⟨by rfl, ?hq3⟩) hHeld ?rq3
    case hq3 =>
      rintro W ⟨zz, rfl⟩
      go_simp
      try with_reducible rfl
    try simp only [Act.put, List.setIfInBounds_toArray, List.set_cons_zero, List.set_cons_succ]
    refine wpAnyH_take (i := 4) (v := ?vq4) rfl (by kernel_rfl) (by kernel_rfl) (by kernel_rfl) (fun _ _ _ h => h) (Or.inl ⟨by rfl, ?hq4⟩) hHeld ?rq4
    case hq4 =>
      rintro W ⟨zz, rfl⟩
      go_simp
      try with_reducible rfl
    try simp only [Act.put, List.setIfInBounds_toArray, List.set_cons_zero, List.set_cons_succ]
    refine wpAnyH_ready (rs := [5, 10]) (by kernel_rfl) (by simp) ?_
    refine AllReadyH.cons rfl (fun K hK => ?_) ?_
    · go_simp
      have hpX := hHeld
      refine (hNx8.out _ hpX).mono ?_
      rintro r w' ⟨rfl, x, hx⟩
      obtain ⟨U1, hU1⟩ : ∃ W, w' = W := ⟨_, rfl⟩
      have hp1 : Up W8 U1 := by rw [← hU1, hx]; exact hHeld.plus x
      rw [hU1]
      clear hU1 hx hpX
      refine hK.out _ _ hp1 (fun hHeld1 => ?_)
      clear hK K
      try simp only [Act.put, List.setIfInBounds_toArray, List.set_cons_zero, List.set_cons_succ]
      refine wpAnyH_take (i := 6) (v := ?vqa6) rfl (by kernel_rfl) (by kernel_rfl) (by kernel_rfl) (fun _ _ _ h => h) (Or.inl ⟨by rfl, ?hqa6⟩) hHeld1 ?rqa6
      case hqa6 =>
        rintro W ⟨zz, rfl⟩
        go_simp
        try with_reducible rfl
      try simp only [Act.put, List.setIfInBounds_toArray, List.set_cons_zero, List.set_cons_succ]
      refine wpAnyH_take (i := 7) (v := ?vqa7) rfl (by kernel_rfl) (by kernel_rfl) (by kernel_rfl) (fun _ _ _ h => h) (Or.inl ⟨by rfl, ?hqa7⟩) hHeld1 ?rqa7
      case hqa7 =>
        rintro W ⟨zz, rfl⟩
        go_simp
        try with_reducible rfl
      try simp only [Act.put, List.setIfInBounds_toArray, List.set_cons_zero, List.set_cons_succ]
      refine wpAnyH_take (i := 8) (v := ?vqa8) rfl (by kernel_rfl) (by kernel_rfl) (by kernel_rfl) (fun _ _ _ h => h) (Or.inl ⟨by rfl, ?hqa8⟩) hHeld1 ?rqa8
      case hqa8 =>
        rintro W ⟨zz, rfl⟩
        go_simp
        try with_reducible rfl
      try simp only [Act.put, List.setIfInBounds_toArray, List.set_cons_zero, List.set_cons_succ]
      refine wpAnyH_take (i := 9) (v := ?vqa9) rfl (by kernel_rfl) (by kernel_rfl) (by kernel_rfl) (fun _ _ _ h => h) (Or.inl ⟨by rfl, ?hqa9⟩) hHeld1 ?rqa9
      case hqa9 =>
        rintro W ⟨zz, rfl⟩
        go_simp
        try with_reducible rfl
      try simp only [Act.put, List.setIfInBounds_toArray, List.set_cons_zero, List.set_cons_succ]
      refine wpAnyH_ready (rs := [10]) (by kernel_rfl) (by simp) ?_
      refine AllReadyH.cons rfl (fun K hK => ?_) AllReadyH.nil
      go_simp
      refine hK.out _ _ (hp1.alloc _) (fun hHeld2 => ?_)
      clear hK K
      obtain ⟨U2, hU2, hB2', hz2, ca2, fa2⟩ := box1 U1 #[.int .i64 0, .int .i64 0] 41
      rw [← hU2] at hHeld2 ⊢
      have hge2 : (W8).heap.size ≤ U1.heap.size := hp1.size
      clear hU2 hz2 hB2'
      obtain ⟨nb, hnb⟩ : ∃ nb, U1.heap.size = nb := ⟨_, rfl⟩
      rw [hnb] at ca2 fa2 hge2 ⊢
      clear hnb
      have b0 := ca2 0 _ rfl ⟨#[], U2.drawn⟩
      have b1 := ca2 1 _ rfl ⟨#[], U2.drawn⟩
      have fz2 := fa2 ⟨#[], U2.drawn⟩
      rw [plus_self] at b0 b1 fz2
      refine wpAnyH_ready (rs := [11]) (by kernel_rfl) (by simp) ?_
      refine AllReadyH.cons rfl (fun K hK => ?_) AllReadyH.nil
      go_simp
      refine hK.out _ _ ((hHeld2.set (by simpa using hge2) 0 _).set (by simpa using hge2) 1 _) (fun hHeld9 => ?_)
      clear hK K
      refine wpAnyH_ready (rs := [12]) (by kernel_rfl) (by simp) ?_
      refine AllReadyH.cons rfl (fun K hK => ?_) AllReadyH.nil
      go_simp
      refine hK.out _ _ hHeld9 (fun hHeld10 => ?_)
      clear hK K
      refine wpAnyH_ready (rs := [13]) (by kernel_rfl) (by simp) ?_
      refine AllReadyH.cons rfl (fun K hK => ?_) AllReadyH.nil
      go_simp
      refine hK.out _ _ hHeld10 (fun hHeld11 => ?_)
      clear hK K
      refine wpAnyH_done (by kernel_rfl) ?_ _
      go_wp2_with fail
      go_meet
      exact ⟨rfl, rfl, hHeld11⟩
    · refine AllReadyH.cons rfl (fun K hK => ?_) AllReadyH.nil
      go_simp
      refine hK.out _ _ (hHeld.alloc _) (fun hHeld2 => ?_)
      clear hK K
      obtain ⟨U2, hU2, hB2', hz2, ca2, fa2⟩ := box1 U0 #[.int .i64 0, .int .i64 0] 41
      rw [← hU2] at hHeld2 ⊢
      have hge2 : (W8).heap.size ≤ U0.heap.size := hHeld.size
      clear hU2 hz2 hB2'
      obtain ⟨nb, hnb⟩ : ∃ nb, U0.heap.size = nb := ⟨_, rfl⟩
      rw [hnb] at ca2 fa2 hge2 ⊢
      clear hnb
      refine wpAnyH_ready (rs := [5]) (by kernel_rfl) (by simp) ?_
      refine AllReadyH.cons rfl (fun K hK => ?_) AllReadyH.nil
      go_simp
      have hpX := hHeld2
      refine (hNx8.out _ hpX).mono ?_
      rintro r w' ⟨rfl, x, hx⟩
      have hHeld3 : Up W8 w' := by rw [hx]; exact hHeld2.plus x
      refine hK.out _ _ hHeld3 (fun hHeld4 => ?_)
      clear hK K
      try simp only [Act.put, List.setIfInBounds_toArray, List.set_cons_zero, List.set_cons_succ]
      refine wpAnyH_take (i := 6) (v := ?vqb6) rfl (by kernel_rfl) (by kernel_rfl) (by kernel_rfl) (fun _ _ _ h => h) (Or.inl ⟨by rfl, ?hqb6⟩) hHeld4 ?rqb6
      case hqb6 =>
        rintro W ⟨zz, rfl⟩
        go_simp
        try with_reducible rfl
      try simp only [Act.put, List.setIfInBounds_toArray, List.set_cons_zero, List.set_cons_succ]
      refine wpAnyH_take (i := 7) (v := ?vqb7) rfl (by kernel_rfl) (by kernel_rfl) (by kernel_rfl) (fun _ _ _ h => h) (Or.inl ⟨by rfl, ?hqb7⟩) hHeld4 ?rqb7
      case hqb7 =>
        rintro W ⟨zz, rfl⟩
        go_simp
        try with_reducible rfl
      try simp only [Act.put, List.setIfInBounds_toArray, List.set_cons_zero, List.set_cons_succ]
      refine wpAnyH_take (i := 8) (v := ?vqb8) rfl (by kernel_rfl) (by kernel_rfl) (by kernel_rfl) (fun _ _ _ h => h) (Or.inl ⟨by rfl, ?hqb8⟩) hHeld4 ?rqb8
      case hqb8 =>
        rintro W ⟨zz, rfl⟩
        go_simp
        try with_reducible rfl
      try simp only [Act.put, List.setIfInBounds_toArray, List.set_cons_zero, List.set_cons_succ]
      refine wpAnyH_take (i := 9) (v := ?vqb9) rfl (by kernel_rfl) (by kernel_rfl) (by kernel_rfl) (fun _ _ _ h => h) (Or.inl ⟨by rfl, ?hqb9⟩) hHeld4 ?rqb9
      case hqb9 =>
        rintro W ⟨zz, rfl⟩
        go_simp
        try with_reducible rfl
      try simp only [Act.put, List.setIfInBounds_toArray, List.set_cons_zero, List.set_cons_succ]
      have b0 := fun y => ca2 0 _ rfl y
      have b1 := fun y => ca2 1 _ rfl y
      rw [hx] at hHeld4 ⊢
      refine wpAnyH_ready (rs := [11]) (by kernel_rfl) (by simp) ?_
      refine AllReadyH.cons rfl (fun K hK => ?_) AllReadyH.nil
      go_simp
      refine hK.out _ _ ((hHeld4.set (by simpa using hge2) 0 _).set (by simpa using hge2) 1 _) (fun hHeld9 => ?_)
      clear hK K
      refine wpAnyH_ready (rs := [12]) (by kernel_rfl) (by simp) ?_
      refine AllReadyH.cons rfl (fun K hK => ?_) AllReadyH.nil
      go_simp
      refine hK.out _ _ hHeld9 (fun hHeld10 => ?_)
      clear hK K
      refine wpAnyH_ready (rs := [13]) (by kernel_rfl) (by simp) ?_
      refine AllReadyH.cons rfl (fun K hK => ?_) AllReadyH.nil
      go_simp
      refine hK.out _ _ hHeld10 (fun hHeld11 => ?_)
      clear hK K
      refine wpAnyH_done (by kernel_rfl) ?_ _
      go_wp2_with fail
      go_meet
      exact ⟨rfl, rfl, hHeld11⟩
  case rest =>
    obtain ⟨rfl, rfl, hUp⟩ := hcut
    have hK9 := hKW8.out.grown (grown_of_below hUp.below (some b))
    have hX9 := hXW8.out.below hUp.below
    have hG9 := grown_trans hGW8.out (grown_of_below hUp.below (some b))
    clear hUp hKW8 hXW8 hGW8 e2 e3 e4 g0 g1 hNx8
    have s0 := hK9.cell z6 _ (.tail _ (.head _)) 0 _ rfl
    have s1 := hK9.cell z6 _ (.tail _ (.head _)) 1 _ rfl
    have s2 := hK9.cell z6 _ (.tail _ (.head _)) 2 _ rfl
    have s3 := hK9.cell z6 _ (.tail _ (.head _)) 3 _ rfl
    have s4 := hK9.cell z6 _ (.tail _ (.head _)) 4 _ rfl
    have s5 := hK9.cell z6 _ (.tail _ (.head _)) 5 _ rfl
    replace hK9 := Lib.hid hK9
    replace hX9 := Lib.hid hX9
    replace hG9 := Lib.hid hG9
    go_wp2_with fail
    refine (hC5.out _ hX9.out).mono ?_
    rintro e X10 ⟨rfl, hg10, hX10⟩
    have hK10 := hK9.out.grown hg10
    have hG10 := Lib.hid (grown_trans hG9.out hg10)
    replace hX10 := Lib.hid hX10
    clear s0 s1 s2 s3 s4 s5 hg10 hK9 hX9 hG9 hC5
    have s0 := hK10.cell z6 _ (.tail _ (.head _)) 0 _ rfl
    have s1 := hK10.cell z6 _ (.tail _ (.head _)) 1 _ rfl
    have s2 := hK10.cell z6 _ (.tail _ (.head _)) 2 _ rfl
    have s3 := hK10.cell z6 _ (.tail _ (.head _)) 3 _ rfl
    have s4 := hK10.cell z6 _ (.tail _ (.head _)) 4 _ rfl
    have s5 := hK10.cell z6 _ (.tail _ (.head _)) 5 _ rfl
    replace hK10 := Lib.hid hK10
    go_wp2_with fail
    refine (hC6.out _ hX10.out).mono ?_
    rintro e X11 ⟨rfl, hg11, hX11⟩
    have hK11 := hK10.out.grown hg11
    have hG11 := Lib.hid (grown_trans hG10.out hg11)
    replace hX11 := Lib.hid hX11
    clear s0 s1 s2 s3 s4 s5 hg11 hK10 hX10 hG10 hC6
    have s0 := hK11.cell z6 _ (.tail _ (.head _)) 0 _ rfl
    have s1 := hK11.cell z6 _ (.tail _ (.head _)) 1 _ rfl
    have s2 := hK11.cell z6 _ (.tail _ (.head _)) 2 _ rfl
    have s3 := hK11.cell z6 _ (.tail _ (.head _)) 3 _ rfl
    have s4 := hK11.cell z6 _ (.tail _ (.head _)) 4 _ rfl
    have s5 := hK11.cell z6 _ (.tail _ (.head _)) 5 _ rfl
    have q0 := hK11.cell z8 _ (.head _) 0 _ rfl
    have q1 := hK11.cell z8 _ (.head _) 1 _ rfl
    have r0 := hK11.cell w.heap.size _ (.tail _ (.tail _ (.tail _ (.tail _ (.head _))))) 0 _ rfl
    have r1 := hK11.cell w.heap.size _ (.tail _ (.tail _ (.tail _ (.tail _ (.head _))))) 1 _ rfl
    have r2 := hK11.cell w.heap.size _ (.tail _ (.tail _ (.tail _ (.tail _ (.head _))))) 2 _ rfl
    have r3 := hK11.cell w.heap.size _ (.tail _ (.tail _ (.tail _ (.tail _ (.head _))))) 3 _ rfl
    have r4 := hK11.cell w.heap.size _ (.tail _ (.tail _ (.tail _ (.tail _ (.head _))))) 4 _ rfl
    have r5 := hK11.cell w.heap.size _ (.tail _ (.tail _ (.tail _ (.tail _ (.head _))))) 5 _ rfl
    have v0 := hK11.cell (w.heap.size + 1) _ (.tail _ (.tail _ (.tail _ (.head _)))) 0 _ rfl
    have v1 := hK11.cell (w.heap.size + 1) _ (.tail _ (.tail _ (.tail _ (.head _)))) 1 _ rfl
    have fr := hK11.frozen w.heap.size _ (.tail _ (.tail _ (.tail _ (.tail _ (.head _)))))
    have fv1 := hK11.frozen (w.heap.size + 1) _ (.tail _ (.tail _ (.tail _ (.head _))))
    have zn1 : ¬ z8 = w.heap.size := by have := z8gt.out; omega
    have zn2 : ¬ z8 = w.heap.size + 1 := by have := z8gt.out; omega
    have zn3 : ¬ w.heap.size = z8 := fun e => zn1 e.symm
    have zn4 : ¬ w.heap.size + 1 = z8 := fun e => zn2 e.symm
    have nz1 : ¬ w.heap.size = b := by omega
    have nz2 : ¬ w.heap.size + 1 = b := by omega
    have nz3 : Hid (¬ w.heap.size = g) := by show ¬ _; have := hgw.out; omega
    have nz4 : Hid (¬ w.heap.size + 1 = g) := by show ¬ _; have := hgw.out; omega
    replace hK11 := Lib.hid hK11
    go_wp2
    go_region
    go_wp2
    refine bodyPost_ret (v := .tuple #[tokA t5, .agg #[.int .i64 i, .int .i64 p]]) ?_ rfl ⟨rfl, ?_⟩
    · rw [hTA5.out]; simp [results, Tryz.results25, go_sem, cell_drew, r0, r1, r2, r3, r4, r5, v0, v1]
    · have h0 : w.grownBy X11 (some b) ∧ Rd X11 b g cap l (.slice p1 n1 c1) (.slice p2 n2 c2) (.slice p3 n3 c3) d6 := ⟨hG11.out, hX11.out⟩
      repeat (first | (with_reducible exact h0) | (with_reducible apply fin_drew) | (with_reducible refine fin_set ?_ (Nat.le_refl _) nz1 nz3.out _ _) | (with_reducible refine fin_set ?_ (Nat.le_succ _) nz2 nz4.out _ _))
end
end Go.Proofs.YtkffjjlmoojffaaGreatDoor
