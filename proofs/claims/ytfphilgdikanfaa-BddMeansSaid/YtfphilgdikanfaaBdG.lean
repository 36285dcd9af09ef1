/-
  WHAT IS PROVED HERE: what the landed node of a store's nodes hands back, or how it gives up: bdNode.
-/
import Derived.Test.YtfphilgdikanfaaBdF
import Derived.Deep.AppendLies
import Derived.Deep.RegionLaw
import Derived.Deep.RegionHeld3
import Derived.BigRegion
import Derived.OwnWalk
namespace Go.Proofs.Ytfphilgdikanfaa
open Go.RowKit
/-- A full store gives up so. -/
abbrev bdGave : Ending := .panicked [{ v := .iface 69 (.agg #[]), recovered := false }]
/-- How making ends: the number, or given up; the store behind it; all else as it was. -/
def BdEnds (w : World) (L : BdL) (cap : Nat) (r : List Bd × Option Nat) (e : Ending) (w' : World) : Prop :=
  ∃ L', BdMove w L L' ∧ BdKeep L.has w w' ∧ BdAt w' L' cap r.2.isNone r.1 ∧ e = match r.2 with | some n => .returned (.int .i64 (n : Int)) | none => bdGave
theorem bd_box (V : World) (cs : Array Value) (t : TypeId) : ∃ X, V.alloc (.cells cs t) = X ∧ Below V.heap.size V X ∧ X.heap[V.heap.size]? = some (.cells cs t (0, 0)) ∧ X.heap.size = V.heap.size + 1 :=
  ⟨_, rfl, (Below.refl _ _).alloc (Nat.le_refl _) _, (MapKept.heap_alloc V _).1, by simp⟩
theorem bd_zero32 (w : World) : (zeroValue 21).run Try.prog w = .ok (.int .i32 0) w := by kernel_rfl
theorem bdPlaces_fits {w : World} {L : BdL} {cap : Nat} {full : Bool} {R : List Bd} (h : BdAt w L cap full R) (k : Bd) (n : Nat) (e : bdPlaces R k = some n) : BdFits k := by
  unfold bdPlaces at e
  split at e
  · cases e
  · obtain ⟨h1, h2, h3⟩ := h.fits (bdFind_some e)
    exact ⟨by omega, by omega, by omega⟩
theorem bd_look {w : World} {L : BdL} {cap : Nat} {full : Bool} {R : List Bd} (h : BdAt w L cap full R) (k : Bd) (hk : BdFits k) (hne : k.lo ≠ k.hi) :
    (Instr.lookup 60 (.map (some L.bp)) (.agg #[.int .i32 (k.v : Int), .int .i32 (k.lo : Int), .int .i32 (k.hi : Int)]) true).run Try.prog w = .ok (.tuple #[.int .i32 (((bdFind R k).getD 0 : Nat) : Int), .bool (bdFind R k).isSome]) w := by
  have := h.places.look bd_keyed58 Try.underlying60 (bd_zero32 w) bdKey_inj (fun k v e => bd_key58 k (bdPlaces_fits h k v e)) k (bd_key58 k hk)
  unfold bdPlaces at this
  rw [if_neg hne] at this
  refine Eq.trans this ?_
  cases bdFind R k <;> rfl
theorem bdFind_snoc (R : List Bd) (m k : Bd) : bdFind (R ++ [m]) k = (bdFind R k).or (if m = k then some R.length else none) := by
  unfold bdFind
  rw [List.findIdx?_append]
  congr 1
  by_cases q : m = k
  · simp [q]
  · simp [q]
theorem bdPlaces_snoc {R : List Bd} {m : Bd} (hne : m.lo ≠ m.hi) (hno : bdFind R m = none) (k : Bd) : (if k = m then some R.length else bdPlaces R k) = bdPlaces (R ++ [m]) k := by
  unfold bdPlaces
  by_cases q : k = m
  · subst q
    rw [if_pos rfl, if_neg hne, bdFind_snoc, hno, if_pos rfl]
    rfl
  · rw [if_neg q]
    split
    · rfl
    · rw [bdFind_snoc, if_neg (fun e => q e.symm)]
      cases bdFind R k <;> rfl
theorem BdTold.more {cap : Nat} {R : List Bd} {K : Bd → Option Nat} (h : BdTold cap R K) (S : List Bd) (ok : BdOk R) (ok' : BdOk (R ++ S)) : BdTold cap (R ++ S) K := fun k n e => by
  obtain ⟨h1, h2, h3, h4⟩ := h k n e
  exact ⟨by simp; omega, by simp; omega, by simp; omega, bdIte_again cap cap 65 R k.v k.lo k.hi R n S ok h1 h2 h3 (by omega) h4 ok'⟩
theorem BdKeep.step {own own1 : Nat → Prop} {w w1 w2 : World} (h : BdKeep own w w1) (h' : BdKeep own1 w1 w2) (ho : ∀ k, own1 k → own k ∨ w.heap.size ≤ k) : BdKeep own w w2 :=
  ⟨h'.os.trans h.os, h'.tape.trans h.tape, h'.output.trans h.output, Nat.le_trans h.size h'.size, fun k hk hn => (h'.block k (Nat.lt_of_lt_of_le hk h.size) (fun q => (ho k q).elim hn (fun z => by omega))).trans (h.block k hk hn)⟩
theorem BdKeep.of_grown {w w' : World} {r : Option Nat} (g : w.grownBy w' r) : BdKeep (fun k => r = some k) w w' := ⟨g.os, g.tape, g.output, g.size, fun k hk hn => g.block k hk (fun e => hn e.symm)⟩
theorem BdKeep.of_setCell (w : World) (a : Addr) (v : Value) : BdKeep (fun k => k = a.block) w (w.setCell a v) := ⟨rfl, rfl, rfl, by simp, fun k _ hn => Below.heap_setCell _ _ _ _ hn⟩
/-- A row more: its place told in the map. -/
theorem bd_node_end {W Y w' w'' : World} {L : BdL} {cap : Nat} {R : List Bd} {m : Bd} {o : Obj} {g c c' : Nat} {y : Ext} (hW : Below W.heap.size W Y) (hAW : BdAt W L cap false R) (hY : BdAt Y L cap false R) (hm : BdOk (R ++ [m])) (hne : m.lo ≠ m.hi) (hno : bdFind R m = none) (hroom : R.length < cap + 2)
    (hc : Y.heap[L.bn]? = some (.cells #[.int .i64 (cap : Int), .bool false, .slice (some ⟨L.br, 0, none⟩) R.length c, .map (some L.bp), .map (some L.bk)] 63 (0, 0)))
    (h2 : w'.ownsRow 0 58 3 (.slice (some ⟨g, 0, none⟩) (R.length + 1) c') (R.length + 1) (bdCells R ++ [.int .i32 (m.v : Int), .int .i32 (m.lo : Int), .int .i32 (m.hi : Int)]))
    (h3 : (Y.drew.alloc o).grownBy w' (some L.br)) (h4 : L.br = g ∨ g = (Y.drew.alloc o).heap.size) (h5 : (plus (w'.setCell ⟨L.bn, 2, none⟩ (.slice (some ⟨g, 0, none⟩) (R.length + 1) c')) y).grownBy w'' (some L.bp))
    (h6 : MapG w'' L.bp bdKey bdNum (fun k => if k = m then some R.length else bdPlaces R k)) :
    BdEnds W L cap (R ++ [m], some R.length) (.returned (.int .i64 (R.length : Int))) w'' := by
  obtain ⟨Z, hZ⟩ : ∃ Z, w'.setCell ⟨L.bn, 2, none⟩ (.slice (some ⟨g, 0, none⟩) (R.length + 1) c') = Z := ⟨_, rfl⟩
  rw [hZ] at h5
  have s0 : Y.heap.size < (Y.drew.alloc o).heap.size := by simp
  have lY := fun k hk => hY.lt (k := k) hk
  have lW := fun k hk => hAW.lt (k := k) hk
  obtain ⟨⟨c0, q1, q2⟩, q3, ⟨K, q4, q5⟩, q6, q7, q8, q9⟩ := hY
  obtain ⟨cur, qr⟩ := bd_own_lt q2
  obtain ⟨cur2, qg⟩ := bd_own_lt h2
  have e1 : w'.heap.size = Z.heap.size := by rw [← hZ]; simp
  have nbr : L.bn ≠ L.br := fun e => by rw [e, qr] at q1; cases q1
  have nbp : L.bn ≠ L.bp := fun e => by obtain ⟨es, clock, e2⟩ := q3.is_map; rw [e, e2] at q1; cases q1
  have nbk : L.bn ≠ L.bk := fun e => by obtain ⟨es, clock, e2⟩ := q4.is_map; rw [e, e2] at q1; cases q1
  have nrp : L.br ≠ L.bp := fun e => by obtain ⟨es, clock, e2⟩ := q3.is_map; rw [e, e2] at qr; cases qr
  have nrk : L.br ≠ L.bk := fun e => by obtain ⟨es, clock, e2⟩ := q4.is_map; rw [e, e2] at qr; cases qr
  have A : ∀ k, k < Y.heap.size → k ≠ L.br → w'.heap[k]? = Y.heap[k]? := fun k hk hn => (h3.block k (by omega) (fun e => hn (Option.some.inj e))).trans (Below.heap_alloc _ _ _ hk)
  have B : ∀ k, k < w'.heap.size → k ≠ L.bn → k ≠ L.bp → w''.heap[k]? = w'.heap[k]? := fun k hk hn hp => (h5.block k (by have := size_plus Z y; omega) (fun e => hp (Option.some.inj e))).trans (((below_plus Z y).block k (by omega)).trans (by rw [← hZ]; exact Below.heap_setCell _ _ _ _ hn))
  have szw : Y.heap.size ≤ w'.heap.size := by have := h3.size; omega
  have hbnw : w'.heap[L.bn]? = some (.cells #[.int .i64 (cap : Int), .bool false, .slice (some ⟨L.br, 0, none⟩) R.length c, .map (some L.bp), .map (some L.bk)] 63 (0, 0)) := (A _ (lY _ (.inl rfl)) nbr).trans hc
  have hbnZ : Z.heap[L.bn]? = some (.cells #[.int .i64 (cap : Int), .bool false, .slice (some ⟨g, 0, none⟩) (R.length + 1) c', .map (some L.bp), .map (some L.bk)] 63 (0, 0)) := by
    rw [← hZ]; exact heap_setCell_same _ _ _ _ _ _ hbnw
  have hbn : w''.heap[L.bn]? = Z.heap[L.bn]? := (h5.block _ (by have := size_plus Z y; have := lY _ (.inl rfl); omega) (fun e => nbp (Option.some.inj e))).trans ((below_plus Z y).block _ (by have := lY _ (.inl rfl); omega))
  have gl : g < w'.heap.size := (Array.getElem?_eq_some_iff.1 qg).1
  have gbn : g ≠ L.bn := fun e => by rw [e, hbnw] at qg; cases qg
  have gbp : g ≠ L.bp := fun e => by
    rcases h4 with h4 | h4
    · exact nrp (h4.trans e)
    · have := lY _ (.inr (.inr (.inl rfl))); omega
  have sW := hW.size
  refine ⟨⟨L.bn, g, L.bp, L.bk⟩, ⟨rfl, rfl, rfl, ?_⟩, ?_, ?_, rfl⟩
  · rcases h4 with h4 | h4
    · exact .inl h4.symm
    · exact .inr (by show W.heap.size ≤ g; omega)
  · have k1 : BdKeep L.has W Y := .of_below _ hW
    have k2 : BdKeep L.has W (Y.drew.alloc o) := k1.step (.of_below (fun _ => False) ⟨rfl, rfl, rfl, by simp, fun k hk => Below.heap_alloc Y.drew o k hk⟩) (fun k hk => hk.elim)
    have k3 := k2.step (.of_grown h3) (fun k hk => .inl (.inr (.inl (Option.some.inj hk).symm)))
    have k4 : BdKeep L.has W Z := k3.step (hZ ▸ .of_setCell w' ⟨L.bn, 2, none⟩ _) (fun k hk => .inl (.inl hk))
    have k5 : BdKeep L.has W (plus Z y) := k4.step (.of_below (fun _ => False) (below_plus Z y)) (fun k hk => hk.elim)
    exact k5.step (.of_grown h5) (fun k hk => .inl (.inr (.inr (.inl (Option.some.inj hk).symm))))
  · have ln : (R ++ [m]).length = R.length + 1 := by simp
    refine ⟨⟨c', ?_, ?_⟩, ?_, ⟨K, ?_, q5.more [m] q6 hm⟩, hm, by show (R ++ [m]).length ≤ cap + 2; omega, q8, q9⟩
    · rw [ln]; exact hbn.trans hbnZ
    · rw [ln, bdCells_app]
      exact bd_own_up h2 (B g gl gbn gbp)
    · exact h6.eqv (bdPlaces_snoc hne hno)
    · exact q4.of_heap ((B _ (by have := lY _ (.inr (.inr (.inr rfl))); omega) nbk.symm q9.symm).trans (A _ (lY _ (.inr (.inr (.inr rfl)))) nrk.symm))
theorem bd_info : (Try.prog.info? 58).map (fun i => (i.zero, i.size, i.bytes)) = some (some (.agg #[.int .i32 0, .int .i32 0, .int .i32 0]), 3, 12) := by kernel_rfl
/-- A row more is appended, in a region that draws its order. -/
theorem bd_append {W : World} {ops : Array Oper} {o : Oper} {a : Act} {K : Act → World → Prop} {Q : Exit → Act → World → Prop} {E : Prop} {br n c : Nat} {xs : List Value} {v lo hi : Nat} {ob : Obj} (s x : Operand)
    (ho : (o.guard, o.op) = (none, .call { callee := .builtin .append, args := #[s, x], argTypes := #[59, 59] })) (hs : a.eval s = .slice (some ⟨br, 0, none⟩) n c) (hx : a.eval x = .slice (some ⟨W.heap.size, 0, none⟩) 1 1)
    (hown : (W.alloc ob).ownsRow 0 58 3 (.slice (some ⟨br, 0, none⟩) n c) n xs) (hob : (W.alloc ob).heap[W.heap.size]? = some (.cells #[.int .i32 (v : Int), .int .i32 (lo : Int), .int .i32 (hi : Int)] 58 (0, 0))) (hn : n ≤ 1048578) {H : Nat} (hH : (W.alloc ob).heap.size = H)
    (k : ∀ g c' w', w'.ownsRow 0 58 3 (.slice (some ⟨g, 0, none⟩) (n + 1) c') (n + 1) (xs ++ [.int .i32 (v : Int), .int .i32 (lo : Int), .int .i32 (hi : Int)]) → (W.alloc ob).grownBy w' (some br) → (br = g ∨ g = H) → K (a.put o.dst (.slice (some ⟨g, 0, none⟩) (n + 1) c')) w') :
    if Region.wanted o (yielded ops a.tmps) = true then Oper.wp Try.prog o a (W.alloc ob) K Q else E := by
  obtain ⟨i0, hi0, hi1, hi2, hi3⟩ := info_parts bd_info
  obtain ⟨hgd, hop⟩ := Prod.mk.inj ho
  refine step_append_lies _ hgd s x 59 hop 0 58 i0 _ 3 12 Try.underlying59 hi0 hi1 hi2 hi3 rfl (by decide) (.slice (some ⟨br, 0, none⟩) n c) n xs hs hown ⟨W.heap.size, 0, none⟩ 1 1 [.int .i32 (v : Int), .int .i32 (lo : Int), .int .i32 (hi : Int)] hx rfl (World.news_of_block hob) ?_ (by decide) (by simp only [maxLen]; omega) (by omega) (Nat.zero_le _) H hH fun g cap w' h1 h2 h3 _ => k g cap w' h1 h2 (h3.imp (fun e => Option.some.inj e) id)
  intro u hu
  simp only [List.mem_cons, List.not_mem_nil, or_false] at hu
  rcases hu with rfl | rfl | rfl <;> rfl
theorem bd_append_cells {Y w' : World} {L : BdL} {cap c N : Nat} {R : List Bd} {ob : Obj} (hY : BdAt Y L cap false R) (hc : Y.heap[L.bn]? = some (.cells #[.int .i64 (cap : Int), .bool false, .slice (some ⟨L.br, 0, none⟩) N c, .map (some L.bp), .map (some L.bk)] 63 (0, 0))) (h3 : (Y.drew.alloc ob).grownBy w' (some L.br)) :
    w'.heap[L.bn]? = some (.cells #[.int .i64 (cap : Int), .bool false, .slice (some ⟨L.br, 0, none⟩) N c, .map (some L.bp), .map (some L.bk)] 63 (0, 0)) := by
  obtain ⟨c0, q1, q2⟩ := hY.head
  obtain ⟨cur, qr⟩ := bd_own_lt q2
  have nbr : L.bn ≠ L.br := fun e => by rw [← e, hc] at qr; cases qr
  have hl := hY.lt (k := L.bn) (.inl rfl)
  exact (h3.block L.bn (by simp; omega) (fun e => nbr (Option.some.inj e))).trans ((Below.heap_alloc Y.drew _ _ hl).trans hc)
theorem bd_Z {W Y w' : World} {L : BdL} {cap c N n g c' v lo hi : Nat} {R : List Bd} {ob : Obj} (hY : BdAt Y L cap false R) (hc : Y.heap[L.bn]? = some (.cells #[.int .i64 (cap : Int), .bool false, .slice (some ⟨L.br, 0, none⟩) N c, .map (some L.bp), .map (some L.bk)] 63 (0, 0)))
    (hb : Y.heap[W.heap.size]? = some (.cells #[.int .i32 (v : Int), .int .i32 (lo : Int), .int .i32 (hi : Int)] 58 (0, 0))) (hs : W.heap.size < Y.heap.size ∨ W.heap.size ≤ Y.heap.size) (hW : BdAt W L cap false R) (h3 : (Y.drew.alloc ob).grownBy w' (some L.br)) :
    (w'.setCell ⟨L.bn, 2, none⟩ (.slice (some ⟨g, 0, none⟩) n c')).heap[L.bn]? = some (.cells #[.int .i64 (cap : Int), .bool false, .slice (some ⟨g, 0, none⟩) n c', .map (some L.bp), .map (some L.bk)] 63 (0, 0)) ∧
    (w'.setCell ⟨L.bn, 2, none⟩ (.slice (some ⟨g, 0, none⟩) n c')).heap[W.heap.size]? = some (.cells #[.int .i32 (v : Int), .int .i32 (lo : Int), .int .i32 (hi : Int)] 58 (0, 0)) ∧
    MapG (w'.setCell ⟨L.bn, 2, none⟩ (.slice (some ⟨g, 0, none⟩) n c')) L.bp bdKey bdNum (bdPlaces R) := by
  have l1 := hW.lt (k := L.bn) (.inl rfl)
  have l2 := hW.lt (k := L.br) (.inr (.inl rfl))
  have l3 := (Array.getElem?_eq_some_iff.1 hb).1
  obtain ⟨c0, q1, q2⟩ := hY.head
  obtain ⟨es, clock, e2⟩ := hY.places.is_map
  have nbp : L.bp ≠ L.bn := fun e => by rw [← e, e2] at hc; cases hc
  obtain ⟨cur, qr⟩ := bd_own_lt q2
  have nrp : L.bp ≠ L.br := fun e => by rw [e, qr] at e2; cases e2
  refine ⟨heap_setCell_same _ _ _ _ _ _ (bd_append_cells hY hc h3), ?_, hY.places.of_heap ?_⟩
  · rw [Below.heap_setCell _ _ _ _ (by simp only; omega)]
    exact (h3.block _ (by simp; omega) (fun e => by have := Option.some.inj e; omega)).trans ((Below.heap_alloc Y.drew _ _ l3).trans hb)
  · rw [Below.heap_setCell _ _ _ _ nbp]
    exact (h3.block _ (by have := hY.places.lt; simp; omega) (fun e => nrp (Option.some.inj e))).trans (Below.heap_alloc Y.drew _ _ hY.places.lt)
theorem bd_put {w : World} {bp : Nat} {R : List Bd} {m : Bd} {F : Bd → Option Nat} (hF : ∀ k n, F k = some n → BdFits k) (h : MapG w bp bdKey bdNum F) (hm : BdFits m) (n : Nat) :
    ∃ w', (Instr.mapUpdate 60 (.map (some bp)) (.agg #[.int .i32 (m.v : Int), .int .i32 (m.lo : Int), .int .i32 (m.hi : Int)]) (.int .i32 (n : Int))).run Try.prog w = .ok () w' ∧ MapG w' bp bdKey bdNum (fun k' => if k' = m then some n else F k') ∧ w.grownBy w' (some bp) ∧ w'.heap.size = w.heap.size :=
  h.put bd_keyed58 Try.underlying60 bdKey_inj (fun k v e => bd_key58 k (hF k v e)) m (bd_key58 m hm) n
theorem bd_node_full {W Y : World} {L : BdL} {cap : Nat} {R : List Bd} (hW : Below W.heap.size W Y) (hAW : BdAt W L cap false R) (hY : BdAt Y L cap false R) : BdEnds W L cap (R, none) bdGave (Y.setCell ⟨L.bn, 1, none⟩ (.bool true)) := by
  obtain ⟨⟨c0, q1, q2⟩, q3, ⟨K, q4, q5⟩, q6, q7, q8, q9⟩ := hY
  obtain ⟨cur, qr⟩ := bd_own_lt q2
  have nbr : L.br ≠ L.bn := fun e => by rw [← e, qr] at q1; cases q1
  have nbp : L.bp ≠ L.bn := fun e => by obtain ⟨es, clock, e2⟩ := q3.is_map; rw [← e, e2] at q1; cases q1
  have nbk : L.bk ≠ L.bn := fun e => by obtain ⟨es, clock, e2⟩ := q4.is_map; rw [← e, e2] at q1; cases q1
  have B : ∀ k, k ≠ L.bn → (Y.setCell ⟨L.bn, 1, none⟩ (.bool true)).heap[k]? = Y.heap[k]? := fun k hk => Below.heap_setCell _ _ _ _ hk
  refine ⟨L, BdMove.refl _ _, (BdKeep.of_below L.has hW).step (.of_setCell Y ⟨L.bn, 1, none⟩ _) (fun k hk => .inl (.inl hk)), ⟨⟨c0, ?_, bd_own_up q2 (B _ nbr)⟩, q3.of_heap (B _ nbp), ⟨K, q4.of_heap (B _ nbk), q5⟩, q6, q7, q8, q9⟩, rfl⟩
  exact heap_setCell_same _ _ _ _ _ _ q1
set_option maxRecDepth 100000 in
set_option maxHeartbeats 8000000 in
theorem bd_node {W : World} {L : BdL} {cap : Nat} {R : List Bd} (h : BdAt W L cap false R) (v lo hi : Nat) (hv : v < 64) (hl : lo < R.length) (hh : hi < R.length) (vl : v < bdV R lo) (vh : v < bdV R hi) :
    Calls Try.prog 41 #[.pointer (some ⟨L.bn, 0, none⟩), .int .i64 (v : Int), .int .i64 (lo : Int), .int .i64 (hi : Int)] W (BdEnds W L cap (bdNode cap R v lo hi)) := by
  have hlen := h.room
  have hsm := h.small
  obtain ⟨r, hr⟩ : ∃ r, bdNode cap R v lo hi = r := ⟨_, rfl⟩
  rw [hr]
  have hr' := Lib.hid hr
  have h' := Lib.hid h
  have vl' := Lib.hid vl
  have vh' := Lib.hid vh
  have ok' := Lib.hid h.ok
  obtain ⟨c, g1, g2⟩ := h.head
  have hN : Hid (∃ N, R.length = N) := Lib.hid ⟨_, rfl⟩
  obtain ⟨N, hN⟩ := hN.out
  have hN' := Lib.hid hN
  rw [hN] at hl hh hlen
  have c0 := fun y => bd_cell (bd_heap_plus W y g1) 0 _ rfl
  have c1 := fun y => bd_cell (bd_heap_plus W y g1) 1 _ rfl
  have c2 := fun y => bd_cell (bd_heap_plus W y g1) 2 _ rfl
  have c3 := fun y => bd_cell (bd_heap_plus W y g1) 3 _ rfl
  rw [hN] at c2
  clear h vl vh hr hN g1 g2
  by_cases q : lo = hi
  · have qb : ((lo : Int) == (hi : Int)) = true := by simp [q]
    have e1 : Hid (r = (R, some lo)) := Lib.hid (by rw [← hr'.out]; unfold bdNode; rw [if_pos q])
    clear hr'
    go_enter Try.func41, Try.ntmps41
    go_wp2
    go_ret
    exact ⟨L, BdMove.refl _ _, BdKeep.refl _ _, by rw [e1.out]; exact h'.out, by rw [e1.out]; rfl⟩
  · have qb : ((lo : Int) == (hi : Int)) = false := by simp; omega
    have hfit : BdFits ⟨v, lo, hi⟩ := ⟨by simp only; omega, by simp only; omega, by simp only; omega⟩
    obtain ⟨X, hX, hXB, hXh, hXs⟩ := bd_box W #[.int .i32 (v : Int), .int .i32 (lo : Int), .int .i32 (hi : Int)] 58
    have hAX := h'.out.below hXB
    obtain ⟨c, g1, g2⟩ := hAX.head
    rw [hN'.out] at g1
    have hlk := fun y => bd_look (hAX.plus y) ⟨v, lo, hi⟩ hfit q
    have c0 := fun y => bd_cell (bd_heap_plus X y g1) 0 _ rfl
    have c1 := fun y => bd_cell (bd_heap_plus X y g1) 1 _ rfl
    have c2 := fun y => bd_cell (bd_heap_plus X y g1) 2 _ rfl
    have c3 := fun y => bd_cell (bd_heap_plus X y g1) 3 _ rfl
    have fz := fun y => bd_free (bd_heap_plus X y g1)
    have b0 := fun y => bd_cell (bd_heap_plus X y hXh) 0 _ rfl
    have b1 := fun y => bd_cell (bd_heap_plus X y hXh) 1 _ rfl
    have b2 := fun y => bd_cell (bd_heap_plus X y hXh) 2 _ rfl
    have hX' := Lib.hid hX
    have hXB' := Lib.hid hXB
    have hXs' := Lib.hid hXs
    have hAX' := Lib.hid hAX
    have g1' := Lib.hid g1
    have g2' := Lib.hid g2
    have hXh' := Lib.hid hXh
    simp only at hlk
    obtain ⟨o, ho⟩ : ∃ o, bdFind R ⟨v, lo, hi⟩ = o := ⟨_, rfl⟩
    rw [ho] at hlk
    have ho' := Lib.hid ho
    clear hX hXB hXs hAX g1 g2 hXh ho hfit
    cases o with
    | some i =>
      have e1 : Hid (r = (R, some i)) := Lib.hid (by rw [← hr'.out]; unfold bdNode; rw [if_neg q, ho'.out])
      have hi1 : i < R.length := (List.getElem?_eq_some_iff.1 (bdFind_some ho'.out)).1
      rw [hN'.out] at hi1
      simp only [Option.getD_some, Option.isSome_some] at hlk
      clear hr'
      go_enter Try.func41, Try.ntmps41
      go_wp2_with fail
      rw [hX'.out]
      refine wp_region_own0 (by kernel_rfl) (by kernel_rfl) ?_
      repeat (go_big_quiet_step (fail))
      refine wpQuiet_nil ?_
      rintro _ ⟨y, rfl⟩
      go_wp2
      go_ret
      exact ⟨L, BdMove.refl _ _, .of_below _ (hXB'.out.trans ((below_plus X y).mono (by rw [hXs'.out]; omega))), by rw [e1.out]; exact hAX'.out.plus y, by rw [e1.out]; rfl⟩
    | none =>
      simp only [Option.getD_none, Option.isSome_none] at hlk
      have hLn := bd_len hAX'.out
      rw [hN'.out] at hLn
      by_cases q2 : cap + 2 ≤ N
      · have e1 : Hid (r = (R, none)) := Lib.hid (by rw [← hr'.out]; unfold bdNode; rw [if_neg q, ho'.out]; simp only; rw [if_pos (by rw [hN'.out]; exact q2)])
        obtain ⟨k, rfl⟩ : ∃ k, N = k + 2 := ⟨N - 2, by omega⟩
        rw [Nat.add_sub_cancel] at hLn
        have qc : decide ((cap : Int) ≤ (k : Int)) = true := by simp; omega
        have hLn' := Lib.hid hLn
        clear hr' hLn
        go_enter Try.func41, Try.ntmps41
        go_wp2_with fail
        rw [hX'.out]
        refine wp_region_own0 (by kernel_rfl) (by kernel_rfl) ?_
        repeat (go_big_quiet_step (fail))
        refine wpQuiet_nil ?_
        rintro _ ⟨y, rfl⟩
        go_wp2_with fail
        refine wp_region_own (by kernel_rfl) (by kernel_rfl) ?_
        repeat (go_big_quiet_step (with_reducible exact hLn'.out _))
        refine wpQuiet_nil ?_
        rintro _ ⟨y2, rfl⟩
        go_wp2
        refine ⟨rfl, ?_⟩
        rw [e1.out]
        exact bd_node_full (hXB'.out.trans ((below_plus X y2).mono (by rw [hXs'.out]; omega))) h'.out (hAX'.out.plus y2)
      · have e1 : Hid (r = (R ++ [⟨v, lo, hi⟩], some R.length)) := Lib.hid (by rw [← hr'.out]; unfold bdNode; rw [if_neg q, ho'.out]; simp only; rw [if_neg (by rw [hN'.out]; exact q2)])
        have hm : Hid (BdOk (R ++ [⟨v, lo, hi⟩])) := Lib.hid (bdOk_snoc ok'.out hv (by rw [hN'.out]; exact hl) (by rw [hN'.out]; exact hh) vl'.out vh'.out q (bdFind_none ho'.out))
        have hroom : Hid (R.length < cap + 2) := Lib.hid (by rw [hN'.out]; omega)
        obtain ⟨k, rfl⟩ : ∃ k, N = k + 2 := ⟨N - 2, by have := ok'.out.two; rw [hN'.out] at this; omega⟩
        rw [Nat.add_sub_cancel] at hLn
        have qc : decide ((cap : Int) ≤ (k : Int)) = false := by simp; omega
        have hLn' := Lib.hid hLn
        clear hr' hLn vl' vh'
        go_enter Try.func41, Try.ntmps41
        go_wp2_with fail
        rw [hX'.out]
        refine wp_region_own0 (by kernel_rfl) (by kernel_rfl) ?_
        repeat (go_big_quiet_step (fail))
        refine wpQuiet_nil ?_
        rintro _ ⟨y, rfl⟩
        go_wp2_with fail
        refine wp_region_own (by kernel_rfl) (by kernel_rfl) ?_
        repeat (go_big_quiet_step (with_reducible exact hLn'.out _))
        refine wpQuiet_nil ?_
        rintro _ ⟨y2, rfl⟩
        have hY := hAX'.out.plus y2
        have hYB := hXB'.out.trans ((below_plus X y2).mono (by rw [hXs'.out]; omega))
        have hYh := bd_heap_plus X y2 hXh'.out
        have hYg := bd_heap_plus X y2 g1'.out
        have hYr : (plus X y2).ownsRow 0 58 3 (.slice (some ⟨L.br, 0, none⟩) (k + 2) c) (k + 2) (bdCells R) := by
          have := bd_own_up g2'.out ((below_plus X y2).block L.br (hAX'.out.lt (.inr (.inl rfl))))
          rwa [hN'.out] at this
        clear c0 c1 c2 c3 fz b0 b1 b2 hlk
        obtain ⟨Y, hYY⟩ : ∃ Y, plus X y2 = Y := ⟨_, rfl⟩
        rw [hYY] at hY hYB hYh hYg hYr ⊢
        have c2 := bd_cell hYg 2 _ rfl
        have b0 := bd_cell hYh 0 _ rfl
        have b1 := bd_cell hYh 1 _ rfl
        have b2 := bd_cell hYh 2 _ rfl
        have hY' := Lib.hid hY
        have hYB' := Lib.hid hYB
        have hYh' := Lib.hid hYh
        have hYg' := Lib.hid hYg
        have hYr' := Lib.hid hYr
        have c2a : ∀ o, (Y.alloc o).cell? ⟨L.bn, 2, none⟩ = some (.slice (some ⟨L.br, 0, none⟩) (k + 2) c) := fun o => (cell_old Y o L.bn 2 (hY.lt (.inl rfl))).trans c2
        have hown : Hid (∀ o, (Y.drew.alloc o).ownsRow 0 58 3 (.slice (some ⟨L.br, 0, none⟩) (k + 2) c) (k + 2) (bdCells R)) := Lib.hid fun o => bd_own_up hYr (Below.heap_alloc Y.drew o L.br (hY.lt (.inr (.inl rfl))))
        clear hYY hY hYB hYh hYg hYr
        go_wp2_with fail
        go_region_law (go_loud (refine bd_append (.tmp 57) (.tmp 59) rfl (by simp [Act.eval]) (by simp [Act.eval]) (hown.out (.cells #[.int .i32 (v : Int), .int .i32 (lo : Int), .int .i32 (hi : Int)] 58)) (heap_alloc_new _ _) (by omega) rfl ?_; intro g c' w' h2 h3 h4; have hYw := bd_append_cells hY'.out hYg'.out h3; have f2 := bd_cell hYw 2 _ rfl; have f3 := bd_free hYw; have h2' := Lib.hid h2; have h3' := Lib.hid h3; have h4' := Lib.hid h4; clear h2 h3 h4 hYw))
        all_goals
          obtain ⟨hZn, hZb, hZp⟩ := bd_Z hY'.out hYg'.out hYh'.out (by have := hYB'.out.size; have := hXs'.out; omega) h'.out (g := g) (n := k + 2 + 1) (c' := c') h3'.out
          obtain ⟨Z, hZ⟩ : ∃ Z, w'.setCell ⟨L.bn, 2, none⟩ (.slice (some ⟨g, 0, none⟩) (k + 2 + 1) c') = Z := ⟨_, rfl⟩
          rw [hZ] at hZn hZb hZp ⊢
          have d3 := fun y => bd_cell (bd_heap_plus Z y hZn) 3 _ rfl
          have b0 := fun y => bd_cell (bd_heap_plus Z y hZb) 0 _ rfl
          have b1 := fun y => bd_cell (bd_heap_plus Z y hZb) 1 _ rfl
          have b2 := fun y => bd_cell (bd_heap_plus Z y hZb) 2 _ rfl
          have hZ' := Lib.hid hZ
          have hZp' := Lib.hid hZp
          clear hZ hZn hZb hZp c2 c2a f2 f3
          have hw : IntKind.i32.wrap ((k : Int) + 2) = (k : Int) + 2 := IntWalk.i32_in _ (by omega)
          go_wp2_with fail
          refine wp_region_own_tail0 7 (by kernel_rfl) (by kernel_rfl) ?_
          simp only [List.take_succ_cons, List.take_zero, List.drop_succ_cons, List.drop_zero]
          repeat (go_big_quiet_step (fail))
          refine wpQuiet_nil ?_
          rintro _ ⟨y3, rfl⟩
          obtain ⟨w2, e5, hm5, hg5, -⟩ := bd_put (R := R) (fun k n e => bdPlaces_fits hAX'.out k n e) (hZp'.out.of_heap ((below_plus Z y3).block _ hZp'.out.lt)) (m := ⟨v, lo, hi⟩) ⟨by simp only; omega, by simp only; omega, by simp only; omega⟩ (k + 2)
          have e6 : (Instr.mapUpdate 60 (.map (some L.bp)) (.agg #[.int .i32 (v : Int), .int .i32 (lo : Int), .int .i32 (hi : Int)]) (.int .i32 ((k : Int) + 2))).run Try.prog (plus Z y3) = .ok () w2 := e5
          have hend := Lib.hid (bd_node_end (Y := Y) (m := ⟨v, lo, hi⟩) (c := c) hYB'.out h'.out hY'.out hm.out q ho'.out hroom.out (by rw [hN'.out]; exact hYg'.out) (by rw [hN'.out]; exact h2'.out) h3'.out h4'.out (by rw [hN'.out, hZ'.out]; exact hg5) (by rw [hN'.out]; exact hm5))
          clear e5 hm5 hg5
          go_wp2
          go_ret
          rw [e1.out]
          have := hend.out
          rw [hN'.out] at this ⊢
          exact this
end Go.Proofs.Ytfphilgdikanfaa
