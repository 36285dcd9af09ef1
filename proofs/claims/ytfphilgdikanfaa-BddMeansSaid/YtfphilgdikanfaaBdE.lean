/-
  WHAT IS PROVED HERE: a store of decision diagrams in memory (BdAt): its block, its rows, its two maps; what of the world a call of a store lets be (BdKeep).
-/
import Derived.Test.YtfphilgdikanfaaRows
import Derived.Test.YtfphilgdikanfaaKit
import Derived.Test.YtfphilgdikanfaaBdC
import Derived.Test.YtfphilgdikanfaaBdD
import Derived.DeepKeys4
import Derived.Laws.AppendOwn
import Derived.WalkKit
import Derived.Lib.Hide
import Derived.WalkSpells
import Derived.WalkLawsBesides
namespace Go.Proofs.Ytfphilgdikanfaa
open Go.RowKit
theorem bd_laidOut : laidOutB Try.prog = true := by kernel_rfl
theorem bd_law58 : WideMaps.KeyLaw Try.prog 58 := deep_law_laid bd_laidOut (m := 2) (by omega) (of_decide_eq_true (by kernel_rfl)) (by kernel_rfl) (by rw [Try.underlying58])
theorem bd_law72 : WideMaps.KeyLaw Try.prog 72 := deep_law_laid bd_laidOut (m := 2) (by omega) (of_decide_eq_true (by kernel_rfl)) (by kernel_rfl) (by rw [Try.underlying72])
theorem bd_keyed58 : Maps.Keyed Try.prog 58 := Maps.Keyed.of_law bd_law58
theorem bd_keyed72 : Maps.Keyed Try.prog 72 := Maps.Keyed.of_law bd_law72
/-- Three numbers as a key. -/
def bdKey (n : Bd) : Value := .agg #[.int .i32 (n.v : Int), .int .i32 (n.lo : Int), .int .i32 (n.hi : Int)]
def bdNum (n : Nat) : Value := .int .i32 (n : Int)
theorem bdKey_inj (a b : Bd) (h : bdKey a = bdKey b) : a = b := by
  cases a; cases b
  simp only [bdKey, Value.agg.injEq, Array.mk.injEq, List.cons.injEq, Value.int.injEq, true_and, and_true] at h
  obtain ⟨h1, h2, h3⟩ := h
  simp only [Bd.mk.injEq]
  omega
def BdFits (n : Bd) : Prop := n.v < 2147483648 ∧ n.lo < 2147483648 ∧ n.hi < 2147483648
theorem wf32 (k : Nat) (hk : k < 2147483648) : (Lit.int .i32 (k : Int)).wf = true := by
  have e1 : IntKind.i32.min = -2147483648 := by decide
  have e2 : IntKind.i32.max = 2147483647 := by decide
  show (decide (IntKind.i32.min ≤ (k : Int)) && decide ((k : Int) ≤ IntKind.i32.max)) = true
  rw [e1, e2, Bool.and_eq_true]
  exact ⟨decide_eq_true (by omega), decide_eq_true (by omega)⟩
set_option maxRecDepth 20000 in
theorem bd_key58 (n : Bd) (h : BdFits n) : ∃ l, keyOf Try.prog 58 (bdKey n) = some l := by
  obtain ⟨k, hts⟩ : ∃ k, Try.prog.types.size + 1 = k + 2 := ⟨Try.prog.types.size - 1, by have : 2 ≤ Try.prog.types.size := of_decide_eq_true (by kernel_rfl); omega⟩
  have hk : Try.prog.keyType 58 = true := by kernel_rfl
  have hc : Try.prog.cellsOf 58 = 3 := by kernel_rfl
  have hf : (bdKey n).formed Try.prog 58 = true := by simp [Value.formed, bdKey, Try.underlying58, hc]
  have hc2 : Try.prog.cellsOf 21 = 1 := by kernel_rfl
  have h1 : ∀ (k m : Nat), m < 2147483648 → Try.prog.keyLits (k + 1) 21 [.int .i32 (m : Int)] = some [.int .i32 (m : Int)] := fun k m hm => by
    unfold Program.keyLits
    rw [Try.underlying21]
    simp only [true_and, wf32 m hm, if_true]
  have h2 : Try.prog.keyLits (k + 2) 58 (bdKey n).cells.toList = some [.int .i32 (n.v : Int), .int .i32 (n.lo : Int), .int .i32 (n.hi : Int)] := by
    unfold Program.keyLits
    rw [Try.underlying58]
    simp [hc, hc2, bdKey, Value.cells, h1 k _ h.1, h1 k _ h.2.1, h1 k _ h.2.2]
  unfold keyOf
  rw [Try.underlying58]
  simp only [hk, hf, hts, h2]
  exact ⟨_, rfl⟩
set_option maxRecDepth 20000 in
theorem bd_key72 (n : Bd) (h : BdFits n) : ∃ l, keyOf Try.prog 72 (bdKey n) = some l := by
  obtain ⟨k, hts⟩ : ∃ k, Try.prog.types.size + 1 = k + 2 := ⟨Try.prog.types.size - 1, by have : 2 ≤ Try.prog.types.size := of_decide_eq_true (by kernel_rfl); omega⟩
  have hk : Try.prog.keyType 72 = true := by kernel_rfl
  have hc : Try.prog.cellsOf 72 = 3 := by kernel_rfl
  have hf : (bdKey n).formed Try.prog 72 = true := by simp [Value.formed, bdKey, Try.underlying72, hc]
  have hc2 : Try.prog.cellsOf 21 = 1 := by kernel_rfl
  have h1 : ∀ (k m : Nat), m < 2147483648 → Try.prog.keyLits (k + 1) 21 [.int .i32 (m : Int)] = some [.int .i32 (m : Int)] := fun k m hm => by
    unfold Program.keyLits
    rw [Try.underlying21]
    simp only [true_and, wf32 m hm, if_true]
  have h2 : Try.prog.keyLits (k + 2) 72 (bdKey n).cells.toList = some [.int .i32 (n.v : Int), .int .i32 (n.lo : Int), .int .i32 (n.hi : Int)] := by
    unfold Program.keyLits
    rw [Try.underlying72]
    simp [hc, hc2, bdKey, Value.cells, h1 k _ h.1, h1 k _ h.2.1, h1 k _ h.2.2]
  unfold keyOf
  rw [Try.underlying72]
  simp only [hk, hf, hts, h2]
  exact ⟨_, rfl⟩

def bdCells (R : List Bd) : List Value := R.flatMap fun n => [.int .i32 (n.v : Int), .int .i32 (n.lo : Int), .int .i32 (n.hi : Int)]
theorem bdCells_len (R : List Bd) : (bdCells R).length = R.length * 3 := by
  induction R with
  | nil => rfl
  | cons n R ih => simp only [bdCells, List.flatMap_cons, List.length_append, List.length_cons, List.length_nil] at ih ⊢; omega
theorem bdCells_app (R S : List Bd) : bdCells (R ++ S) = bdCells R ++ bdCells S := by simp [bdCells]
theorem bdCells_at {R : List Bd} {a : Nat} {n : Bd} (h : R[a]? = some n) : (bdCells R)[a * 3]? = some (.int .i32 (n.v : Int)) ∧ (bdCells R)[a * 3 + 1]? = some (.int .i32 (n.lo : Int)) ∧ (bdCells R)[a * 3 + 2]? = some (.int .i32 (n.hi : Int)) := by
  induction R generalizing a with
  | nil => simp at h
  | cons m R ih =>
    match a with
    | 0 =>
      simp at h; subst h
      exact ⟨rfl, rfl, rfl⟩
    | a + 1 =>
      have e : bdCells (m :: R) = .int .i32 (m.v : Int) :: .int .i32 (m.lo : Int) :: .int .i32 (m.hi : Int) :: bdCells R := rfl
      have := ih (a := a) (by simpa using h)
      rw [e, show (a + 1) * 3 = a * 3 + 1 + 1 + 1 by omega]
      exact this
/-- Where a store lies: its block, its rows', its maps'. -/
structure BdL where
  bn : Nat
  br : Nat
  bp : Nat
  bk : Nat
def BdL.has (L : BdL) (k : Nat) : Prop := k = L.bn ∨ k = L.br ∨ k = L.bp ∨ k = L.bk
def bdPlaces (R : List Bd) : Bd → Option Nat := fun n => if n.lo = n.hi then none else bdFind R n
/-- What was reckoned of these rows is what Ite of them is. -/
def BdTold (cap : Nat) (R : List Bd) (K : Bd → Option Nat) : Prop := ∀ (k : Bd) (n : Nat), K k = some n → k.v < R.length ∧ k.lo < R.length ∧ k.hi < R.length ∧ bdI cap R k.v k.lo k.hi = (R, some n)
/-- A store of decision diagrams in memory. -/
structure BdAt (w : World) (L : BdL) (cap : Nat) (full : Bool) (R : List Bd) : Prop where
  head : ∃ c, w.heap[L.bn]? = some (.cells #[.int .i64 (cap : Int), .bool full, .slice (some ⟨L.br, 0, none⟩) R.length c, .map (some L.bp), .map (some L.bk)] 63 (0, 0)) ∧ w.ownsRow 0 58 3 (.slice (some ⟨L.br, 0, none⟩) R.length c) R.length (bdCells R)
  places : MapG w L.bp bdKey bdNum (bdPlaces R)
  told : ∃ K, MapG w L.bk bdKey bdNum K ∧ BdTold cap R K
  ok : BdOk R
  room : R.length ≤ cap + 2
  small : cap ≤ 1048576
  two : L.bp ≠ L.bk
/-- What a call of a store lets be: all blocks that are none of these. -/
structure BdKeep (own : Nat → Prop) (w w' : World) : Prop where
  os : w'.os = w.os
  tape : w'.tape = w.tape
  output : w'.output = w.output
  size : w.heap.size ≤ w'.heap.size
  block : ∀ k, k < w.heap.size → ¬ own k → w'.heap[k]? = w.heap[k]?
/-- Where the store lies behind it. -/
structure BdMove (w : World) (L L' : BdL) : Prop where
  bn : L'.bn = L.bn
  bp : L'.bp = L.bp
  bk : L'.bk = L.bk
  br : L'.br = L.br ∨ w.heap.size ≤ L'.br
theorem BdMove.refl (w : World) (L : BdL) : BdMove w L L := ⟨rfl, rfl, rfl, .inl rfl⟩
theorem BdMove.has {w : World} {L L' : BdL} (h : BdMove w L L') {k : Nat} (hk : k < w.heap.size) (hh : L'.has k) : L.has k := by
  obtain ⟨h1, h2, h3, h4⟩ := h
  rcases hh with e | e | e | e
  · exact .inl (e.trans h1)
  · rcases h4 with h4 | h4
    · exact .inr (.inl (e.trans h4))
    · omega
  · exact .inr (.inr (.inl (e.trans h2)))
  · exact .inr (.inr (.inr (e.trans h3)))
theorem BdMove.trans {w w' : World} {L L' L'' : BdL} (h : BdMove w L L') (hs : w.heap.size ≤ w'.heap.size) (h' : BdMove w' L' L'') : BdMove w L L'' := by
  refine ⟨h'.bn.trans h.bn, h'.bp.trans h.bp, h'.bk.trans h.bk, ?_⟩
  rcases h'.br with e | e
  · rcases h.br with e2 | e2
    · exact .inl (e.trans e2)
    · exact .inr (by omega)
  · exact .inr (by omega)
theorem BdKeep.of_below {w w' : World} (own : Nat → Prop) (h : Below w.heap.size w w') : BdKeep own w w' := ⟨h.os, h.tape, h.output, h.size, fun k hk _ => h.block k hk⟩
theorem BdKeep.refl (own : Nat → Prop) (w : World) : BdKeep own w w := ⟨rfl, rfl, rfl, Nat.le_refl _, fun _ _ _ => rfl⟩
theorem BdKeep.trans {w w1 w2 : World} {L L' : BdL} (h : BdKeep L.has w w1) (hm : BdMove w L L') (h' : BdKeep L'.has w1 w2) : BdKeep L.has w w2 :=
  ⟨h'.os.trans h.os, h'.tape.trans h.tape, h'.output.trans h.output, Nat.le_trans h.size h'.size, fun k hk hn => (h'.block k (Nat.lt_of_lt_of_le hk h.size) (fun q => hn (hm.has hk q))).trans (h.block k hk hn)⟩
theorem BdKeep.below {w w' : World} {own : Nat → Prop} (h : BdKeep own w w') {B : Nat} (hB : B ≤ w.heap.size) (ho : ∀ k, own k → B ≤ k) : Below B w w' :=
  ⟨h.os, h.tape, h.output, h.size, fun k hk => h.block k (by omega) (fun q => by have := ho k q; omega)⟩
theorem bd_own_up {w w' : World} {base : Nat} {e : TypeId} {C : Nat} {g n c : Nat} {xs : List Value} (h : w.ownsRow base e C (.slice (some ⟨g, 0, none⟩) n c) n xs) (hB : w'.heap[g]? = w.heap[g]?) : w'.ownsRow base e C (.slice (some ⟨g, 0, none⟩) n c) n xs := by
  obtain ⟨hl, h2⟩ := h
  refine ⟨hl, ?_⟩
  rcases h2 with ⟨h2, _⟩ | ⟨g', cap, cur, hv, hg, hh, h3, h4, h5, h6⟩
  · cases h2
  · cases hv
    exact .inr ⟨g, c, cur, rfl, hg, hB.trans hh, h3, h4, h5, h6⟩
/-- A store stands where its four blocks stand. -/
theorem BdAt.of_heap {w w' : World} {L : BdL} {cap : Nat} {full : Bool} {R : List Bd} (h : BdAt w L cap full R) (hg : ∀ k, L.has k → w'.heap[k]? = w.heap[k]?) : BdAt w' L cap full R := by
  obtain ⟨⟨c, h1, h2⟩, h3, ⟨K, h4, h5⟩, h6, h7, h8, h9⟩ := h
  exact ⟨⟨c, (hg _ (.inl rfl)).trans h1, bd_own_up h2 (hg _ (.inr (.inl rfl)))⟩, h3.of_heap (hg _ (.inr (.inr (.inl rfl)))), ⟨K, h4.of_heap (hg _ (.inr (.inr (.inr rfl)))), h5⟩, h6, h7, h8, h9⟩
theorem bd_own_lt {w : World} {base : Nat} {e : TypeId} {C : Nat} {g n c : Nat} {xs : List Value} (h : w.ownsRow base e C (.slice (some ⟨g, 0, none⟩) n c) n xs) : ∃ cur, w.heap[g]? = some (.cells cur e (0, 0)) := by
  obtain ⟨hl, h2⟩ := h
  rcases h2 with ⟨h2, _⟩ | ⟨g', cap, cur, hv, hg, hh, h3⟩
  · cases h2
  · cases hv
    exact ⟨cur, hh⟩
theorem BdAt.lt {w : World} {L : BdL} {cap : Nat} {full : Bool} {R : List Bd} (h : BdAt w L cap full R) {k : Nat} (hk : L.has k) : k < w.heap.size := by
  obtain ⟨⟨c, h1, h2⟩, h3, ⟨K, h4, h5⟩, _⟩ := h
  rcases hk with rfl | rfl | rfl | rfl
  · exact (Array.getElem?_eq_some_iff.1 h1).1
  · obtain ⟨cur, e⟩ := bd_own_lt h2
    exact (Array.getElem?_eq_some_iff.1 e).1
  · exact h3.lt
  · exact h4.lt
theorem BdAt.below {w w' : World} {L : BdL} {cap : Nat} {full : Bool} {R : List Bd} (h : BdAt w L cap full R) (hB : Below w.heap.size w w') : BdAt w' L cap full R :=
  h.of_heap fun k hk => hB.block k (h.lt hk)
theorem BdAt.plus {w : World} {L : BdL} {cap : Nat} {full : Bool} {R : List Bd} (h : BdAt w L cap full R) (y : Ext) : BdAt (plus w y) L cap full R := h.below (below_plus w y)
/-- No other block than the store's. -/
theorem BdAt.other {w : World} {L : BdL} {cap : Nat} {full : Bool} {R : List Bd} (h : BdAt w L cap full R) {k : Nat} {cs : Array Value} {t : TypeId} {z : Nat × Nat} (hk : w.heap[k]? = some (.cells cs t z)) (h1 : t ≠ 63) (h2 : t ≠ 58) : ¬ L.has k := by
  obtain ⟨⟨c, g1, g2⟩, g3, ⟨K, g4, g5⟩, _⟩ := h
  intro hh
  rcases hh with rfl | rfl | rfl | rfl
  · rw [hk] at g1; cases g1; exact h1 rfl
  · obtain ⟨cur, e⟩ := bd_own_lt g2
    rw [hk] at e; cases e; exact h2 rfl
  · obtain ⟨es, clock, e⟩ := g3.is_map
    rw [hk] at e; cases e
  · obtain ⟨es, clock, e⟩ := g4.is_map
    rw [hk] at e; cases e
theorem bd_heap_plus (W : World) (x : Ext) {b : Nat} {o : Obj} (h : W.heap[b]? = some o) : (Go.Proofs.Ytfphilgdikanfaa.plus W x).heap[b]? = some o := ((below_plus W x).block b (Array.getElem?_eq_some_iff.1 h).1).trans h
theorem bd_cell {W : World} {b : Nat} {cs : Array Value} {t : TypeId} {fr : Nat × Nat} (h : W.heap[b]? = some (.cells cs t fr)) (j : Nat) (u : Value) (hj : cs[j]? = some u) : W.cell? ⟨b, j, none⟩ = some u := by
  show (match W.heap[b]? with | some (.cells c _ _) => if (none : Option Nat).isSome then none else c[j]? | _ => none) = _
  rw [h]
  exact hj
theorem bd_free {W : World} {b : Nat} {cs : Array Value} {t : TypeId} (h : W.heap[b]? = some (.cells cs t (0, 0))) (o : Nat) : W.frozen? ⟨b, o, none⟩ = false := by
  show (match W.heap[b]? with | some (.cells _ _ (lo, hi)) => decide (lo ≤ o) && decide (o < hi) | _ => false) = _
  rw [h]
  simp
/-- The cells of a row of a store. -/
theorem BdAt.row {w : World} {L : BdL} {cap : Nat} {full : Bool} {R : List Bd} (h : BdAt w L cap full R) {a : Nat} {n : Bd} (ha : R[a]? = some n) :
    w.cell? ⟨L.br, a * 3, none⟩ = some (.int .i32 (n.v : Int)) ∧ w.cell? ⟨L.br, a * 3 + 1, none⟩ = some (.int .i32 (n.lo : Int)) ∧ w.cell? ⟨L.br, a * 3 + 2, none⟩ = some (.int .i32 (n.hi : Int)) := by
  obtain ⟨⟨c, g1, hl, g2⟩, _⟩ := h
  rcases g2 with ⟨h2, _⟩ | ⟨g', cp, cur, hv, hg, hh, h3, h4, h5, h6⟩
  · cases h2
  · cases hv
    obtain ⟨e0, e1, e2⟩ := bdCells_at ha
    have hlt := (List.getElem?_eq_some_iff.1 ha).1
    have key : ∀ j u, (bdCells R)[j]? = some u → cur[j]? = some u := fun j u hu => by
      have hj := (List.getElem?_eq_some_iff.1 hu).1
      rw [← h6, List.getElem?_take_of_lt (by rw [bdCells_len] at hj; exact hj)] at hu
      simpa using hu
    exact ⟨bd_cell hh _ _ (key _ _ e0), bd_cell hh _ _ (key _ _ e1), bd_cell hh _ _ (key _ _ e2)⟩
theorem BdAt.fits {w : World} {L : BdL} {cap : Nat} {full : Bool} {R : List Bd} (h : BdAt w L cap full R) {a : Nat} {n : Bd} (ha : R[a]? = some n) : n.v ≤ 64 ∧ n.lo ≤ 1048577 ∧ n.hi ≤ 1048577 := by
  have hlt := (List.getElem?_eq_some_iff.1 ha).1
  have h1 := h.room
  have h2 := h.small
  have hv := bdV_le h.ok a
  rw [bdV_at ha] at hv
  refine ⟨hv, ?_⟩
  match a with
  | 0 => rw [h.ok.no] at ha; cases ha; simp
  | 1 => rw [h.ok.yes] at ha; cases ha; simp
  | a + 2 =>
    have := h.ok.lo _ _ ha (by omega)
    have := h.ok.hi _ _ ha (by omega)
    omega
end Go.Proofs.Ytfphilgdikanfaa
