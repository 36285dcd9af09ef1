/-
  WHAT IS PROVED HERE: a part of the proof of the claim's theorem: NetC; NetD; NetE; NetF; Um.
-/
import Derived.Test.YtkffjjlmoojffaaGreatDoorRows
import Derived.Test.YtkffjjlmoojffaaGreatDoorB15
import Derived.Test.YtkffjjlmoojffaaGreatDoorB16
import Derived.Test.YtkffjjlmoojffaaGreatDoorB14
import Derived.WalkKit
import Derived.WalkSpells
import Derived.WalkLawsBesides
set_option linter.all false
namespace Go.Proofs.YtkffjjlmoojffaaGreatDoor
open Go.RowKit
structure Rd (w : World) (b g cap : Nat) (l : List Tok) (sw po li : Value) (d : DS) : Prop where
  lt : b < w.heap.size
  c0 : w.cell? ⟨b, 0, none⟩ = some (.slice (some ⟨g, 0, none⟩) l.length cap)
  c1 : w.cell? ⟨b, 1, none⟩ = some (.int .i64 (d.k : Int))
  c2 : w.cell? ⟨b, 2, none⟩ = some sw
  c3 : w.cell? ⟨b, 3, none⟩ = some po
  c4 : w.cell? ⟨b, 4, none⟩ = some li
  c5 : w.cell? ⟨b, 5, none⟩ = some (.bool d.bad)
  c6 : w.cell? ⟨b, 6, none⟩ = some (.int .i64 d.e)
  c7 : w.cell? ⟨b, 7, none⟩ = some (.int .i64 (d.p : Int))
  fz : ∀ o, w.frozen? ⟨b, o, none⟩ = false
  ne : g ≠ b
  pos : 0 < l.length
  big : l.length ≤ 140737488355328
  tk : ∀ (j : Nat) (t : Tok), l[j]? = some t → TokAt w g j t
section
variable {w w' : World} {b g cap : Nat} {l : List Tok} {sw po li : Value} {d : DS}
theorem Rd.keep (h : Rd w b g cap l sw po li d) (hs : w.heap.size ≤ w'.heap.size) (hb : w'.heap[b]? = w.heap[b]?) (hg : w'.heap[g]? = w.heap[g]?) : Rd w' b g cap l sw po li d :=
  have c := fun i v (e : w.cell? ⟨b, i, none⟩ = v) => (World.cell?_of_block (w := w) (a := ⟨b, i, none⟩) hb).trans e
  ⟨Nat.lt_of_lt_of_le h.lt hs, c _ _ h.c0, c _ _ h.c1, c _ _ h.c2, c _ _ h.c3, c _ _ h.c4, c _ _ h.c5, c _ _ h.c6, c _ _ h.c7, fun o => (World.frozen?_of_block (w := w) (a := ⟨b, o, none⟩) hb).trans (h.fz o), h.ne, h.pos, h.big, fun j t ht => (h.tk j t ht).block hs hg⟩
theorem Rd.glt (h : Rd w b g cap l sw po li d) : g < w.heap.size := (h.tk 0 (l[0]'h.pos) (List.getElem?_eq_getElem h.pos)).lt
theorem Rd.below (h : Rd w b g cap l sw po li d) (hB : Below w.heap.size w w') : Rd w' b g cap l sw po li d := h.keep hB.size (hB.block b h.lt) (hB.block g h.glt)
theorem Rd.plus (h : Rd w b g cap l sw po li d) (x : Ext) : Rd (plus w x) b g cap l sw po li d := h.below (below_plus w x)
theorem Rd.alloc (h : Rd w b g cap l sw po li d) (o : Obj) : Rd (w.alloc o) b g cap l sw po li d := h.below ((Below.refl _ w).alloc (Nat.le_refl _) o)
theorem Rd.set (h : Rd w b g cap l sw po li d) {n : Nat} (hb : ¬ n = b) (hg : ¬ n = g) (i : Nat) (v : Value) : Rd (w.setCell ⟨n, i, none⟩ v) b g cap l sw po li d :=
  h.keep (Nat.le_of_eq (by simp)) (Below.heap_setCell _ _ _ _ (fun e => hb e.symm)) (Below.heap_setCell _ _ _ _ (fun e => hg e.symm))
theorem Rd.put (h : Rd w b g cap l sw po li d) (i : Nat) (v : Value) {sw' po' li' : Value} {d' : DS}
    (e : [.slice (some ⟨g, 0, none⟩) l.length cap, .int .i64 (d'.k : Int), sw', po', li', .bool d'.bad, .int .i64 d'.e, .int .i64 (d'.p : Int)] = [.slice (some ⟨g, 0, none⟩) l.length cap, .int .i64 (d.k : Int), sw, po, li, .bool d.bad, .int .i64 d.e, .int .i64 (d.p : Int)].set i v) : Rd (w.setCell ⟨b, i, none⟩ v) b g cap l sw' po' li' d' := by
  have hz : (w.setCell ⟨b, i, none⟩ v).heap.size = w.heap.size := by simp
  have old : ∀ j u, [.slice (some ⟨g, 0, none⟩) l.length cap, .int .i64 (d.k : Int), sw, po, li, .bool d.bad, .int .i64 d.e, .int .i64 (d.p : Int)][j]? = some u → w.cell? ⟨b, j, none⟩ = some u := by
    intro j u hu
    match j, hu with
    | 0, hu => exact h.c0.trans hu
    | 1, hu => exact h.c1.trans hu
    | 2, hu => exact h.c2.trans hu
    | 3, hu => exact h.c3.trans hu
    | 4, hu => exact h.c4.trans hu
    | 5, hu => exact h.c5.trans hu
    | 6, hu => exact h.c6.trans hu
    | 7, hu => exact h.c7.trans hu
    | j + 8, hu => simp at hu
  have c : ∀ j u, [.slice (some ⟨g, 0, none⟩) l.length cap, .int .i64 (d'.k : Int), sw', po', li', .bool d'.bad, .int .i64 d'.e, .int .i64 (d'.p : Int)][j]? = some u → (w.setCell ⟨b, i, none⟩ v).cell? ⟨b, j, none⟩ = some u := by
    intro j u hu
    rw [e, List.getElem?_set] at hu
    split at hu
    · rename_i hij
      subst hij
      split at hu
      · rename_i hi
        obtain rfl := Option.some.inj hu
        exact World.cell?_setCell_same _ _ _ (old i _ (List.getElem?_eq_getElem hi))
      · cases hu
    · rename_i hij
      rw [World.cell?_setCell_other _ _ _ _ (fun e => hij (congrArg Addr.off e))]
      exact old j u hu
  exact ⟨by rw [hz]; exact h.lt, c 0 _ rfl, c 1 _ rfl, c 2 _ rfl, c 3 _ rfl, c 4 _ rfl, c 5 _ rfl, c 6 _ rfl, c 7 _ rfl, fun o => by rw [World.frozen?_setCell]; exact h.fz o, h.ne, h.pos, h.big, fun j t ht => (h.tk j t ht).block (Nat.le_of_eq hz.symm) (Below.heap_setCell _ _ _ _ h.ne)⟩
end
end Go.Proofs.YtkffjjlmoojffaaGreatDoor
namespace Go.Proofs.YtkffjjlmoojffaaGreatDoor
open Go.RowKit
section
variable {w w' : World} {b g cap : Nat} {l : List Tok} {sw po li : Value} {d : DS}
end
end Go.Proofs.YtkffjjlmoojffaaGreatDoor
namespace Go.Proofs.YtkffjjlmoojffaaGreatDoor
open Go.RowKit
section
variable {w w' : World} {b g cap : Nat} {l : List Tok} {sw po li : Value} {d : DS}
theorem dTake_lt {z : Nat} (hl : TL l z) (d : DS) (hk : d.bad = false → d.k < l.length) : (dTake l d).bad = false → (dTake l d).k < l.length := by
  intro h
  unfold dTake at h ⊢
  split
  · rename_i hc
    simp only [Bool.and_eq_true, Bool.not_eq_true', decide_eq_true_eq] at hc
    have h1 := hc.2
    rw [dNow_k l d hc.1] at h1
    exact next_lt hl d.k (hk hc.1) h1
  · rename_i hc
    rw [if_neg hc] at h
    exact hk h
theorem dFail_lt (so : Bool) (t : Tok) (e : Int) (d : DS) (hk : d.bad = false → d.k < l.length) : (dFail so t e d).bad = false → (dFail so t e d).k < l.length := by
  unfold dFail
  split
  · intro h; cases h
  · exact hk
end
end Go.Proofs.YtkffjjlmoojffaaGreatDoor
namespace Go.Proofs.YtkffjjlmoojffaaGreatDoor
open Go.RowKit
structure BoxT (n z : Nat) (t : Tok) (W : World) : Prop where
  lt : n < z
  ltz : z < W.heap.size
  r : ∀ i, i < 6 → ∃ u, W.cell? ⟨n, i, none⟩ = some u
  fr : ∀ o, W.frozen? ⟨n, o, none⟩ = false
  t : ∀ i v, (tokL t)[i]? = some v → W.cell? ⟨z, i, none⟩ = some v
theorem BoxT.block {n z : Nat} {t : Tok} {W W' : World} (h : BoxT n z t W) (hs : W.heap.size ≤ W'.heap.size) (h1 : W'.heap[n]? = W.heap[n]?) (h2 : W'.heap[z]? = W.heap[z]?) : BoxT n z t W' :=
  ⟨h.lt, Nat.lt_of_lt_of_le h.ltz hs, fun i hi => by obtain ⟨u, hu⟩ := h.r i hi; exact ⟨u, (World.cell?_of_block (w := W) (a := ⟨n, i, none⟩) h1).trans hu⟩, fun o => (World.frozen?_of_block (w := W) (a := ⟨n, o, none⟩) h1).trans (h.fr o), fun i v hv => (World.cell?_of_block (w := W) (a := ⟨z, i, none⟩) h2).trans (h.t i v hv)⟩
theorem BoxT.grown {n z b : Nat} {t : Tok} {W W' : World} (h : BoxT n z t W) (hg : W.grownBy W' (some b)) (hb : b < n) : BoxT n z t W' := by
  have := h.lt
  have := h.ltz
  exact h.block hg.size (hg.block n (by omega) (fun e => by have := Option.some.inj e; omega)) (hg.block z (by omega) (fun e => by have := Option.some.inj e; omega))
theorem BoxT.plus {n z : Nat} {t : Tok} {W : World} (h : BoxT n z t W) (x : Ext) : BoxT n z t (plus W x) := by
  have := h.lt
  have := h.ltz
  have hB := below_plus W x
  exact h.block hB.size (hB.block n (by omega)) (hB.block z (by omega))
theorem BoxT.start (w : World) (T : TypeId) {X : World} {b : Nat} (hb : b < w.heap.size) (hg : (w.alloc (.cells #[.int .u8 0, .string ⟨#[]⟩, .int .i64 0, .int .u64 0, .int .u64 0, .int .i64 0] T)).grownBy X (some b)) (t : Tok) (T2 : TypeId) :
    BoxT w.heap.size X.heap.size t (X.alloc (.cells (tokL t).toArray T2)) := by
  have hz : (w.alloc (.cells #[.int .u8 0, .string ⟨#[]⟩, .int .i64 0, .int .u64 0, .int .u64 0, .int .i64 0] T)).heap.size = w.heap.size + 1 := by simp
  have hs := hg.size
  have hlt : w.heap.size < X.heap.size := by omega
  have hbl := hg.block w.heap.size (by omega) (fun e => by have := Option.some.inj e; omega)
  refine ⟨hlt, by simp, fun i hi => ?_, fun o => ?_, fun i v hv => ?_⟩
  · have h6 : i < (#[.int .u8 0, .string ⟨#[]⟩, .int .i64 0, .int .u64 0, .int .u64 0, .int .i64 0] : Array Value).size := hi
    exact ⟨_, (cell_old X _ _ i hlt).trans ((World.cell?_of_block (a := ⟨w.heap.size, i, none⟩) hbl).trans ((cell_new w _ T _ i rfl).trans (Array.getElem?_eq_getElem h6)))⟩
  · exact (frozen_old X _ _ o hlt).trans ((World.frozen?_of_block (a := ⟨w.heap.size, o, none⟩) hbl).trans (frozen_new w _ T _ o rfl))
  · rw [cell_new X _ T2 _ i rfl]
    simpa using hv
section
variable {w w' : World} {b g cap : Nat} {l : List Tok} {sw po li : Value} {d : DS}
end
end Go.Proofs.YtkffjjlmoojffaaGreatDoor
namespace Go.Proofs.YtkffjjlmoojffaaGreatDoor
open Go.RowKit
def PureS (f : FuncId) (args : Array Value) (v : Value) : Prop := ∀ w, Std w → Calls Tryz.prog f args w fun e w' => e = .returned v ∧ ∃ x, w' = plus w x
theorem PureS.at {f : FuncId} {args : Array Value} {v : Value} (h : PureS f args v) (w : World) (hS : Std w) (x : Ext) :
    Calls Tryz.prog f args (plus w x) fun e w' => e = .returned v ∧ ∃ y, w' = plus w y :=
  (h _ (hS.plus x)).mono fun _ _ ⟨he, y, hy⟩ => ⟨he, ⟨x.blocks ++ y.blocks, y.draws⟩, by rw [hy, plus_plus]⟩
theorem own_form {W : World} {base : Nat} {e : TypeId} {size : Nat} {v : Value} {n : Nat} {xs : List Value} (h : W.ownsRow base e size v n xs) (hn : 0 < n) : ∃ g cap, v = .slice (some ⟨g, 0, none⟩) n cap ∧ base ≤ g ∧ g < W.heap.size := by
  rcases h.2 with ⟨rfl, h0⟩ | ⟨g, cap, cur, rfl, hg, hh, _⟩
  · omega
  · exact ⟨g, cap, rfl, hg, (Array.getElem?_eq_some_iff.1 hh).1⟩
end Go.Proofs.YtkffjjlmoojffaaGreatDoor
