/-
  WHAT IS PROVED HERE: a part of the proof of the claim's theorem: NetJ; NetK.
-/
import Derived.Test.YtkffjjlmoojffaaGreatDoorRows
import Derived.Test.YtkffjjlmoojffaaGreatDoorB18
import Derived.Deep.RegionHeld3
import Derived.Deep.CutRange
set_option linter.all false
namespace Go.Proofs.YtkffjjlmoojffaaGreatDoor
open Go.RowKit
theorem dFail_k (so : Bool) (t : Tok) (e : Int) (d : DS) : (dFail so t e d).k = d.k := by unfold dFail; split <;> rfl
theorem w_ok : WordOk wSwitch ∧ WordOk wLink ∧ WordOk wOpen ∧ WordOk wShut ∧ WordOk wSemi ∧ WordOk wColon := by
  refine ⟨⟨?_, by decide⟩, ⟨?_, by decide⟩, ⟨?_, by decide⟩, ⟨?_, by decide⟩, ⟨?_, by decide⟩, ⟨?_, by decide⟩⟩ <;> (intro h; have := congrArg ByteArray.size h; revert this; decide)
def dPorts (l : List Tok) (d : DS) : List Int × DS := (sortK (dPortsN l (l.length + 2) [] (dWant l d wOpen)).1 511, dWant l (dPortsN l (l.length + 2) [] (dWant l d wOpen)).2 wShut)
theorem dTake_le {l : List Tok} {z : Nat} (hl : TL l z) {d : DS} (hk : d.k ≤ l.length) (hk2 : d.bad = false → d.k < l.length) : (dTake l d).k ≤ l.length := by
  unfold dTake
  split
  · rename_i hc
    simp only [Bool.and_eq_true, Bool.not_eq_true', decide_eq_true_eq] at hc
    have := hk2 hc.1
    show d.k + 1 ≤ l.length
    omega
  · exact hk
structure PoI (w : World) (b g cap : Nat) (l : List Tok) (sw po li : Value) (v : Value) (out : List Int) (d : DS) (wr : World) : Prop where
  gr : w.grownBy wr (some b)
  rd : Rd wr b g cap l sw po li d
  own : Own wr w.heap.size 3 1 intC v out
section
variable {w wr w2 : World} {b g cap : Nat} {l : List Tok} {sw po li v v' : Value} {out : List Int} {d d2 : DS}
theorem PoI.step (h : PoI w b g cap l sw po li v out d wr) (hb : b < w.heap.size) (hg : wr.grownBy w2 (some b)) (hX : Rd w2 b g cap l sw po li d2) : PoI w b g cap l sw po li v out d2 w2 :=
  ⟨grown_trans h.gr hg, hX, h.own.kept hg (own_block h.own b hb)⟩
theorem PoI.plus (h : PoI w b g cap l sw po li v out d wr) (hb : b < w.heap.size) (x : Ext) : PoI w b g cap l sw po li v out d (Go.Proofs.YtkffjjlmoojffaaGreatDoor.plus wr x) := h.step hb (grown_plus_any _ _ _) (h.rd.plus x)
theorem PoI.alloc (h : PoI w b g cap l sw po li v out d wr) (hb : b < w.heap.size) (o : Obj) : PoI w b g cap l sw po li v out d (wr.alloc o) := h.step hb (grown_alloc _ _ _) (h.rd.alloc o)
theorem PoI.app (h : PoI w b g cap l sw po li v out d wr) (hb : b < w.heap.size) (hg0 : g < w.heap.size) {x : Int} {o : Obj} (hown : Own w2 w.heap.size 3 1 intC v' (out ++ [x])) (hgrow : (wr.alloc o).grownBy w2 v.ownBlock) : PoI w b g cap l sw po li v' (out ++ [x]) d w2 := by
  have hr := fun k (e : some k = v.ownBlock) => (h.own.lt k e.symm).1
  have hz : (wr.alloc o).heap.size = wr.heap.size + 1 := by simp
  have hs := h.gr.size
  have hgl := h.rd.glt
  have hB := (h.rd.alloc o)
  refine ⟨⟨hgrow.os.trans h.gr.os, hgrow.tape.trans h.gr.tape, hgrow.output.trans h.gr.output, by have := hgrow.size; omega, fun k hk hne => ?_⟩, hB.keep hgrow.size ?_ ?_, hown⟩
  · rw [hgrow.block k (by omega) (fun e => by have := hr k e; omega), Below.heap_alloc _ _ _ (by omega)]
    exact h.gr.block k hk hne
  · exact hgrow.block b (by have := h.rd.lt; omega) (fun e => by have := hr b e; omega)
  · refine hgrow.block g (by omega) (fun e => ?_)
    have := hr g e
    omega
end
end Go.Proofs.YtkffjjlmoojffaaGreatDoor
namespace Go.Proofs.YtkffjjlmoojffaaGreatDoor
open Go.RowKit
structure Kn (b : Nat) (zs : List (Nat × List Value)) (W : World) : Prop where
  all : ∀ z cs, (z, cs) ∈ zs → b < z ∧ z < W.heap.size ∧ (∀ i v, cs[i]? = some v → W.cell? ⟨z, i, none⟩ = some v) ∧ ∀ o, W.frozen? ⟨z, o, none⟩ = false
theorem Kn.nil (b : Nat) (W : World) : Kn b [] W := ⟨fun _ _ h => by cases h⟩
theorem Kn.grown {b : Nat} {zs : List (Nat × List Value)} {W W' : World} (h : Kn b zs W) (hg : W.grownBy W' (some b)) : Kn b zs W' := by
  refine ⟨fun z cs hz => ?_⟩
  obtain ⟨h1, h2, h3, h4⟩ := h.all z cs hz
  have hb := hg.block z h2 (fun e => by have := Option.some.inj e; omega)
  exact ⟨h1, Nat.lt_of_lt_of_le h2 hg.size, fun i v hv => (World.cell?_of_block (w := W) (a := ⟨z, i, none⟩) hb).trans (h3 i v hv), fun o => (World.frozen?_of_block (w := W) (a := ⟨z, o, none⟩) hb).trans (h4 o)⟩
theorem Kn.plus {b : Nat} {zs : List (Nat × List Value)} {W : World} (h : Kn b zs W) (x : Ext) : Kn b zs (plus W x) := h.grown (grown_plus_any _ _ _)
theorem Kn.new {b : Nat} {zs : List (Nat × List Value)} {W : World} (h : Kn b zs W) (hb : b < W.heap.size) (cs : List Value) (T : TypeId) : Kn b ((W.heap.size, cs) :: zs) (W.alloc (.cells cs.toArray T)) := by
  refine ⟨fun z cs' hz => ?_⟩
  rw [List.mem_cons] at hz
  rcases hz with hz | hz
  · obtain ⟨rfl, rfl⟩ := Prod.mk.inj hz
    exact ⟨hb, by simp, fun i v hv => (cell_new W _ T _ i rfl).trans (by simpa using hv), fun o => frozen_new W _ T _ o rfl⟩
  · exact (h.grown (grown_alloc W _ _)).all z cs' hz
theorem Kn.cell {b : Nat} {zs : List (Nat × List Value)} {W : World} (h : Kn b zs W) (z : Nat) (cs : List Value) (hz : (z, cs) ∈ zs) (i : Nat) (v : Value) (hv : cs[i]? = some v) : W.cell? ⟨z, i, none⟩ = some v := (h.all z cs hz).2.2.1 i v hv
theorem Kn.frozen {b : Nat} {zs : List (Nat × List Value)} {W : World} (h : Kn b zs W) (z : Nat) (cs : List Value) (hz : (z, cs) ∈ zs) (o : Nat) : W.frozen? ⟨z, o, none⟩ = false := (h.all z cs hz).2.2.2 o
def Up (U X : World) : Prop := ∃ z, X = plus U z
theorem Up.drew {U X : World} (h : Up U X) : Up U X.drew := by obtain ⟨z, rfl⟩ := h; exact ⟨⟨z.blocks, z.draws + 1⟩, rfl⟩
theorem Up.plus {U X : World} (h : Up U X) (x : Ext) : Up U (Go.Proofs.YtkffjjlmoojffaaGreatDoor.plus X x) := by obtain ⟨z, rfl⟩ := h; exact ⟨_, plus_plus _ _ _⟩
theorem Up.below {U X : World} (h : Up U X) : Below U.heap.size U X := by obtain ⟨z, rfl⟩ := h; exact below_plus _ _
theorem up_of {U X : World} (h : Below U.heap.size U X) : Up U X := plus_of_below h
theorem Up.alloc {U X : World} (h : Up U X) (o : Obj) : Up U (X.alloc o) := up_of (h.below.alloc h.below.size o)
theorem Up.set {U X : World} (h : Up U X) {n : Nat} (hn : U.heap.size ≤ n) (i : Nat) (v : Value) : Up U (X.setCell ⟨n, i, none⟩ v) := up_of (h.below.setCell (p := ⟨n, i, none⟩) hn v)
theorem Up.size {U X : World} (h : Up U X) : U.heap.size ≤ X.heap.size := h.below.size
def NetOk (w : World) (b : Nat) (sw po li : Value) (pvs : List Sl3) (n : Net') : Prop := ∀ W, w.grownBy W (some b) → Lies W 1 strC sw n.names ∧ PortsAt W po pvs n.ports ∧ Lies W 4 linkC li n.links
theorem NetOk.up {w w' : World} {b : Nat} {sw po li : Value} {pvs : List Sl3} {n : Net'} (h : NetOk w b sw po li pvs n) (hg : w.grownBy w' (some b)) : NetOk w' b sw po li pvs n := fun W hW => h W (grown_trans hg hW)
def dEndI (l : List Tok) (n : Net') (d : DS) : Int := findF n.names (dNow l d).s
def dEnd1 (l : List Tok) (n : Net') (d : DS) : DS := dWant l (dFail (decide (0 ≤ dEndI l n d)) (dNow l d) 7 (dName l d)) wColon
def dEndE (l : List Tok) (n : Net') (d : DS) : End' := ⟨dEndI l n d, dPortV l (dEnd1 l n d)⟩
def dEnd (l : List Tok) (n : Net') (d : DS) : DS :=
  dFail (!(nextV (thereD n.ports (dEndE l n d)) n.links (dEndE l n d)).2.2) (dNow l (dEnd1 l n d)) 8 (dFail (nextV (thereD n.ports (dEndE l n d)) n.links (dEndE l n d)).2.1 (dNow l (dEnd1 l n d)) 7 (dPort l (dEnd1 l n d)))
section
variable {w : World} {b g cap : Nat} {l : List Tok} {sw po li : Value} {d : DS}
end
end Go.Proofs.YtkffjjlmoojffaaGreatDoor
