/-
  WHAT IS PROVED HERE: what may be, of states, actions, tables, statements, in plain words; and what the landed ast's methods state, action, table, block hand back, of any that lie in memory and are not too great. · what allForms of the landed ast hands back: three maps in blocks of their own. · what May of the landed ast hands back, of any program that lies in memory and is not too great. Written by gen/hc.py.
-/
import Derived.Test.YtplkiadkkefppaaRows
import Derived.Test.YtplkiadkkefppaaHj
import Derived.Test.YtplkiadkkefppaaHk
import Derived.WalkKit
import Derived.Lib.Hide
import Derived.WalkSpells
import Derived.WalkLawsBesides
import Derived.Laws.EntriesVeiled
import Derived.Shelf.Abstract
namespace Go.Proofs.Ytplkiadkkefppaa
open Go.RowKit
structure FormsIn (w : World) (m1 m2 m3 : Nat) : Prop where
  x : MapAt w m1 (esX 26)
  s : MapAt w m2 (esS 3)
  t : MapAt w m3 (esT 7)
theorem FormsIn.plus {w : World} {m1 m2 m3 : Nat} (h : FormsIn w m1 m2 m3) (y : Ext) : FormsIn (plus w y) m1 m2 m3 := ⟨h.x.plus y, h.s.plus y, h.t.plus y⟩
abbrev fmV (m1 m2 m3 : Nat) : Value := .agg #[.map (some m1), .map (some m2), .map (some m3)]
def seB (s : Se) : Bool := sIs s.kind && (litB (sV s.kind) s.v && litB (sM s.kind) s.m)
def caK (n : Int) (c : Ca) : Int := if c.dflt then 0 else n
def caB (n : Int) (c : Ca) : Bool := tgtB c.to && eachB (caK n c) (caK n c) seB c.sets.l
def saT (s : Sa) : Bool := if s.to.toList == [] then (eachB 1 4 (Ex.may 16) s.keys.l && eachB 1 16 (caB (s.keys.l.length : Int)) s.cases.l) else (tgtB s.to && (((s.keys.l.length : Int) == 0) && ((s.cases.l.length : Int) == 0)))
def saB (s : Sa) : Bool := nameB s.name && (eachB 0 8 nameB s.takes.l && saT s)
def keB (k : Ke) : Bool := decide (1 ≤ k.kind) && (decide (k.kind ≤ 3) && Ex.may 16 k.e)
def taB (t : Ta) : Bool := nameB t.name && (eachB 1 4 keB t.keys.l && (eachB 1 16 nameB t.actions.l && (nameB t.dflt.name && eachB 0 8 ltB t.dflt.args.l)))
def zeroEx : Ex := .mk 0 ⟨0, 0, 0⟩ ⟨#[]⟩ ⟨#[]⟩ 0 0 none 0 []
def St.fits (s : St) : Bool := nmB s.head (tHead s.kind) && (nmB s.name (tName s.kind) && (tBlocks s.kind || (((s.thn.length : Int) == 0) && ((s.els.length : Int) == 0))))
def St.one (s : St) : Bool := tIs s.kind && (s.fits && (if tExpr s.kind then Ex.may 16 s.e else s.e.same zeroEx))
def St.mayB : Nat → List St → Bool
  | 0, l => ((l.length : Int) == 0)
  | n + 1, l => eachB 0 32 (fun s => s.one && (St.mayB n s.thn && St.mayB n s.els)) l
def acB (a : Ac) : Bool := nameB a.name && (eachB 0 8 fdB a.params.l && St.mayB 8 a.body.l)
theorem zeroEx_in (w : World) : zeroEx.In w := by
  refine .mk _ (by decide) ⟨by decide, by decide, by decide⟩ (by decide) (by decide) (Nat.zero_le _) (Nat.zero_le _) (Nat.zero_le _) (Nat.zero_le _) (fun i x h => by simp [zeroEx, Ex.args] at h) (fun x h => by simp [zeroEx, Ex.args] at h)
end Go.Proofs.Ytplkiadkkefppaa
namespace Go.Proofs.Ytplkiadkkefppaa
open Go.RowKit
theorem MapAt.set {w : World} {r : Nat} {es : Array MapEntry} (h : MapAt w r es) (b o : Nat) (v : Value) (hr : r ≠ b) : MapAt (w.setCell ⟨b, o, none⟩ v) r es := by
  obtain ⟨n, h⟩ := h
  exact ⟨n, by rw [Below.heap_setCell w ⟨b, o, none⟩ v r hr]; exact h⟩
theorem map_after {W w1 w' : World} {es : Array MapEntry} {n : Nat} (h : ∃ y, w1 = plus W y) (hw : w' = w1.alloc (.map es n)) : ∃ x, w' = plus W x ∧ MapAt w' w1.heap.size es ∧ W.heap.size ≤ w1.heap.size ∧ ∀ r es', MapAt w1 r es' → MapAt w' r es' := by
  obtain ⟨y, rfl⟩ := h
  subst hw
  obtain ⟨x, hx⟩ := plus_alloc1 W y (.map es n)
  exact ⟨_, hx, ⟨n, by show ((plus W y).heap.push _)[(plus W y).heap.size]? = _; simp⟩, size_plus W y, fun r es' h => h.alloc _⟩
end Go.Proofs.Ytplkiadkkefppaa
namespace Go.Proofs.Ytplkiadkkefppaa
open Go.RowKit
def prB (p : Pr) : Bool := eachB 0 8 hrB p.headers.l && (eachB 0 16 fdB p.metas.l && (eachB 1 16 saB p.states.l && (eachB 0 16 acB p.actions.l && (eachB 0 8 taB p.tables.l && (St.mayB 8 p.control.l && eachB 0 8 nameB p.emit.l)))))
end Go.Proofs.Ytplkiadkkefppaa
