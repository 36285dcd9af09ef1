/-
  WHAT IS PROVED HERE: words for calls that keep what there was; small facts. Written by gen/eqf.py. · words for the walks of straight rows of conditions. Written by gen/astsame.py.
-/
import Derived.Test.YtplkiadkkefppaaRows
import Derived.Test.YtplkiadkkefppaaSE
import Derived.Test.YtplkiadkkefppaaSH
import Derived.WalkKit
import Derived.Lib.Hide
import Derived.WalkSpells
import Derived.WalkLawsBesides
import Derived.Laws.EntriesVeiled
namespace Go.Proofs.Ytplkiadkkefppaa
open Go.RowKit
/-- Called with these in whatever world that has more than this one: this is handed back, and the world has blocks and draws of the call's own beside what there was. -/
abbrev Kp (P : Program) (w : World) (f : FuncId) (args : Array Value) (v : Value) : Prop := ∀ y, Calls P f args (plus w y) fun e w' => e = .returned v ∧ ∃ x, w' = plus (plus w y) x
section
variable {P : Program} {w : World} {f : FuncId} {args : Array Value} {v : Value}
theorem Kp.up (h : Kp P w f args v) (z : Ext) : Kp P (plus w z) f args v := fun y => by
  rw [plus_plus]; exact h _
theorem Kp.pure (h : Kp P w f args v) : PureIn P w f args v := fun y => (h y).mono fun _ _ ⟨he, x, hx⟩ => ⟨he, by rw [hx, plus_plus]; exact ⟨_, rfl⟩⟩
theorem Kp.of (h : ∀ w', (∃ y, w' = plus w y) → Calls P f args w' fun e w'' => e = .returned v ∧ ∃ x, w'' = plus w' x) : Kp P w f args v := fun y => h _ ⟨y, rfl⟩
theorem Kp.ofPure (h : ∀ y, PureIn P (plus w y) f args v) : Kp P w f args v := fun y => by
  have := h y ⟨#[], (plus w y).drawn⟩
  rwa [plus_self] at this
theorem Kp.eqv {v' : Value} (h : Kp P w f args v) (e : v = v') : Kp P w f args v' := e ▸ h
end
theorem pure_call2 {P : Program} {W : World} {f : FuncId} {args : Array Value} {v : Value} (h : PureIn P W f args v) {y : Ext} {a b : Obj} {Q : Ending → World → Prop} (hQ : ∀ e w', (e = .returned v ∧ ∃ x, w' = plus W x) → Q e w') :
    Calls P f args (((plus W y).alloc a).alloc b) Q := by
  obtain ⟨z, hz⟩ := plus_alloc2 W y a b
  rw [hz]
  exact (h z).mono hQ
theorem plus_alloc1 (w : World) (y : Ext) (a : Obj) : ∃ x, (plus w y).alloc a = plus w x := by
  obtain ⟨z, hz⟩ := plus_of_below ((Below.refl (plus w y).heap.size (plus w y)).alloc (Nat.le_refl _) a)
  rw [hz, plus_plus]
  exact ⟨_, rfl⟩
theorem pure_call1 {P : Program} {W : World} {f : FuncId} {args : Array Value} {v : Value} (h : PureIn P W f args v) {y : Ext} {a : Obj} {Q : Ending → World → Prop} (hQ : ∀ e w', (e = .returned v ∧ ∃ x, w' = plus W x) → Q e w') :
    Calls P f args ((plus W y).alloc a) Q := by
  obtain ⟨z, hz⟩ := plus_alloc1 W y a
  rw [hz]
  exact (h z).mono hQ
theorem cell_alloc {w : World} {a : Addr} {v : Value} (h : w.cell? a = some v) (x : Obj) : (w.alloc x).cell? a = some v := by
  obtain ⟨z, hz⟩ := plus_alloc1 w ⟨#[], w.drawn⟩ x
  rw [plus_self] at hz
  rw [hz]
  exact cell_keep h z
def shp_string (l : List Value) : Prop := ∃ (c0 : ByteArray), l = [.string c0]
def shp_Field (l : List Value) : Prop := ∃ (c0 : ByteArray) (c1 : Int), l = [.string c0, .int .i64 c1]
def shp_Header (l : List Value) : Prop := ∃ (c0 : ByteArray) (c1p : Option Addr) (c1n : Nat) (c1c : Nat), l = [.string c0, .slice c1p c1n c1c]
def shp_Lit (l : List Value) : Prop := ∃ (c0 : Int) (c1 : Int) (c2 : Int), l = [.int .i64 c0, .int .u64 c1, .int .u64 c2]
def shp_Expr (l : List Value) : Prop := ∃ (c0 : Int) (c1 : Int) (c2 : Int) (c3 : Int) (c4 : ByteArray) (c5 : ByteArray) (c6 : Int) (c7 : Int) (c8p : Option Addr) (c8n : Nat) (c8c : Nat), l = [.int .u8 c0, .int .i64 c1, .int .u64 c2, .int .u64 c3, .string c4, .string c5, .int .i64 c6, .int .i64 c7, .slice c8p c8n c8c]
def shp_Set (l : List Value) : Prop := ∃ (c0 : Int) (c1 : Int) (c2 : Int) (c3 : Int) (c4 : Int) (c5 : Int) (c6 : Int), l = [.int .u8 c0, .int .i64 c1, .int .u64 c2, .int .u64 c3, .int .i64 c4, .int .u64 c5, .int .u64 c6]
def shp_Case (l : List Value) : Prop := ∃ (c0 : Bool) (c1p : Option Addr) (c1n : Nat) (c1c : Nat) (c2 : ByteArray), l = [.bool c0, .slice c1p c1n c1c, .string c2]
def shp_State (l : List Value) : Prop := ∃ (c0 : ByteArray) (c1p : Option Addr) (c1n : Nat) (c1c : Nat) (c2 : ByteArray) (c3p : Option Addr) (c3n : Nat) (c3c : Nat) (c4p : Option Addr) (c4n : Nat) (c4c : Nat), l = [.string c0, .slice c1p c1n c1c, .string c2, .slice c3p c3n c3c, .slice c4p c4n c4c]
def shp_Stmt (l : List Value) : Prop := ∃ (c0 : Int) (c1 : ByteArray) (c2 : ByteArray) (c3 : Int) (c4 : Int) (c5 : Int) (c6 : Int) (c7 : ByteArray) (c8 : ByteArray) (c9 : Int) (c10 : Int) (c11p : Option Addr) (c11n : Nat) (c11c : Nat) (c12p : Option Addr) (c12n : Nat) (c12c : Nat) (c13p : Option Addr) (c13n : Nat) (c13c : Nat), l = [.int .u8 c0, .string c1, .string c2, .int .u8 c3, .int .i64 c4, .int .u64 c5, .int .u64 c6, .string c7, .string c8, .int .i64 c9, .int .i64 c10, .slice c11p c11n c11c, .slice c12p c12n c12c, .slice c13p c13n c13c]
def shp_Action (l : List Value) : Prop := ∃ (c0 : ByteArray) (c1p : Option Addr) (c1n : Nat) (c1c : Nat) (c2p : Option Addr) (c2n : Nat) (c2c : Nat), l = [.string c0, .slice c1p c1n c1c, .slice c2p c2n c2c]
def shp_Key (l : List Value) : Prop := ∃ (c0 : Int) (c1 : Int) (c2 : Int) (c3 : Int) (c4 : ByteArray) (c5 : ByteArray) (c6 : Int) (c7 : Int) (c8p : Option Addr) (c8n : Nat) (c8c : Nat) (c9 : Int), l = [.int .u8 c0, .int .i64 c1, .int .u64 c2, .int .u64 c3, .string c4, .string c5, .int .i64 c6, .int .i64 c7, .slice c8p c8n c8c, .int .u8 c9]
def shp_Table (l : List Value) : Prop := ∃ (c0 : ByteArray) (c1p : Option Addr) (c1n : Nat) (c1c : Nat) (c2p : Option Addr) (c2n : Nat) (c2c : Nat) (c3 : ByteArray) (c4p : Option Addr) (c4n : Nat) (c4c : Nat), l = [.string c0, .slice c1p c1n c1c, .slice c2p c2n c2c, .string c3, .slice c4p c4n c4c]
/-- So many, and each may be. -/
def eachB {α : Type} (lo hi : Int) (may : α → Bool) (l : List α) : Bool := decide (lo ≤ (l.length : Int)) && decide ((l.length : Int) ≤ hi) && l.all may
theorem all_drop {α : Type} (f : α → Bool) (l : List α) (k : Nat) (x : α) (hx : l[k]? = some x) : (l.drop k).all f = (f x && (l.drop (k + 1)).all f) := by
  obtain ⟨h1, rfl⟩ := List.getElem?_eq_some_iff.1 hx
  rw [List.drop_eq_getElem_cons h1, List.all_cons]
end Go.Proofs.Ytplkiadkkefppaa
namespace Go.Proofs.Ytplkiadkkefppaa
open Go.RowKit
theorem alloc0_plus (V : World) : ∃ x, V = plus V x := ⟨_, (plus_self V).symm⟩
theorem alloc1_plus (V : World) (a : Obj) : ∃ x, V.alloc a = plus V x := plus_of_below ((Below.refl _ V).alloc (Nat.le_refl _) a)
theorem alloc2_plus (V : World) (a b : Obj) : ∃ x, (V.alloc a).alloc b = plus V x := plus_of_below (((Below.refl _ V).alloc (Nat.le_refl _) a).alloc (by simp) b)
theorem calls_self {P : Program} {V : World} {f : FuncId} {args : Array Value} {v : Value} (h : Kp P V f args v) : Calls P f args V fun e w' => e = .returned v ∧ ∃ x, w' = plus V x := by
  have := h ⟨#[], V.drawn⟩
  rwa [plus_self] at this
theorem kp_at {P : Program} {V W : World} {z : Ext} {f : FuncId} {args : Array Value} {v : Value} (hz : W = plus V z) (h : Kp P V f args v) : PureIn P W f args v := by
  rw [hz]; exact (h.up z).pure
theorem box1n (V : World) (c : Array Value) (t : TypeId) : ∃ W y, V.alloc (.cells c t) = plus W y ∧ (∃ z, W = plus V z) ∧ (∀ o v, c[o]? = v → ∀ y, (plus W y).cell? ⟨V.heap.size, o, none⟩ = v) := by
  obtain ⟨W, hW, hB, hs, ca, fa⟩ := box1 V c t
  exact ⟨W, ⟨#[], W.drawn⟩, by rw [plus_self, hW], plus_of_below hB, ca⟩
theorem box2n (V : World) (c d : Array Value) (t u : TypeId) : ∃ W y, (V.alloc (.cells c t)).alloc (.cells d u) = plus W y ∧ (∃ z, W = plus V z) ∧ (∀ o v, c[o]? = v → ∀ y, (plus W y).cell? ⟨V.heap.size, o, none⟩ = v) ∧ (∀ o v, d[o]? = v → ∀ y, (plus W y).cell? ⟨V.heap.size + 1, o, none⟩ = v) := by
  obtain ⟨W, hW, hB, hs, ca, cb, fa, fb⟩ := box2 V c d t u
  exact ⟨W, ⟨#[], W.drawn⟩, by rw [plus_self, hW], plus_of_below hB, ca, cb⟩
theorem cell_at {V W : World} {z : Ext} {a : Addr} {v : Value} (hz : W = plus V z) (h : V.cell? a = some v) : W.cell? a = some v := by rw [hz]; exact cell_keep h z
end Go.Proofs.Ytplkiadkkefppaa
