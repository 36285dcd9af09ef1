/-
  WHAT IS PROVED HERE: the page's examples of layer 3 (known) are as the page says, in worlds in which the program's table of marks and strconv's errors stand.
-/
import Derived.Test.YtiodfenkbhlpdaaDoorRows
import Derived.Test.YtiodfenkbhlpdaaDoorUk
import Derived.Test.YtiodfenkbhlpdaaDoorUl
import Derived.Test.YtiodfenkbhlpdaaDoorLexC
import Derived.WalkKit
import Derived.WalkSpells
import Derived.WalkLawsBesides
namespace Go.Proofs.YtiodfenkbhlpdaaDoor
open Go.RowKit
/-- Called with these in whatever world in which the program's table of marks and strconv's errors stand: this is handed back, and the world has blocks and draws of the call's own, nothing else. -/
def PureS (f : FuncId) (args : Array Value) (v : Value) : Prop := ∀ w, Std w → Calls Tryd.prog f args w fun e w' => e = .returned v ∧ ∃ x, w' = plus w x
theorem PureS.at {f : FuncId} {args : Array Value} {v : Value} (h : PureS f args v) (w : World) (hS : Std w) (x : Ext) :
    Calls Tryd.prog f args (plus w x) fun e w' => e = .returned v ∧ ∃ y, w' = plus w y :=
  (h _ (hS.plus x)).mono fun _ _ ⟨he, y, hy⟩ => ⟨he, ⟨x.blocks ++ y.blocks, y.draws⟩, by rw [hy, plus_plus]⟩
theorem own_form {W : World} {base : Nat} {e : TypeId} {size : Nat} {v : Value} {n : Nat} {xs : List Value} (h : W.ownsRow base e size v n xs) (hn : 0 < n) : ∃ g cap, v = .slice (some ⟨g, 0, none⟩) n cap ∧ base ≤ g ∧ g < W.heap.size := by
  rcases h.2 with ⟨rfl, h0⟩ | ⟨g, cap, cur, rfl, hg, hh, _⟩
  · omega
  · exact ⟨g, cap, rfl, hg, (Array.getElem?_eq_some_iff.1 hh).1⟩
set_option maxHeartbeats 4000000 in
theorem known3 : PureS 4 #[] (.bool true) := by
  intro w hS
  have hS' := Lib.hid hS
  have ha := tok_lex exA (by decide +kernel) w hS
  have hb := fun w hS => tok_lex exB (by decide +kernel) w hS
  unfold LexEnds at ha hb
  clear hS
  rw [fault0 exA (lexR exA) (by rw [lex_a]), lex_a] at ha
  have hfb : faultOf exB (lexR exB) = fv 5 1 7 := by
    rw [fault1 exB (lexR exB) (by rw [lex_b]; decide), lex_b]
    simp only
    rw [show lineOf exB 6 = 1 from by decide +kernel, show colOf exB 6 = 7 from by decide +kernel]
    rfl
  simp only [hfb] at hb
  have ha' := Lib.hid ha
  have hb' := Lib.hid hb
  clear ha hb hfb
  go_enter Tryd.func4, Tryd.ntmps4
  go_wp2_with fail
  refine ha'.out.mono ?_
  rintro e W1 ⟨v1, rfl, hown, hB1⟩
  obtain ⟨g, cap, rfl, hg, hgl⟩ := own_form hown (by decide)
  have hc := fun j u (h : (([⟨1, ⟨#[120, 49]⟩, 0, 0, 0⟩, ⟨3, ⟨#[61]⟩, 0, 0, 2⟩, ⟨2, ⟨#[48, 120, 49, 70]⟩, 0, 31, 3⟩, ⟨3, ⟨#[59]⟩, 0, 0, 7⟩, ⟨0, ByteArray.empty, 0, 0, 8⟩] : List Tok).flatMap tokL)[j]? = some u) (hj : j < 30) => (hown.cellAt j hj).trans h
  have k1 : W1.cell? ⟨g, 1, none⟩ = some (.string ⟨#[120, 49]⟩) := hc 1 _ rfl (by decide)
  have k15 : W1.cell? ⟨g, 15, none⟩ = some (.int .u64 0) := (hc 15 _ rfl (by decide)).trans (by unfold hi; simp)
  have k16 : W1.cell? ⟨g, 16, none⟩ = some (.int .u64 31) := (hc 16 _ rfl (by decide)).trans (by unfold lo; simp)
  have k24 : W1.cell? ⟨g, 24, none⟩ = some (.int .u8 0) := hc 24 _ rfl (by decide)
  clear hc hown ha'
  go_wp2_with fail
  refine (hb'.out _ (hS'.out.below (hB1.alloc hB1.size _))).mono ?_
  rintro e W3 ⟨v3, rfl, _, hB3⟩
  have hs3 := hB3.size
  have hlt : g < W3.heap.size := by have : W1.heap.size < (W1.alloc (.cells #[.int .i64 0, .int .i64 0, .int .i64 0] 28)).heap.size := by simp
                                    omega
  have hf : W1.heap.size < W3.heap.size := by have : W1.heap.size < (W1.alloc (.cells #[.int .i64 0, .int .i64 0, .int .i64 0] 28)).heap.size := by simp
                                              omega
  have old : ∀ (i : Nat) (u : Value), W1.cell? ⟨g, i, none⟩ = some u → ∀ x, (W3.alloc x).cell? ⟨g, i, none⟩ = some u := fun i u h x =>
    (cell_old W3 x g i hlt).trans ((hB3.cell (p := ⟨g, i, none⟩) (by show g < _; simp; omega)).trans ((cell_old W1 _ g i hgl).trans h))
  have new : ∀ i, i < 3 → ∀ x, (W3.alloc x).cell? ⟨W1.heap.size, i, none⟩ = some (.int .i64 0) := fun i hi x =>
    (cell_old W3 x _ i hf).trans ((hB3.cell (p := ⟨W1.heap.size, i, none⟩) (by show W1.heap.size < _; simp)).trans ((cell_new W1 _ _ _ i rfl).trans (by
      rcases i with _ | _ | _ | i
      · rfl
      · rfl
      · rfl
      · omega)))
  have m1 := old 1 _ k1
  have m15 := old 15 _ k15
  have m16 := old 16 _ k16
  have m24 := old 24 _ k24
  have z0 := new 0 (by decide)
  have z1 := new 1 (by decide)
  have z2 := new 2 (by decide)
  have hB := Lib.hid ((hB1.trans ((Below.refl _ W1).alloc (Nat.le_refl _) (.cells #[.int .i64 0, .int .i64 0, .int .i64 0] 28) |>.mono hB1.size)).trans (hB3.mono (by have := hB1.size; simp; omega)))
  have hw := hB1.size
  clear old new k1 k15 k16 k24 hB1 hB3 hb'
  go_wp2
  go_ret
  exact ⟨rfl, plus_of_below (hB.out.alloc hB.out.size _)⟩
end Go.Proofs.YtiodfenkbhlpdaaDoor
