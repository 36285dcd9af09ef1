/-
  WHAT IS PROVED HERE: a loop over an iterator whose round is asked of the NEXT item only.
-/
import Derived.Test.YtlmhldcebllckaaGreatRows
import Derived.Test.YtlmhldcebllckaaGreatZp
namespace Go.Proofs.YtlmhldcebllckaaGreat
open Go.RowKit Go.Shelf
theorem cell_of_no {W : World} {a : Addr} {o : Obj} (h : W.heap[a.block]? = some o) (ho : o.isCells = false) : W.cell? a = none := by
  unfold World.cell?
  rw [h]
  cases o <;> first | rfl | (exact absurd ho (by simp [Obj.isCells]))
theorem cell_putObj {W : World} {l : Nat} {o o' : Obj} (h : W.heap[l]? = some o) (ho : o.isCells = false) (ho' : o'.isCells = false) (a : Addr) : (W.putObj l o').cell? a = W.cell? a := by
  have hlt : l < W.heap.size := (Array.getElem?_eq_some_iff.1 h).1
  by_cases e : a.block = l
  · rw [cell_of_no (by rw [e]; exact World.putObj_heap_same hlt) ho', cell_of_no (by rw [e]; exact h) ho]
  · unfold World.cell?
    rw [World.putObj_heap_other e]
theorem Kq.putObj {S : Nat → Prop} {W : World} {l : Nat} {o : Obj} (o' : Obj) (h : W.heap[l]? = some o) (ho : o.isCells = false) (ho' : o'.isCells = false) (hs : S l) : Kq S W (W.putObj l o') := ⟨by simp, fun a v _ hv => (cell_putObj h ho ho' a).trans hv, fun B hb hB => (Below.refl B W).grown (grownBy_putObj' W l o') hb (fun k e => by cases e; exact hB l hs)⟩
theorem Kq.mono {S T : Nat → Prop} {W W' : World} (h : Kq S W W') (hs : ∀ b, S b → T b) : Kq T W W' := ⟨h.size, fun a v n => h.cell a v (fun q => n (hs _ q)), fun B hb hB => h.low B hb (fun b q => hB b (hs b q))⟩
theorem heap_plus {W : World} {k : Nat} {o : Obj} (h : W.heap[k]? = some o) (y : Ext) : (plus W y).heap[k]? = some o :=
  ((below_plus W y).block k (Array.getElem?_eq_some_iff.1 h).1).trans h
/-- How the body of a round may be left: it goes on; it returns. -/
def nextPost (B : Nat) (S : Nat → Prop) (I : Nat → World → Prop) (Ix : World → Prop) (k : Nat) (W : World) : Exit → Act → World → Prop
  | .normal, _, W' => KeepsFrom B W W' ∧ Kq S W W' ∧ I (k + 1) W'
  | .ret, _, W' => KeepsFrom B W W' ∧ Ix W'
  | _, _, _ => False
theorem wpIn_rangeFunc_next {P : Program} {g : Operand} {ps : Array Tmp} {assign body : Code} {Q : Exit → Act → World → Prop} {a : Act} {w : World}
    {gf : Nat} {lb : Array Value} (hg : a.eval g = .func (.func gf) #[] lb) (eg : ∀ args w, (callFunc gf args).run P w = .ok (.enter gf args) w)
    {α : Type} (xs : List α) (encs : α → Value) (S : Nat → Prop)
    (hseq : ∀ (l : Nat) (J Jx : Nat → World → Prop) (W : World), w.heap.size ≤ l → l < W.heap.size → Kq (fun b => b = l) w W → Lays J → Next P l encs xs (fun b => S b ∨ b = l) J Jx → J 0 W → CallsIn Fence.wide 0 P gf (#[.func (.yield l) #[] #[]] ++ lb) W fun e W' => (∃ v, e = .returned v) ∧ ((J xs.length W' ∧ Kq (fun b => S b ∨ b = l) W W') ∨ ∃ i, Jx i W'))
    (hps : ps.size = 1)
    (I : Nat → World → Prop) (Ix : World → Prop) (hI : ∀ k l W W', w.heap.size ≤ l → I k W → Kq (fun b => b = l) W W' → I k W') (hIx : ∀ l W W', w.heap.size ≤ l → Ix W → Kq (fun b => b = l) W W' → Ix W') (h0 : I 0 w)
    (hround : ∀ (l k : Nat) (x : α) (W : World), w.heap.size ≤ l → l < W.heap.size → xs[k]? = some x → I k W →
      assign.wpIn (Fence.wide.inRound l) 0 P (Exit.then (fun a' W' => KeepsFrom w.heap.size W W' ∧ Kq S W W' ∧ ∀ W2, Kq (fun b => b = l) W' W2 → W2.heap.size = W'.heap.size → body.wpIn (Fence.wide.inRound l) 0 P (nextPost w.heap.size S I Ix k W2) a' W2) (fun _ _ _ => False))
        { tmps := (ps.zip #[encs x]).foldl (fun t (p, v) => t.setIfInBounds p v) a.tmps, defers := [] } W)
    (hdone : ∀ (D : Nat) (W : World), w.heap.size ≤ D → I xs.length W → W.heap[D]? = some (.deferred (some [])) → Q .normal { a with defers := { target := .collected D, args := #[] } :: a.defers } W)
    (hstop : ∀ (D : Nat) (W : World), w.heap.size ≤ D → Ix W → W.heap[D]? = some (.deferred (some [])) → Code.ret.wpIn Fence.wide 0 P Q { a with defers := { target := .collected D, args := #[] } :: a.defers } W) :
    (Code.rangeFunc g ps assign body).wpIn Fence.wide 0 P Q a w := by
  refine wpIn_rangeFunc ?_
  intro fn hfn
  rw [show Fence.wide.round = none from rfl]
  obtain ⟨rec, hrec⟩ : ∃ rec : LoopState → Option Code → Loop, rec = fun st pe => { state := st, pending := pe, fn, tmps := a.tmps, params := ps, assign, body, defers := w.heap.size } := ⟨_, rfl⟩
  obtain ⟨W1, hW1⟩ : ∃ W1, (w.alloc (.deferred (some []))).alloc (.loop (rec .ready none)) = W1 := ⟨_, rfl⟩
  have hL1 : W1.heap[w.heap.size + 1]? = some (.loop (rec .ready none)) := by
    rw [← hW1]; have := World.alloc_heap_new (w.alloc (.deferred (some []))) (.loop (rec .ready none)); rwa [World.size_alloc] at this
  have hK1 : W1.heap[w.heap.size]? = some (.deferred (some [])) := by
    rw [← hW1]; exact (Below.heap_alloc _ _ _ (by simp)).trans (World.alloc_heap_new w _)
  have hq1 : ∀ T, Kq T w W1 := fun T => by rw [← hW1]; exact (Kq.alloc T w _).trans (Kq.alloc T _ _)
  have hI1 : I 0 W1 := hI 0 (w.heap.size + 1) w W1 (by omega) h0 (hq1 _)
  have hs1 : W1.heap.size = w.heap.size + 2 := by rw [← hW1]; simp
  refine ⟨w.heap.size + 1, [{ target := .collected w.heap.size, args := #[] }], W1, { target := .fn (.func gf) lb, args := #[.func (.yield (w.heap.size + 1)) #[] #[]] }, W1, gf,
    #[.func (.yield (w.heap.size + 1)) #[] #[]] ++ lb, W1, ?_, ?_, ?_, ?_, hdd 0, ?_⟩
  · rw [← hW1, hrec]; exact run_enterLoop_outer _ _ _ _ _
  · simp only [resolve, hg]
    simp [go_sem]
  · intro f' hf'; trivial
  · simp [invoke, go_sem, eg]
  · refine (hseq (w.heap.size + 1)
      (fun k W => I k W ∧ W.heap[w.heap.size + 1]? = some (.loop (rec .ready none)) ∧ W.heap[w.heap.size]? = some (.deferred (some [])))
      (fun _ W => Ix W ∧ W.heap[w.heap.size + 1]? = some (.loop (rec .done (some .ret))) ∧ W.heap[w.heap.size]? = some (.deferred (some [])))
      W1 (by omega) (by omega) (hq1 _) (fun k W y h => ⟨hI k (w.heap.size + 1) W _ (by omega) h.1 (Kq.plus _ W y), heap_plus h.2.1 y, heap_plus h.2.2 y⟩) ?_ ⟨hI1, hL1, hK1⟩).mono ?_
    · rintro k x W hx ⟨hi, hl, hk⟩
      have hlt : w.heap.size + 1 < W.heap.size := (Array.getElem?_eq_some_iff.1 hl).1
      have hy := run_yield (P := P) (args := #[encs x]) hl (by rw [hrec]; exact hps.symm)
      rw [hrec] at hy
      refine ⟨fn, _, assign, body, hy, roundIn_of_wpIn hfn (wpIn_mono (hround _ k x W (by omega) hlt hx hi) ?_)⟩
      clear hy
      rintro e a' Wa hp
      cases e with
      | normal =>
        obtain ⟨hkfa, hkpa, hbody⟩ := hp
        have hl' := hkfa.same _ _ (by omega) hl rfl
        have hk' := hkfa.same _ _ (Nat.le_refl _) hk rfl
        have hlt' : w.heap.size + 1 < Wa.heap.size := (Array.getElem?_eq_some_iff.1 hl').1
        refine ⟨_, run_beginRound hl' (by rw [hrec]), ?_⟩
        have hl2 : (Wa.putObj (w.heap.size + 1) (.loop { rec .ready none with state := .busy })).heap[w.heap.size + 1]? = some (.loop { rec .ready none with state := .busy }) := World.putObj_heap_same hlt'
        have hk2 : (Wa.putObj (w.heap.size + 1) (.loop { rec .ready none with state := .busy })).heap[w.heap.size]? = some (.deferred (some [])) := (World.putObj_heap_other (by omega)).trans hk'
        have hw2 : ∀ T : Nat → Prop, T (w.heap.size + 1) → Kq T Wa (Wa.putObj (w.heap.size + 1) (.loop { rec .ready none with state := .busy })) := fun T ht => Kq.putObj _ hl' rfl rfl ht
        refine wpIn_mono (hbody _ (hw2 _ rfl) (by simp)) ?_
        have fin : ∀ (jump : Option Code) (W3 : World), KeepsFrom w.heap.size (Wa.putObj (w.heap.size + 1) (.loop { rec .ready none with state := .busy })) W3 →
            (Instr.endRound (w.heap.size + 1) jump).run P W3 = .ok (.bool jump.isNone) (W3.putObj (w.heap.size + 1) (.loop (rec (if jump.isNone then .ready else .done) jump))) ∧
            W3.heap[w.heap.size + 1]? = some (.loop { rec .ready none with state := .busy }) ∧
            (W3.putObj (w.heap.size + 1) (.loop (rec (if jump.isNone then .ready else .done) jump))).heap[w.heap.size + 1]? = some (.loop (rec (if jump.isNone then .ready else .done) jump)) ∧
            (W3.putObj (w.heap.size + 1) (.loop (rec (if jump.isNone then .ready else .done) jump))).heap[w.heap.size]? = some (.deferred (some [])) := fun jump W3 hk3 => by
          have hl3 := hk3.same _ _ (by omega) hl2 rfl
          have := run_endRound (P := P) jump hl3
          rw [hrec] at this ⊢
          exact ⟨this, by rw [hrec] at hl3; exact hl3, World.putObj_heap_same (Array.getElem?_eq_some_iff.1 hl3).1, (World.putObj_heap_other (by omega)).trans (hk3.same _ _ (Nat.le_refl _) hk2 rfl)⟩
        rintro e a3 W3 hp
        cases e with
        | normal =>
          obtain ⟨hk3, hkp3, hi3⟩ := hp
          obtain ⟨hr, hl3, hl4, hk4⟩ := fin none W3 hk3
          exact ⟨_, _, hr, .inl ⟨rfl, ⟨hI _ (w.heap.size + 1) _ _ (by omega) hi3 (Kq.putObj _ hl3 rfl rfl rfl), hl4, hk4⟩, ((hkpa.mono fun _ h => .inl h).trans ((hw2 _ (.inr rfl)).trans (hkp3.mono fun _ h => .inl h))).trans (Kq.putObj _ hl3 rfl rfl (.inr rfl))⟩⟩
        | ret =>
          obtain ⟨hk3, hi3⟩ := hp
          obtain ⟨hr, hl3, hl4, hk4⟩ := fin (some .ret) W3 hk3
          exact ⟨_, _, hr, .inr ⟨rfl, k, hIx (w.heap.size + 1) _ _ (by omega) hi3 (Kq.putObj _ hl3 rfl rfl rfl), hl4, hk4⟩⟩
        | exit id => exact hp.elim
        | goto t => exact hp.elim
        | panic ch => exact hp.elim
        | outgrown => exact hp.elim
      | ret => exact hp.elim
      | exit id => exact hp.elim
      | goto t => exact hp.elim
      | panic ch => exact hp.elim
      | outgrown => exact hp.elim
    · rintro e W2 ⟨⟨v, rfl⟩, (⟨⟨hi, hl, hk⟩, _⟩ | ⟨_, hi, hl, hk⟩)⟩
      · exact ⟨none, _, by have := run_endLoop (P := P) hl (by rw [hrec]; simp); rw [hrec] at this; exact this, hdone _ _ (Nat.le_refl _) (hI _ (w.heap.size + 1) _ _ (by omega) hi (Kq.putObj _ hl rfl rfl rfl)) ((World.putObj_heap_other (by omega)).trans hk)⟩
      · exact ⟨some .ret, _, by have := run_endLoop (P := P) hl (by rw [hrec]; simp); rw [hrec] at this; exact this, hstop _ _ (Nat.le_refl _) (hIx (w.heap.size + 1) _ _ (by omega) hi (Kq.putObj _ hl rfl rfl rfl)) ((World.putObj_heap_other (by omega)).trans hk)⟩
end Go.Proofs.YtlmhldcebllckaaGreat
