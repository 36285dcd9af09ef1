/-
  WHAT IS PROVED HERE: appending the strings of a slice that lies in memory (nil or not) to a row of the call's own: at the operation.
-/
import Derived.Test.YtpnaibfefpeikaaRows
import Derived.Test.YtpnaibfefpeikaaIa
import Derived.WalkKit
import Derived.Laws.AppendOwn
import Derived.OwnWalk
import Derived.Deep.Upon
import Derived.Deep.AppendLies
namespace Go.Proofs.Ytpnaibfefpeikaa
open Go.RowKit
theorem str_info : (Try.prog.info? 9).map (fun i => (i.zero, i.size, i.bytes)) = some (some (.string ⟨#[]⟩), 1, 16) := by kernel_rfl
theorem row_news {w : World} {ad : Addr} {l : List ByteArray} (h : RowAt w 1 strCells (some ad) l) : ∀ j u, (l.map Value.string)[j]? = some u → w.cell? (ad.add j) = some u := by
  intro j u hj
  rw [List.getElem?_map] at hj
  obtain ⟨s, hs, rfl⟩ := Option.map_eq_some_iff.1 hj
  obtain ⟨a, ha, hc⟩ := h j s hs
  obtain rfl := Option.some.inj ha
  have := hc.c0 _ rfl
  rwa [Nat.mul_one] at this
theorem wpList_append_str {w : World} {ops : Array Oper} {rest : List Oper} {o : Oper} {a : Act} {Q : Exit → Act → World → Prop} (hgd : o.guard = none) (s x : Operand)
    (ho : o.op = .call { callee := .builtin .append, args := #[s, x], argTypes := #[28, 28] })
    (base g n cap : Nat) (xs : List Value) (hs : a.eval s = .slice (some ⟨g, 0, none⟩) n cap) (hown : w.ownsRow base 9 1 (.slice (some ⟨g, 0, none⟩) n cap) n xs)
    (p : Option Addr) (m c : Nat) (l : List ByteArray) (hx : a.eval x = .slice p m c) (hrow : RowAt w 1 strCells p l) (hl : l.length = m) (hm : n + m ≤ 2097152) (hbase : base ≤ w.heap.size)
    (h : ∀ v' w', w'.ownsRow base 9 1 v' (n + m) (xs ++ l.map Value.string) → w.grownBy w' (some g) → wpList Try.prog ops Q rest (a.put o.dst v') w') : wpList Try.prog ops Q (o :: rest) a w := by
  obtain ⟨i0, hi, hz1, hz2, hz3⟩ := info_parts str_info
  refine wpList_plain hgd fun K hK => ?_
  cases p with
  | some ad =>
    exact wp_append_own w s x 28 ho base 9 i0 _ 1 16 Try.underlying28 hi hz1 hz2 hz3 rfl (by decide) _ n xs hs hown ad m c (l.map Value.string) hx (by simp [hl]) (row_news hrow) (by simp [Value.oneCell']) (by unfold maxLen; omega) (by omega) hbase
      fun v' w' h2 h3 _ => hK _ _ (h v' w' h2 h3)
  | none =>
    have hl0 : l = [] := by
      cases l with
      | nil => rfl
      | cons y l =>
        obtain ⟨a, ha, _⟩ := hrow 0 y rfl
        cases ha
    subst hl0
    have hm0 : m = 0 := by rw [← hl]; rfl
    subst hm0
    have hncap : n ≤ cap := by
      obtain ⟨_, h1 | ⟨g', cap', cur, e1, _, _, h2, _⟩⟩ := hown
      · cases h1.1
      · cases e1; exact h2
    have hr := run_append_nothing w 28 28 o.type 9 i0 Try.underlying28 hi (some ⟨g, 0, none⟩) n cap hncap (.slice none 0 c) ⟨.inl ⟨_, Try.underlying28⟩, fun _ => rfl, by simp [Builtin.firstCells], by simp [Builtin.firstCells], by simp, by simp⟩
    unfold Oper.wp execOp
    simp only [ho, resolve, invoke, builtin, Sem.run_bind, Sem.run_pure, Result.andThen_ok, List.map_toArray, List.map_cons, List.map_nil, hs, hx, hr]
    exact hK _ _ (h _ _ (by simpa using hown) ⟨rfl, rfl, rfl, Nat.le_refl _, fun _ _ _ => rfl⟩)
theorem own_empty (U : World) : (U.alloc (.cells #[] 9)).ownsRow U.heap.size 9 1 (.slice (some ⟨U.heap.size, 0, none⟩) 0 0) 0 [] := by
  refine ⟨rfl, .inr ⟨U.heap.size, 0, #[], rfl, Nat.le_refl _, ?_, Nat.le_refl _, Nat.zero_le _, rfl, rfl⟩⟩
  show (U.heap.push _)[U.heap.size]? = _
  simp
theorem own_slice {w : World} {base n : Nat} {v : Value} {xs : List Value} (h : w.ownsRow base 9 1 v n xs) (hv : ∃ g cap, v = .slice (some ⟨g, 0, none⟩) n cap) : ∃ g cap, v = .slice (some ⟨g, 0, none⟩) n cap ∧ base ≤ g ∧ g < w.heap.size ∧ n ≤ cap ∧ cap ≤ maxLen := by
  obtain ⟨g, cap, rfl⟩ := hv
  obtain ⟨_, h1 | ⟨g', cap', cur, e1, h2, h3, h4, h5, _⟩⟩ := h
  · cases h1.1
  · cases e1
    exact ⟨g, cap, rfl, h2, (Array.getElem?_eq_some_iff.1 h3).1, h4, h5⟩
theorem own_row {w : World} {base n g cap : Nat} {l : List ByteArray} (h : w.ownsRow base 9 1 (.slice (some ⟨g, 0, none⟩) n cap) n (l.map Value.string)) : RowAt w 1 strCells (some ⟨g, 0, none⟩) l := by
  intro i x hi
  refine ⟨_, rfl, fun j v hj => ?_⟩
  cases j with
  | succ j => simp [strCells] at hj
  | zero =>
    simp only [strCells, List.getElem?_cons_zero, Option.some.injEq] at hj
    subst hj
    have := h.cells (g := g) rfl i (.string x) (by rw [List.getElem?_map, hi]; rfl)
    simpa [Addr.add, Nat.mul_one] using this
theorem grown_own {G w1 U : World} {v : Value} {n : Nat} {xs : List Value} {e : TypeId} (h : G.grownBy w1 v.ownBlock) (ho : G.ownsRow U.heap.size e 1 v n xs) (hU : Below U.heap.size U G) : Below U.heap.size U w1 :=
  hU.trans ⟨h.os, h.tape, h.output, h.size, fun k hk => h.block k (Nat.lt_of_lt_of_le hk hU.size) (by
    obtain ⟨_, h1 | ⟨g, cap, cur, rfl, h2, _⟩⟩ := ho
    · obtain ⟨rfl, _⟩ := h1
      intro e; cases e
    · intro e
      simp only [Value.ownBlock, Option.some.injEq] at e
      omega)⟩
theorem grown_below {G w1 : World} {g : Nat} (h : G.grownBy w1 (some g)) (U : World) (hU : Below U.heap.size U G) (hg : U.heap.size ≤ g) : Below U.heap.size U w1 :=
  hU.trans ⟨h.os, h.tape, h.output, h.size, fun k hk => h.block k (Nat.lt_of_lt_of_le hk hU.size) (by intro e; cases e; omega)⟩
theorem own_zero {w : World} {base n : Nat} {e : TypeId} {v : Value} {xs : List Value} (h : w.ownsRow base e 1 v (0 + n) ([] ++ xs)) : w.ownsRow base e 1 v n xs := by simpa using h
theorem news_one (w : World) (x : ByteArray) (t : TypeId) : ∀ j u, ([Value.string x] : List Value)[j]? = some u → (w.alloc (.cells #[.string x] t)).cell? ((⟨w.heap.size, 0, none⟩ : Addr).add j) = some u :=
  World.news_of_block (cs := #[.string x]) (t := t) (fr := (0, 0)) (by show (w.heap.push _)[w.heap.size]? = _; simp)
theorem one_one (x : ByteArray) : ∀ u ∈ ([Value.string x] : List Value), u.oneCell' = true := by simp [Value.oneCell']
theorem bnd1 {n : Nat} (h : n ≤ 1048576) : n + 1 ≤ maxLen := by unfold maxLen; omega
theorem bnd2 {n : Nat} (h : n ≤ 1048576) : (n + 1) * 16 ≤ 140737488355328 := by omega
theorem base_le {U w1 : World} {b : Nat} {o o2 : Obj} {r : Option Nat} (hU : U.heap.size = b + 1) (h : (U.alloc o).grownBy w1 r) : b + 1 ≤ (w1.alloc o2).heap.size := by
  have := h.size
  simp at this ⊢
  omega
theorem grown_two {U w1 w2 : World} {b n : Nat} {o o2 : Obj} {v : Value} {xs : List Value} {e : TypeId} (hU : U.heap.size = b + 1) (h1 : (U.alloc o).grownBy w1 (some (b + 1))) (ho : w1.ownsRow (b + 1) e 1 v n xs) (h2 : (w1.alloc o2).grownBy w2 v.ownBlock) : Below (b + 1) U w2 := by
  rw [← hU] at h1 ho ⊢
  have hB1 : Below U.heap.size U w1 := grown_below h1 U ((Below.refl _ U).alloc (Nat.le_refl _) o) (Nat.le_refl _)
  exact grown_own h2 (ho.alloc o2) (hB1.alloc hB1.size o2)
theorem box_cell {A w2 : World} {c : Array Value} {t : TypeId} (hB : Below (A.heap.size + 1) (A.alloc (.cells c t)) w2) (o : Nat) (v : Option Value) (h : c[o]? = v) : w2.cell? ⟨A.heap.size, o, none⟩ = v :=
  (hB.cell (p := ⟨A.heap.size, o, none⟩) (Nat.lt_succ_self _)).trans ((cell_new A c t _ o rfl).trans h)
theorem box_frozen {A w2 : World} {c : Array Value} {t : TypeId} (hB : Below (A.heap.size + 1) (A.alloc (.cells c t)) w2) (o : Nat) : w2.frozen? ⟨A.heap.size, o, none⟩ = false :=
  (hB.frozen (p := ⟨A.heap.size, o, none⟩) (Nat.lt_succ_self _)).trans (frozen_new A c t _ o rfl)
theorem RowAt.setOther {α : Type} {w : World} {C : Nat} {cells : α → List Value} {g o b : Nat} {l : List α} {v : Value} (h : RowAt w C cells (some ⟨g, 0, none⟩) l) (hb : g ≠ b) : RowAt (w.setCell ⟨b, o, none⟩ v) C cells (some ⟨g, 0, none⟩) l := by
  intro i x hi
  obtain ⟨a, ha, hc⟩ := h i x hi
  refine ⟨a, ha, fun j u hj => ?_⟩
  obtain rfl := Option.some.inj ha
  have hne : (⟨b, o, none⟩ : Addr) ≠ ((⟨g, 0, none⟩ : Addr).add (i * C)).add j := by
    intro e
    have h3 : (((⟨g, 0, none⟩ : Addr).add (i * C)).add j).block = g := by generalize i * C = q; cases q <;> cases j <;> rfl
    rw [← e] at h3
    exact hb h3.symm
  have h2 := hc j u hj
  rw [← h2]
  exact World.cell?_setCell_other (h := hne) ..
theorem ext_two {A w2 : World} {c : Array Value} {t : TypeId} (hB : Below (A.heap.size + 1) (A.alloc (.cells c t)) w2) (o : Nat) (v : Value) : ∃ z, w2.setCell ⟨A.heap.size, o, none⟩ v = plus A z :=
  plus_of_below ((((Below.refl A.heap.size A).alloc (Nat.le_refl _) (.cells c t)).trans (hB.mono (Nat.le_succ _))).setCell (Nat.le_refl _) v)
theorem box_set {A w2 : World} {c : Array Value} {t : TypeId} (hB : Below (A.heap.size + 1) (A.alloc (.cells c t)) w2) (k o : Nat) (u : Value) (v : Option Value) (hk : k ≠ o) (h : c[o]? = v) : (w2.setCell ⟨A.heap.size, k, none⟩ u).cell? ⟨A.heap.size, o, none⟩ = v := by
  have hne : (⟨A.heap.size, k, none⟩ : Addr) ≠ ⟨A.heap.size, o, none⟩ := by intro e; simp only [Addr.mk.injEq] at e; exact hk e.2.1
  rw [← box_cell hB o v h]
  exact World.cell?_setCell_other (h := hne) ..
end Go.Proofs.Ytpnaibfefpeikaa
