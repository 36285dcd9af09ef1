/-
  WHAT IS PROVED HERE: laws on one's own memory, over any program: what a slice that came in holds is appended to a slice of one's own, be it nil or not; what a row of one's own holds lies there item by item.
-/
import Derived.Laws.OwnMore
import Derived.Deep.AppendLies
import Derived.OwnWalkIn
import Derived.Test.YtplkiadkkefppaaSA
namespace Go.Proofs.Ytplkiadkkefppaa
open Go.RowKit

theorem flat_at {α : Type} (f : α → List Value) (C : Nat) : ∀ (l : List α) (i j : Nat) (x : α), (∀ y ∈ l, (f y).length = C) → l[i]? = some x → j < C → ((l.map f).flatten)[i * C + j]? = (f x)[j]?
  | [], i, j, x, _, h, _ => by simp at h
  | a :: l, 0, j, x, hC, h, hj => by
    simp only [List.getElem?_cons_zero, Option.some.injEq] at h
    subst h
    have h1 := hC a (List.mem_cons_self ..)
    rw [List.map_cons, List.flatten_cons, Nat.zero_mul, Nat.zero_add, List.getElem?_append_left (by omega)]
  | a :: l, i + 1, j, x, hC, h, hj => by
    simp only [List.getElem?_cons_succ] at h
    have h1 := hC a (List.mem_cons_self ..)
    have e : (i + 1) * C + j = C + (i * C + j) := by rw [Nat.succ_mul]; omega
    rw [List.map_cons, List.flatten_cons, e, List.getElem?_append_right (by omega), h1, Nat.add_sub_cancel_left]
    exact flat_at f C l i j x (fun y hy => hC y (List.mem_cons_of_mem _ hy)) h hj
theorem flat_length {α : Type} (f : α → List Value) (C : Nat) : ∀ (l : List α), (∀ y ∈ l, (f y).length = C) → ((l.map f).flatten).length = l.length * C
  | [], _ => by simp
  | a :: l, hC => by
    have h1 := hC a (List.mem_cons_self ..)
    have h2 := flat_length f C l (fun y hy => hC y (List.mem_cons_of_mem _ hy))
    rw [List.map_cons, List.flatten_cons, List.length_append, h1, h2, List.length_cons, Nat.succ_mul, Nat.add_comm]
theorem flat_mem {α : Type} (f : α → List Value) (l : List α) (u : Value) (h : u ∈ (l.map f).flatten) : ∃ y ∈ l, u ∈ f y := by
  rw [List.mem_flatten] at h
  obtain ⟨L, hL, hu⟩ := h
  rw [List.mem_map] at hL
  obtain ⟨y, hy, rfl⟩ := hL
  exact ⟨y, hy, hu⟩
/-- All cells of a row that came in, in one list. -/
theorem row_flat {α : Type} {w : World} {C : Nat} {f : α → List Value} {ad : Addr} {l : List α} (hrow : RowAt w C f (some ad) l) (hC : ∀ y ∈ l, (f y).length = C) (hC0 : 0 < C) :
    ∀ j u, ((l.map f).flatten)[j]? = some u → w.cell? (ad.add j) = some u := by
  intro j u hu
  have hj : j < l.length * C := by rw [← flat_length f C l hC]; exact (List.getElem?_eq_some_iff.1 hu).1
  have hd : j / C < l.length := Nat.div_lt_of_lt_mul (by rw [Nat.mul_comm]; exact hj)
  have hx : l[j / C]? = some l[j / C] := List.getElem?_eq_getElem hd
  have e : j = j / C * C + j % C := by rw [Nat.mul_comm]; exact (Nat.div_add_mod j C).symm
  have hm : j % C < C := Nat.mod_lt _ hC0
  rw [e, flat_at f C l _ _ _ hC hx hm] at hu
  obtain ⟨a, ha, hc⟩ := hrow _ _ hx
  obtain rfl : ad = a := by simpa using ha
  have := hc _ _ hu
  rw [Addr.add_add, ← e] at this
  exact this
/-- What a row of one's own holds lies there item by item. -/
theorem own_row {α : Type} {w : World} {base : Nat} {e : TypeId} {C n g cap : Nat} {f : α → List Value} {l : List α} (h : w.ownsRow base e C (.slice (some ⟨g, 0, none⟩) n cap) n ((l.map f).flatten)) (hC : ∀ y ∈ l, (f y).length = C) : RowAt w C f (some ⟨g, 0, none⟩) l := by
  intro i x hx
  refine ⟨_, rfl, fun j v hv => ?_⟩
  have hj : j < C := by have := (List.getElem?_eq_some_iff.1 hv).1; rw [hC x (List.mem_of_getElem? hx)] at this; exact this
  have hl := flat_length f C l hC
  have h1 := h.1
  have hi : i < l.length := (List.getElem?_eq_some_iff.1 hx).1
  have hk : i * C + j < n * C := by
    rw [← h1, hl]
    exact Nat.lt_of_lt_of_le (show i * C + j < (i + 1) * C by rw [Nat.succ_mul]; omega) (Nat.mul_le_mul_right C hi)
  rw [Addr.add_lit, Addr.add_lit, Nat.zero_add]
  rw [h.cellAt _ hk, flat_at f C l i j x hC hx hj, hv]

section
variable {P : Program} {w : World}
theorem run_append_none (base : Nat) (t ty e : TypeId) (i : TypeInfo) (size : Nat) (ht : P.underlying t = some (.slice e)) (hi : P.info? e = some i)
    (v : Value) (n : Nat) (xs : List Value) (c : Nat) (hown : w.ownsRow base e size v n xs) :
    (Builtin.append_ #[t, t] ty #[v, .slice none 0 c]).run P w = .ok v w := by
  rcases hown.2 with ⟨rfl, rfl⟩ | ⟨g, cap, cur, rfl, _, _, hnc, _⟩
  · simp [Builtin.append_, run_underlying ht, sizeOf, typeInfo, hi, Builtin.lenOf, Builtin.firstCells]
  · simp [Builtin.append_, run_underlying ht, sizeOf, typeInfo, hi, Builtin.lenOf, Builtin.firstCells, hnc, storeCells]
theorem wpList_append_sl {α : Type} {ops : Array Oper} {rest : List Oper} {o : Oper} {a : Act} {Q : Exit → Act → World → Prop} (hgd : o.guard = none) (s x : Operand) (t : TypeId)
    (ho : o.op = .call { callee := .builtin .append, args := #[s, x], argTypes := #[t, t] })
    (base : Nat) (e : TypeId) (i : TypeInfo) (z : Value) (size bytes : Nat) (ht : P.underlying t = some (.slice e)) (hi : P.info? e = some i) (hz : i.zero = some z)
    (hsize : i.size = size) (hby : i.bytes = bytes) (hzs : z.cells.size = size) (hsz : 0 < size)
    (v : Value) (n : Nat) (xs : List Value) (hs : a.eval s = v) (hown : w.ownsRow base e size v n xs)
    (p : Option Addr) (m c : Nat) (l : List α) (f : α → List Value) (hx : a.eval x = .slice p m c) (hm : l.length = m) (hrow : RowAt w size f p l) (hC : ∀ y ∈ l, (f y).length = size) (h1 : ∀ y ∈ l, ∀ u ∈ f y, u.oneCell' = true)
    (h63 : n + m ≤ maxLen) (hbytes : (n + m) * bytes ≤ 140737488355328) (hbase : base ≤ w.heap.size)
    (h : ∀ v' w', w'.ownsRow base e size v' (n + m) (xs ++ (l.map f).flatten) → w.grownBy w' v.ownBlock → wpList P ops Q rest (a.put o.dst v') w') : wpList P ops Q (o :: rest) a w := by
  cases p with
  | none =>
    obtain rfl : l = [] := by
      cases l with
      | nil => rfl
      | cons y l => obtain ⟨_, h, _⟩ := hrow 0 y rfl; cases h
    obtain rfl : m = 0 := by rw [← hm]; rfl
    refine wpList_plain hgd fun K hK => ?_
    have hrun := run_append_none (P := P) (w := w) base t o.type e i size ht hi v n xs c hown
    unfold Oper.wp
    simp [execOp, ho, resolve, invoke, builtin, hs, hx, hrun, Result.andThen]
    exact hK _ _ (h v w (by simpa using hown) (World.grownBy.mk rfl rfl rfl (Nat.le_refl _) fun _ _ _ => rfl))
  | some ad =>
    exact wpList_append_own w hgd s x t ho base e i z size bytes ht hi hz hsize hby hzs hsz v n xs hs hown ad m c _ hx (by rw [flat_length f size l hC, hm]) (row_flat hrow hC hsz)
      (fun u hu => by obtain ⟨y, hy, hu⟩ := flat_mem f l u hu; exact h1 y hy u hu) h63 hbytes hbase fun v' w' h2 h3 _ => h v' w' h2 h3
/-- The same inside a fence. -/
theorem wpListIn_append_sl {α : Type} {F : Fence} {N : Nat} {ops : Array Oper} {rest : List Oper} {o : Oper} {a : Act} {Q : Exit → Act → World → Prop} (hgd : o.guard = none) (s x : Operand) (t : TypeId)
    (ho : o.op = .call { callee := .builtin .append, args := #[s, x], argTypes := #[t, t] })
    (base : Nat) (e : TypeId) (i : TypeInfo) (z : Value) (size bytes : Nat) (ht : P.underlying t = some (.slice e)) (hi : P.info? e = some i) (hz : i.zero = some z)
    (hsize : i.size = size) (hby : i.bytes = bytes) (hzs : z.cells.size = size) (hsz : 0 < size)
    (v : Value) (n : Nat) (xs : List Value) (hs : a.eval s = v) (hown : w.ownsRow base e size v n xs)
    (p : Option Addr) (m c : Nat) (l : List α) (f : α → List Value) (hx : a.eval x = .slice p m c) (hm : l.length = m) (hrow : RowAt w size f p l) (hC : ∀ y ∈ l, (f y).length = size) (h1 : ∀ y ∈ l, ∀ u ∈ f y, u.oneCell' = true)
    (h63 : n + m ≤ maxLen) (hbytes : (n + m) * bytes ≤ 140737488355328) (hbase : base ≤ w.heap.size)
    (h : ∀ v' w', w'.ownsRow base e size v' (n + m) (xs ++ (l.map f).flatten) → w.grownBy w' v.ownBlock → wpListIn F N P ops Q rest (a.put o.dst v') w') : wpListIn F N P ops Q (o :: rest) a w := by
  cases p with
  | none =>
    obtain rfl : l = [] := by
      cases l with
      | nil => rfl
      | cons y l => obtain ⟨_, h, _⟩ := hrow 0 y rfl; cases h
    obtain rfl : m = 0 := by rw [← hm]; rfl
    refine wpListIn_plain hgd fun K hK => ?_
    have hrun := run_append_none (P := P) (w := w) base t o.type e i size ht hi v n xs c hown
    unfold Oper.wpIn
    refine ⟨?_, ?_⟩
    · simp [Oper.about, ho, resolve, Target.leads, Sem.run_pure]
    · rw [Oper.semAt_plain F _ _ (by rw [ho]; intro c hc'; cases hc')]
      simp [execOp, ho, resolve, invoke, builtin, hs, hx, hrun, Result.andThen]
      exact hK _ _ (h v w (by simpa using hown) (World.grownBy.mk rfl rfl rfl (Nat.le_refl _) fun _ _ _ => rfl))
  | some ad =>
    exact wpListIn_append_own w hgd s x t ho base e i z size bytes ht hi hz hsize hby hzs hsz v n xs hs hown ad m c _ hx (by rw [flat_length f size l hC, hm]) (row_flat hrow hC hsz)
      (fun u hu => by obtain ⟨y, hy, hu⟩ := flat_mem f l u hu; exact h1 y hy u hu) h63 hbytes hbase fun v' w' h2 h3 _ => h v' w' h2 h3
theorem own_sl {w : World} {base : Nat} {e : TypeId} {size : Nat} {v : Value} {n : Nat} {xs : List Value} (h : w.ownsRow base e size v n xs) (hn : 0 < n) : ∃ g cap, v = .slice (some ⟨g, 0, none⟩) n cap ∧ base ≤ g ∧ g < w.heap.size := by
  rcases h.2 with ⟨rfl, h0⟩ | ⟨g, cap, cur, rfl, hg, hh, _⟩
  · omega
  · exact ⟨g, cap, rfl, hg, (Array.getElem?_eq_some_iff.1 hh).1⟩
end
end Go.Proofs.Ytplkiadkkefppaa
