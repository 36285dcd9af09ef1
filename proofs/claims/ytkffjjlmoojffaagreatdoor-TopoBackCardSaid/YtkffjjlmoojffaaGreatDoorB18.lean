/-
  WHAT IS PROVED HERE: a part of the proof of the claim's theorem: NetG; NetH; Un; NetI.
-/
import Derived.Test.YtkffjjlmoojffaaGreatDoorRows
import Derived.Test.YtkffjjlmoojffaaGreatDoorB17
import Derived.OwnWalk
import Derived.Laws.OwnMore
import Derived.Laws.AppendOwn
import Derived.Test.YtkffjjlmoojffaaGreatDoorB12
import Derived.WalkKit
import Derived.WalkSpells
import Derived.WalkLawsBesides
set_option linter.all false
namespace Go.Proofs.YtkffjjlmoojffaaGreatDoor
open Go.RowKit
theorem nf_at {α : Type} (f : α → List Value) (C : Nat) : ∀ (l : List α) (i j : Nat) (x : α), (∀ y ∈ l, (f y).length = C) → l[i]? = some x → j < C → ((l.map f).flatten)[i * C + j]? = (f x)[j]?
  | [], i, j, x, _, h, _ => by simp at h
  | a :: l, 0, j, x, hC, h, hj => by
    simp only [List.getElem?_cons_zero, Option.some.injEq] at h
    subst h
    have h1 := hC a (List.mem_cons_self ..)
    rw [List.map_cons, List.flatten_cons, Nat.zero_mul, Nat.zero_add, List.getElem?_append_left (by omega)]
  | a :: l, i + 1, j, x, hC, h, hj => by
    simp only [List.getElem?_cons_succ] at h
    have h1 := hC a (List.mem_cons_self ..)
    have e : (i + 1) * C + j = C + (i * C + j) := by rw [Nat.succ_mul]; omega
    rw [List.map_cons, List.flatten_cons, e, List.getElem?_append_right (by omega), h1, Nat.add_sub_cancel_left]
    exact nf_at f C l i j x (fun y hy => hC y (List.mem_cons_of_mem _ hy)) h hj
def Lies {α : Type} (w : World) (C : Nat) (f : α → List Value) (v : Value) (l : List α) : Prop :=
  ∃ p c, v = .slice p l.length c ∧ ∀ i x, l[i]? = some x → ∃ g, p = some ⟨g, 0, none⟩ ∧ g < w.heap.size ∧ ∀ j u, (f x)[j]? = some u → w.cell? ⟨g, i * C + j, none⟩ = some u
theorem Lies.below {α : Type} {w w' : World} {C : Nat} {f : α → List Value} {v : Value} {l : List α} (h : Lies w C f v l) (hB : Below w.heap.size w w') : Lies w' C f v l := by
  obtain ⟨p, c, hv, h⟩ := h
  refine ⟨p, c, hv, fun i x hx => ?_⟩
  obtain ⟨g, hp, hg, hc⟩ := h i x hx
  exact ⟨g, hp, Nat.lt_of_lt_of_le hg hB.size, fun j u hu => (hB.cell (p := ⟨g, i * C + j, none⟩) hg).trans (hc j u hu)⟩
theorem Lies.plus {α : Type} {w : World} {C : Nat} {f : α → List Value} {v : Value} {l : List α} (h : Lies w C f v l) (x : Ext) : Lies (plus w x) C f v l := h.below (below_plus w x)
abbrev Own {α : Type} (w : World) (base : Nat) (e : TypeId) (C : Nat) (f : α → List Value) (v : Value) (l : List α) : Prop := w.ownsRow base e C v l.length ((l.map f).flatten)
theorem own_lies {α : Type} {w : World} {base : Nat} {e : TypeId} {C : Nat} {f : α → List Value} {v : Value} {l : List α} (h : Own w base e C f v l) (hC : ∀ y, (f y).length = C) : Lies w C f v l := by
  by_cases hn : 0 < l.length
  · obtain ⟨g, cap, rfl, _, hg⟩ := own_form h hn
    refine ⟨_, cap, rfl, fun i x hx => ⟨g, rfl, hg, fun j u hu => ?_⟩⟩
    have hj : j < C := by have := (List.getElem?_eq_some_iff.1 hu).1; rw [hC x] at this; exact this
    have hi : i < l.length := (List.getElem?_eq_some_iff.1 hx).1
    have hk : i * C + j < l.length * C := Nat.lt_of_lt_of_le (show i * C + j < (i + 1) * C by rw [Nat.succ_mul]; omega) (Nat.mul_le_mul_right C hi)
    rw [h.cellAt _ hk, nf_at f C l i j x (fun y _ => hC y) hx hj, hu]
  · obtain rfl : l = [] := List.length_eq_zero_iff.1 (by omega)
    rcases h.2 with ⟨rfl, _⟩ | ⟨g, cap, cur, rfl, _⟩
    · exact ⟨none, 0, rfl, fun i x hx => by simp at hx⟩
    · exact ⟨_, cap, rfl, fun i x hx => by simp at hx⟩
theorem rowApp {α : Type} (f : α → List Value) (e T : TypeId) (C bytes : Nat) (z : Value) (hT : Tryz.prog.underlying T = some (.slice e)) (hinfo : (Tryz.prog.info? e).map (fun i => (i.zero, i.size, i.bytes)) = some (some z, C, bytes)) (hzs : z.cells.size = C) (hC0 : 0 < C) (hby : bytes ≤ 64)
    (hC : ∀ y, (f y).length = C) (h1 : ∀ y, ∀ u ∈ f y, u.oneCell' = true) {W : World} {base : Nat} (v : Value) {l : List α} (n : Nat) (hn : l.length = n) {ops : Array Oper} {rest : List Oper} {o : Oper} {a : Act} {Q : Exit → Act → World → Prop}
    (h : W.ownsRow base e C v n ((l.map f).flatten)) (hbase : base ≤ W.heap.size) (hb : l.length ≤ 1048576) (y : α) (g : Nat) (hcell : ∀ j u, (f y)[j]? = some u → W.cell? ⟨g, j, none⟩ = some u) (hgd : o.guard = none) (s x : Operand)
    (ho : o.op = .call { callee := .builtin .append, args := #[s, x], argTypes := #[T, T] }) (hs : a.eval s = v) (hx : a.eval x = .slice (some ⟨g, 0, none⟩) 1 1)
    (k : ∀ v' w', Own w' base e C f v' (l ++ [y]) → W.grownBy w' v.ownBlock → wpList Tryz.prog ops Q rest (a.put o.dst v') w') : wpList Tryz.prog ops Q (o :: rest) a W := by
  subst hn
  obtain ⟨i0, hi0, hi1, hi2, hi3⟩ := info_parts hinfo
  refine wpList_append_own W hgd s x T ho base e i0 z C bytes hT hi0 hi1 hi2 hi3 hzs hC0 v l.length _ hs h ⟨g, 0, none⟩ 1 1 (f y) hx (by rw [hC y, Nat.one_mul]) (fun j u hu => by rw [Addr.add_lit, Nat.zero_add]; exact hcell j u hu) (h1 y)
    (by simp only [maxLen]; omega) ?_ hbase fun v' w' h3 h4 _ => k v' w' (by
      show w'.ownsRow base _ C v' (l ++ [y]).length (((l ++ [y]).map f).flatten)
      rw [List.length_append, List.map_append, List.flatten_append]
      simpa using h3) h4
  have : (l.length + 1) * bytes ≤ 1048577 * 64 := Nat.mul_le_mul (by omega) hby
  omega
def strC (s : ByteArray) : List Value := [.string s]
def intC (n : Int) : List Value := [.int .i64 n]
structure Sl3 where
  p : Option Addr
  n : Nat
  c : Nat
def Sl3.v (x : Sl3) : Value := .slice x.p x.n x.c
def slC (x : Sl3) : List Value := [.slice x.p x.n x.c]
def endC (e : End') : List Value := [.int .i64 e.sw, .int .i64 e.po]
def endV (e : End') : Value := .agg #[.int .i64 e.sw, .int .i64 e.po]
def linkC (x : End' × End') : List Value := [.int .i64 x.1.sw, .int .i64 x.1.po, .int .i64 x.2.sw, .int .i64 x.2.po]
theorem str_info : (Tryz.prog.info? 9).map (fun i => (i.zero, i.size, i.bytes)) = some (some (.string ⟨#[]⟩), 1, 16) := by kernel_rfl
theorem num_info : (Tryz.prog.info? 3).map (fun i => (i.zero, i.size, i.bytes)) = some (some (.int .i64 0), 1, 8) := by kernel_rfl
theorem sli_info : (Tryz.prog.info? 39).map (fun i => (i.zero, i.size, i.bytes)) = some (some (.slice none 0 0), 1, 24) := by kernel_rfl
theorem end_info : (Tryz.prog.info? 41).map (fun i => (i.zero, i.size, i.bytes)) = some (some (.agg #[.int .i64 0, .int .i64 0]), 2, 16) := by kernel_rfl
theorem link_info : (Tryz.prog.info? 68).map (fun i => (i.zero, i.size, i.bytes)) = some (some (.agg #[.int .i64 0, .int .i64 0, .int .i64 0, .int .i64 0]), 4, 32) := by kernel_rfl
theorem strC_one (y : ByteArray) : ∀ u ∈ strC y, u.oneCell' = true := by intro u hu; simp only [strC, List.mem_cons, List.not_mem_nil, or_false] at hu; subst hu; rfl
theorem intC_one (y : Int) : ∀ u ∈ intC y, u.oneCell' = true := by intro u hu; simp only [intC, List.mem_cons, List.not_mem_nil, or_false] at hu; subst hu; rfl
theorem slC_one (y : Sl3) : ∀ u ∈ slC y, u.oneCell' = true := by intro u hu; simp only [slC, List.mem_cons, List.not_mem_nil, or_false] at hu; subst hu; rfl
theorem endC_one (y : End') : ∀ u ∈ endC y, u.oneCell' = true := by intro u hu; simp only [endC, List.mem_cons, List.not_mem_nil, or_false] at hu; rcases hu with rfl | rfl <;> rfl
theorem linkC_one (y : End' × End') : ∀ u ∈ linkC y, u.oneCell' = true := by intro u hu; simp only [linkC, List.mem_cons, List.not_mem_nil, or_false] at hu; rcases hu with rfl | rfl | rfl | rfl <;> rfl
theorem strC_len (y : ByteArray) : (strC y).length = 1 := rfl
theorem intC_len (y : Int) : (intC y).length = 1 := rfl
theorem slC_len (y : Sl3) : (slC y).length = 1 := rfl
theorem endC_len (y : End') : (endC y).length = 2 := rfl
theorem linkC_len (y : End' × End') : (linkC y).length = 4 := rfl
theorem step_lt (k n : Nat) (h : k < n) : n - (intOf (Value.int .i64 ((k : Int) + 1))).toNat < n - (intOf (Value.int .i64 (k : Int))).toNat := by
  show n - ((k : Int) + 1).toNat < n - ((k : Int)).toNat
  omega
theorem findF_hit {names : List ByteArray} {x : ByteArray} {k : Nat} (h : names[k]? = some x) (hno : ∀ j, j < k → names[j]? ≠ some x) : findF names x = (k : Int) := by
  unfold findF
  have hk := (List.getElem?_eq_some_iff.1 h).1
  have : names.findIdx? (fun y => decide (y = x)) = some k := by
    rw [List.findIdx?_eq_some_iff_getElem]
    refine ⟨hk, by rw [decide_eq_true_eq]; exact (List.getElem?_eq_some_iff.1 h).2, fun j hj => ?_⟩
    have hne := hno j hj
    rw [List.getElem?_eq_getElem (by omega)] at hne
    rw [decide_eq_true_eq]
    exact fun e => hne (congrArg some e)
  rw [this]
theorem findF_miss {names : List ByteArray} {x : ByteArray} (hno : ∀ j, j < names.length → names[j]? ≠ some x) : findF names x = -1 := by
  unfold findF
  have : names.findIdx? (fun y => decide (y = x)) = none := by
    rw [List.findIdx?_eq_none_iff]
    intro y hy
    obtain ⟨j, hj⟩ := List.mem_iff_getElem?.1 hy
    rw [decide_eq_false_iff_not]
    exact fun e => hno j (List.getElem?_eq_some_iff.1 hj).1 (by rw [hj, e])
  rw [this]
end Go.Proofs.YtkffjjlmoojffaaGreatDoor
namespace Go.Proofs.YtkffjjlmoojffaaGreatDoor
open Go.RowKit
structure PortsAt (w : World) (v : Value) (pvs : List Sl3) (ports : List (List Int)) : Prop where
  row : Lies w 1 slC v pvs
  len : pvs.length = ports.length
  each : ∀ (i : Nat) (x : Sl3) (ps : List Int), pvs[i]? = some x → ports[i]? = some ps → Lies w 1 intC x.v ps ∧ ps.length ≤ 1048576
theorem PortsAt.below {w w' : World} {v : Value} {pvs : List Sl3} {ports : List (List Int)} (h : PortsAt w v pvs ports) (hB : Below w.heap.size w w') : PortsAt w' v pvs ports :=
  ⟨h.row.below hB, h.len, fun i x ps hx hp => ⟨(h.each i x ps hx hp).1.below hB, (h.each i x ps hx hp).2⟩⟩
def thereD (ports : List (List Int)) (e : End') : Bool := decide (0 ≤ e.sw) && decide (e.sw < ports.length) && decide (e.po ∈ (ports[e.sw.toNat]?).getD [])
theorem end_beq (a b c d : Int) : (a == c && b == d) = decide ((⟨a, b⟩ : End') = ⟨c, d⟩) := by by_cases h1 : a = c <;> by_cases h2 : b = d <;> simp [h1, h2]
theorem eql_end (x y : End') (w : World) : (binOp .eql 41 (.agg #[.int .i64 x.sw, .int .i64 x.po]) (.agg #[.int .i64 y.sw, .int .i64 y.po])).run Tryz.prog w = .ok (.bool (decide (x = y))) w := by
  obtain ⟨a, b⟩ := x
  obtain ⟨c, d⟩ := y
  rw [← end_beq]
  go_simp
  split <;> (try split) <;> simp_all
theorem neq_end (x y : End') (w : World) : (binOp .neq 41 (.agg #[.int .i64 x.sw, .int .i64 x.po]) (.agg #[.int .i64 y.sw, .int .i64 y.po])).run Tryz.prog w = .ok (.bool (!decide (x = y))) w := by
  obtain ⟨a, b⟩ := x
  obtain ⟨c, d⟩ := y
  rw [← end_beq]
  go_simp
  split <;> (try split) <;> simp_all
def nextF : List (End' × End') → End' → Option End'
  | [], _ => none
  | (a, b) :: r, e => if a = e then some b else if b = e then some a else nextF r e
theorem nextF_skip : ∀ (links : List (End' × End')) (e : End') (k : Nat), (∀ (j : Nat) (x : End' × End'), j < k → links[j]? = some x → ¬ x.1 = e ∧ ¬ x.2 = e) → nextF links e = nextF (links.drop k) e
  | [], e, k, _ => by simp
  | x :: r, e, 0, _ => rfl
  | (a, b) :: r, e, k + 1, h => by
    have h0 := h 0 (a, b) (by omega) rfl
    simp only at h0
    rw [List.drop_succ_cons, nextF, if_neg h0.1, if_neg h0.2]
    exact nextF_skip r e k fun j x hj hx => h (j + 1) x (by omega) (by simpa using hx)
theorem nextF_at {links : List (End' × End')} {e : End'} {k : Nat} {a b : End'} (hk : links[k]? = some (a, b)) (h : ∀ (j : Nat) (x : End' × End'), j < k → links[j]? = some x → ¬ x.1 = e ∧ ¬ x.2 = e) : (a = e → nextF links e = some b) ∧ (¬ a = e → b = e → nextF links e = some a) := by
  obtain ⟨hlt, hx⟩ := List.getElem?_eq_some_iff.1 hk
  rw [nextF_skip links e k h, List.drop_eq_getElem_cons hlt, hx, nextF]
  exact ⟨fun q => by rw [if_pos q], fun q1 q2 => by rw [if_neg q1, if_pos q2]⟩
theorem nextF_none {links : List (End' × End')} {e : End'} (h : ∀ (j : Nat) (x : End' × End'), j < links.length → links[j]? = some x → ¬ x.1 = e ∧ ¬ x.2 = e) : nextF links e = none := by
  rw [nextF_skip links e links.length h, List.drop_length]; rfl
def nextV (there : Bool) (links : List (End' × End')) (e : End') : End' × Bool × Bool := if there = true then (match nextF links e with | some t => (t, true, true) | none => (⟨0, 0⟩, true, false)) else (⟨0, 0⟩, false, false)
end Go.Proofs.YtkffjjlmoojffaaGreatDoor
namespace Go.Proofs.YtkffjjlmoojffaaGreatDoor
open Go.RowKit
theorem flat_get : ∀ (l : List Tok) (j i : Nat) (t : Tok), l[j]? = some t → i < 6 → (l.flatMap tokL)[j * 6 + i]? = (tokL t)[i]?
  | [], j, i, t, h, _ => by simp at h
  | x :: l, 0, i, t, h, hi => by
    simp only [List.getElem?_cons_zero, Option.some.injEq] at h
    subst h
    rw [List.flatMap_cons, List.getElem?_append_left (by show _ < 6; omega)]
    rw [Nat.zero_mul, Nat.zero_add]
  | x :: l, j + 1, i, t, h, hi => by
    rw [List.flatMap_cons, List.getElem?_append_right (by show 6 ≤ _; omega)]
    have := flat_get l j i t (by simpa using h) hi
    rw [← this]
    congr 1
    show (j + 1) * 6 + i - 6 = j * 6 + i
    omega
theorem tok_at {W : World} {base g cap : Nat} {l : List Tok} (h : W.ownsRow base 60 6 (.slice (some ⟨g, 0, none⟩) l.length cap) l.length (l.flatMap tokL)) (hg : g < W.heap.size) (j : Nat) (t : Tok) (ht : l[j]? = some t) : TokAt W g j t := by
  have hj := (List.getElem?_eq_some_iff.1 ht).1
  have c := fun i (hi : i < 6) => (h.cellAt (j * 6 + i) (by omega)).trans (flat_get l j i t ht hi)
  exact ⟨hg, c 0 (by decide), c 1 (by decide), c 2 (by decide), c 3 (by decide), c 4 (by decide), c 5 (by decide)⟩
theorem own_below {W W' : World} {n base : Nat} {e : TypeId} {size : Nat} {v : Value} {k : Nat} {xs : List Value} (h : W.ownsRow base e size v k xs) (hB : Below n W W') (hn : W.heap.size ≤ n) : W'.ownsRow base e size v k xs := by
  obtain ⟨hl, h2⟩ := h
  refine ⟨hl, ?_⟩
  rcases h2 with h2 | ⟨g, cap, cur, hv, hg, hh, h3, h4, h5, h6⟩
  · exact .inl h2
  · have hlt := (Array.getElem?_eq_some_iff.1 hh).1
    obtain ⟨_, _, _, _, b5⟩ := hB
    exact .inr ⟨g, cap, cur, hv, hg, (b5 g (by omega)).trans hh, h3, h4, h5, h6⟩
theorem lexN_len (s : ByteArray) : ∀ (f a : Nat) (acc : List Tok), a ≤ s.size → (lexN s f a acc).1.length ≤ acc.length + (s.size - a) + 1
  | 0, a, acc, _ => by unfold lexN; simp
  | f + 1, a, acc, ha => by
    by_cases h : a < s.size
    · by_cases h0 : (oneR s a).2 = 0
      · rw [lexN_go h h0]
        have hz := oneR_size s a h h0
        have hb := skip_bounds s _ (a + (oneR s a).1.s.size) (Nat.le_refl _) hz.2
        have := lexN_len s f (skipN s (a + (oneR s a).1.s.size)) (acc ++ [(oneR s a).1]) hb.2
        simp only [List.length_append, List.length_singleton] at this
        omega
      · rw [lexN_bad h h0]; simp
    · rw [lexN_end h]; simp
theorem lexR_len (s : ByteArray) : (lexR s).1.length ≤ s.size + 1 := by
  unfold lexR
  split
  · simp
  · have hb := skip_bounds s _ 0 (Nat.le_refl _) (Nat.zero_le _)
    have := lexN_len s s.size (skipN s 0) [] hb.2
    simp only [List.length_nil] at this
    omega
end Go.Proofs.YtkffjjlmoojffaaGreatDoor
namespace Go.Proofs.YtkffjjlmoojffaaGreatDoor
open Go.RowKit
def sortK (zs : List Int) (m : Nat) : List Int := ((List.range m).map fun i => ((i + 1 : Nat) : Int)).filter fun n => decide (n ∈ zs)
theorem sortK_zero (zs : List Int) : sortK zs 0 = [] := rfl
theorem sortK_succ (zs : List Int) (m : Nat) : sortK zs (m + 1) = sortK zs m ++ if ((m + 1 : Nat) : Int) ∈ zs then [((m + 1 : Nat) : Int)] else [] := by
  unfold sortK
  rw [List.range_succ, List.map_append, List.filter_append]
  congr 1
  by_cases h : ((m + 1 : Nat) : Int) ∈ zs
  · rw [if_pos h, List.map_singleton, List.filter_cons_of_pos (by simpa using h), List.filter_nil]
  · rw [if_neg h, List.map_singleton, List.filter_cons_of_neg (by simpa using h), List.filter_nil]
theorem own_belows {α : Type} {w w' : World} {base : Nat} {e : TypeId} {C : Nat} {f : α → List Value} {v : Value} {l : List α} (h : Own w base e C f v l) (hB : Below w.heap.size w w') : Own w' base e C f v l := own_below h hB (Nat.le_refl _)
theorem own_sl3 {α : Type} {w : World} {base : Nat} {e : TypeId} {C : Nat} {f : α → List Value} {v : Value} {l : List α} (h : Own w base e C f v l) : ∃ p c, v = .slice p l.length c := by
  rcases h.2 with ⟨rfl, h0⟩ | ⟨g, cap, cur, rfl, _⟩
  · exact ⟨none, 0, by rw [h0]⟩
  · exact ⟨_, cap, rfl⟩
end Go.Proofs.YtkffjjlmoojffaaGreatDoor
