/-
  WHAT IS PROVED HERE: a part of the proof of the claim's theorem: Um; NetG.
-/
import Derived.Test.YtkffjjlmoojffaaGreatDoorRows
import Derived.Test.YtkffjjlmoojffaaGreatDoorM19
import Derived.Test.YtkffjjlmoojffaaGreatDoorM20
import Derived.Test.YtkffjjlmoojffaaGreatDoorM18
import Derived.WalkKit
import Derived.WalkSpells
import Derived.WalkLawsBesides
import Derived.Test.YtkffjjlmoojffaaGreatDoorM22
import Derived.OwnWalk
import Derived.Laws.OwnMore
import Derived.Laws.AppendOwn
set_option linter.all false
namespace Go.Proofs.YtkffjjlmoojffaaGreatDoor
open Go.RowKit
def PureS (f : FuncId) (args : Array Value) (v : Value) : Prop := ∀ w, Std w → Calls Tryz.prog f args w fun e w' => e = .returned v ∧ ∃ x, w' = plus w x
theorem PureS.at {f : FuncId} {args : Array Value} {v : Value} (h : PureS f args v) (w : World) (hS : Std w) (x : Ext) :
    Calls Tryz.prog f args (plus w x) fun e w' => e = .returned v ∧ ∃ y, w' = plus w y :=
  (h _ (hS.plus x)).mono fun _ _ ⟨he, y, hy⟩ => ⟨he, ⟨x.blocks ++ y.blocks, y.draws⟩, by rw [hy, plus_plus]⟩
theorem own_form {W : World} {base : Nat} {e : TypeId} {size : Nat} {v : Value} {n : Nat} {xs : List Value} (h : W.ownsRow base e size v n xs) (hn : 0 < n) : ∃ g cap, v = .slice (some ⟨g, 0, none⟩) n cap ∧ base ≤ g ∧ g < W.heap.size := by
  rcases h.2 with ⟨rfl, h0⟩ | ⟨g, cap, cur, rfl, hg, hh, _⟩
  · omega
  · exact ⟨g, cap, rfl, hg, (Array.getElem?_eq_some_iff.1 hh).1⟩
end Go.Proofs.YtkffjjlmoojffaaGreatDoor
namespace Go.Proofs.YtkffjjlmoojffaaGreatDoor
open Go.RowKit
theorem nf_at {α : Type} (f : α → List Value) (C : Nat) : ∀ (l : List α) (i j : Nat) (x : α), (∀ y ∈ l, (f y).length = C) → l[i]? = some x → j < C → ((l.map f).flatten)[i * C + j]? = (f x)[j]?
  | [], i, j, x, _, h, _ => by simp at h
  | a :: l, 0, j, x, hC, h, hj => by
    simp only [List.getElem?_cons_zero, Option.some.injEq] at h
    subst h
    have h1 := hC a (List.mem_cons_self ..)
    rw [List.map_cons, List.flatten_cons, Nat.zero_mul, Nat.zero_add, List.getElem?_append_left (by omega)]
  | a :: l, i + 1, j, x, hC, h, hj => by
    simp only [List.getElem?_cons_succ] at h
    have h1 := hC a (List.mem_cons_self ..)
    have e : (i + 1) * C + j = C + (i * C + j) := by rw [Nat.succ_mul]; omega
    rw [List.map_cons, List.flatten_cons, e, List.getElem?_append_right (by omega), h1, Nat.add_sub_cancel_left]
    exact nf_at f C l i j x (fun y hy => hC y (List.mem_cons_of_mem _ hy)) h hj
def Lies {α : Type} (w : World) (C : Nat) (f : α → List Value) (v : Value) (l : List α) : Prop :=
  ∃ p c, v = .slice p l.length c ∧ ∀ i x, l[i]? = some x → ∃ g, p = some ⟨g, 0, none⟩ ∧ g < w.heap.size ∧ ∀ j u, (f x)[j]? = some u → w.cell? ⟨g, i * C + j, none⟩ = some u
theorem Lies.below {α : Type} {w w' : World} {C : Nat} {f : α → List Value} {v : Value} {l : List α} (h : Lies w C f v l) (hB : Below w.heap.size w w') : Lies w' C f v l := by
  obtain ⟨p, c, hv, h⟩ := h
  refine ⟨p, c, hv, fun i x hx => ?_⟩
  obtain ⟨g, hp, hg, hc⟩ := h i x hx
  exact ⟨g, hp, Nat.lt_of_lt_of_le hg hB.size, fun j u hu => (hB.cell (p := ⟨g, i * C + j, none⟩) hg).trans (hc j u hu)⟩
theorem Lies.plus {α : Type} {w : World} {C : Nat} {f : α → List Value} {v : Value} {l : List α} (h : Lies w C f v l) (x : Ext) : Lies (plus w x) C f v l := h.below (below_plus w x)
abbrev Own {α : Type} (w : World) (base : Nat) (e : TypeId) (C : Nat) (f : α → List Value) (v : Value) (l : List α) : Prop := w.ownsRow base e C v l.length ((l.map f).flatten)
theorem own_lies {α : Type} {w : World} {base : Nat} {e : TypeId} {C : Nat} {f : α → List Value} {v : Value} {l : List α} (h : Own w base e C f v l) (hC : ∀ y, (f y).length = C) : Lies w C f v l := by
  by_cases hn : 0 < l.length
  · obtain ⟨g, cap, rfl, _, hg⟩ := own_form h hn
    refine ⟨_, cap, rfl, fun i x hx => ⟨g, rfl, hg, fun j u hu => ?_⟩⟩
    have hj : j < C := by have := (List.getElem?_eq_some_iff.1 hu).1; rw [hC x] at this; exact this
    have hi : i < l.length := (List.getElem?_eq_some_iff.1 hx).1
    have hk : i * C + j < l.length * C := Nat.lt_of_lt_of_le (show i * C + j < (i + 1) * C by rw [Nat.succ_mul]; omega) (Nat.mul_le_mul_right C hi)
    rw [h.cellAt _ hk, nf_at f C l i j x (fun y _ => hC y) hx hj, hu]
  · obtain rfl : l = [] := List.length_eq_zero_iff.1 (by omega)
    rcases h.2 with ⟨rfl, _⟩ | ⟨g, cap, cur, rfl, _⟩
    · exact ⟨none, 0, rfl, fun i x hx => by simp at hx⟩
    · exact ⟨_, cap, rfl, fun i x hx => by simp at hx⟩
theorem rowApp {α : Type} (f : α → List Value) (e T : TypeId) (C bytes : Nat) (z : Value) (hT : Tryz.prog.underlying T = some (.slice e)) (hinfo : (Tryz.prog.info? e).map (fun i => (i.zero, i.size, i.bytes)) = some (some z, C, bytes)) (hzs : z.cells.size = C) (hC0 : 0 < C) (hby : bytes ≤ 64)
    (hC : ∀ y, (f y).length = C) (h1 : ∀ y, ∀ u ∈ f y, u.oneCell' = true) {W : World} {base : Nat} (v : Value) {l : List α} (n : Nat) (hn : l.length = n) {ops : Array Oper} {rest : List Oper} {o : Oper} {a : Act} {Q : Exit → Act → World → Prop}
    (h : W.ownsRow base e C v n ((l.map f).flatten)) (hbase : base ≤ W.heap.size) (hb : l.length ≤ 1048576) (y : α) (g : Nat) (hcell : ∀ j u, (f y)[j]? = some u → W.cell? ⟨g, j, none⟩ = some u) (hgd : o.guard = none) (s x : Operand)
    (ho : o.op = .call { callee := .builtin .append, args := #[s, x], argTypes := #[T, T] }) (hs : a.eval s = v) (hx : a.eval x = .slice (some ⟨g, 0, none⟩) 1 1)
    (k : ∀ v' w', Own w' base e C f v' (l ++ [y]) → W.grownBy w' v.ownBlock → wpList Tryz.prog ops Q rest (a.put o.dst v') w') : wpList Tryz.prog ops Q (o :: rest) a W := by
  subst hn
  obtain ⟨i0, hi0, hi1, hi2, hi3⟩ := info_parts hinfo
  refine wpList_append_own W hgd s x T ho base e i0 z C bytes hT hi0 hi1 hi2 hi3 hzs hC0 v l.length _ hs h ⟨g, 0, none⟩ 1 1 (f y) hx (by rw [hC y, Nat.one_mul]) (fun j u hu => by rw [Addr.add_lit, Nat.zero_add]; exact hcell j u hu) (h1 y)
    (by simp only [maxLen]; omega) ?_ hbase fun v' w' h3 h4 _ => k v' w' (by
      show w'.ownsRow base _ C v' (l ++ [y]).length (((l ++ [y]).map f).flatten)
      rw [List.length_append, List.map_append, List.flatten_append]
      simpa using h3) h4
  have : (l.length + 1) * bytes ≤ 1048577 * 64 := Nat.mul_le_mul (by omega) hby
  omega
def strC (s : ByteArray) : List Value := [.string s]
def intC (n : Int) : List Value := [.int .i64 n]
structure Sl3 where
  p : Option Addr
  n : Nat
  c : Nat
def Sl3.v (x : Sl3) : Value := .slice x.p x.n x.c
def slC (x : Sl3) : List Value := [.slice x.p x.n x.c]
def endC (e : End') : List Value := [.int .i64 e.sw, .int .i64 e.po]
def endV (e : End') : Value := .agg #[.int .i64 e.sw, .int .i64 e.po]
def linkC (x : End' × End') : List Value := [.int .i64 x.1.sw, .int .i64 x.1.po, .int .i64 x.2.sw, .int .i64 x.2.po]
theorem str_info : (Tryz.prog.info? 9).map (fun i => (i.zero, i.size, i.bytes)) = some (some (.string ⟨#[]⟩), 1, 16) := by kernel_rfl
theorem num_info : (Tryz.prog.info? 3).map (fun i => (i.zero, i.size, i.bytes)) = some (some (.int .i64 0), 1, 8) := by kernel_rfl
theorem sli_info : (Tryz.prog.info? 39).map (fun i => (i.zero, i.size, i.bytes)) = some (some (.slice none 0 0), 1, 24) := by kernel_rfl
theorem end_info : (Tryz.prog.info? 41).map (fun i => (i.zero, i.size, i.bytes)) = some (some (.agg #[.int .i64 0, .int .i64 0]), 2, 16) := by kernel_rfl
theorem link_info : (Tryz.prog.info? 68).map (fun i => (i.zero, i.size, i.bytes)) = some (some (.agg #[.int .i64 0, .int .i64 0, .int .i64 0, .int .i64 0]), 4, 32) := by kernel_rfl
theorem strC_one (y : ByteArray) : ∀ u ∈ strC y, u.oneCell' = true := by intro u hu; simp only [strC, List.mem_cons, List.not_mem_nil, or_false] at hu; subst hu; rfl
theorem intC_one (y : Int) : ∀ u ∈ intC y, u.oneCell' = true := by intro u hu; simp only [intC, List.mem_cons, List.not_mem_nil, or_false] at hu; subst hu; rfl
theorem slC_one (y : Sl3) : ∀ u ∈ slC y, u.oneCell' = true := by intro u hu; simp only [slC, List.mem_cons, List.not_mem_nil, or_false] at hu; subst hu; rfl
theorem endC_one (y : End') : ∀ u ∈ endC y, u.oneCell' = true := by intro u hu; simp only [endC, List.mem_cons, List.not_mem_nil, or_false] at hu; rcases hu with rfl | rfl <;> rfl
theorem linkC_one (y : End' × End') : ∀ u ∈ linkC y, u.oneCell' = true := by intro u hu; simp only [linkC, List.mem_cons, List.not_mem_nil, or_false] at hu; rcases hu with rfl | rfl | rfl | rfl <;> rfl
theorem strC_len (y : ByteArray) : (strC y).length = 1 := rfl
theorem intC_len (y : Int) : (intC y).length = 1 := rfl
theorem slC_len (y : Sl3) : (slC y).length = 1 := rfl
theorem endC_len (y : End') : (endC y).length = 2 := rfl
theorem linkC_len (y : End' × End') : (linkC y).length = 4 := rfl
theorem step_lt (k n : Nat) (h : k < n) : n - (intOf (Value.int .i64 ((k : Int) + 1))).toNat < n - (intOf (Value.int .i64 (k : Int))).toNat := by
  show n - ((k : Int) + 1).toNat < n - ((k : Int)).toNat
  omega
set_option maxHeartbeats 1000000 in
theorem dc_has1 {w : World} (v : Value) (zs : List Int) (x : Int) (h : Lies w 1 intC v zs) (hb : zs.length ≤ 1048576) :
    Calls Tryz.prog 49 #[v, .int .i64 x] w (Back w (.bool (decide (x ∈ zs)))) := by
  obtain ⟨p, c, rfl, hc⟩ := h
  obtain ⟨n, hn⟩ : ∃ n, zs.length = n := ⟨_, rfl⟩
  rw [hn] at hb ⊢
  have hn' := Lib.hid hn
  have hc' := Lib.hid hc
  obtain ⟨B, hB⟩ : ∃ B, decide (x ∈ zs) = B := ⟨_, rfl⟩
  rw [hB]
  replace hB := Lib.hid hB
  clear hc hn
  go_enter Tryz.func49, Tryz.ntmps49
  go_wp2
  go_loopw [5] (fun iv wr => ∃ k : Nat, k ≤ n ∧ iv = .int .i64 (k : Int) ∧ wr = w ∧ Hid (∀ j, j < k → zs[j]? ≠ some x)) (fun iv _ => n - (intOf iv).toNat)
  case atStart => exact ⟨0, Nat.zero_le _, rfl, rfl, fun j hj => absurd hj (Nat.not_lt_zero _)⟩
  case round =>
    obtain ⟨k, hk, rfl, rfl, hno⟩ := hrel
    by_cases hlt : k < n
    · obtain ⟨q, hq⟩ : ∃ q, zs[k]? = some q := ⟨zs[k]'(by rw [hn'.out]; exact hlt), List.getElem?_eq_getElem _⟩
      obtain ⟨g, rfl, hg, hcell⟩ := hc'.out k q hq
      have c0 := hcell 0 _ rfl
      simp only [Nat.mul_one, Nat.add_zero] at c0
      have kw := Lib.hid (net_succ k n hlt (by omega))
      have hq' := Lib.hid hq
      clear hcell hq
      by_cases hqx : q = x
      · obtain rfl : B = true := by rw [← hB.out, decide_eq_true_eq, ← hqx]; exact List.mem_of_getElem? hq'.out
        have e := Lib.hid hqx
        have e1 : (q == x) = true := by simp [hqx]
        clear hqx
        go_wp2
        go_ret
        exact ⟨rfl, ⟨#[], wr.drawn⟩, (plus_self wr).symm⟩
      · have e1 : (q == x) = false := by simp [hqx]
        have e := Lib.hid hqx
        clear hqx
        go_wp2
        refine ⟨⟨k + 1, hlt, congrArg (Value.int .i64) (by omega), trivial, Lib.hid fun j hj => ?_⟩, step_lt k n hlt⟩
        by_cases hjk : j = k
        · subst hjk; rw [hq'.out]; intro h; exact e.out (Option.some.inj h)
        · exact hno.out j (by omega)
    · obtain rfl : k = n := by omega
      obtain rfl : B = false := by
        rw [← hB.out, decide_eq_false_iff_not]
        intro hm
        obtain ⟨j, hj⟩ := List.mem_iff_getElem?.1 hm
        exact hno.out j (by have := (List.getElem?_eq_some_iff.1 hj).1; have := hn'.out; omega) hj
      go_wp2
      go_ret
      exact ⟨rfl, ⟨#[], wr.drawn⟩, (plus_self wr).symm⟩
theorem findF_hit {names : List ByteArray} {x : ByteArray} {k : Nat} (h : names[k]? = some x) (hno : ∀ j, j < k → names[j]? ≠ some x) : findF names x = (k : Int) := by
  unfold findF
  have hk := (List.getElem?_eq_some_iff.1 h).1
  have : names.findIdx? (fun y => decide (y = x)) = some k := by
    rw [List.findIdx?_eq_some_iff_getElem]
    refine ⟨hk, by rw [decide_eq_true_eq]; exact (List.getElem?_eq_some_iff.1 h).2, fun j hj => ?_⟩
    have hne := hno j hj
    rw [List.getElem?_eq_getElem (by omega)] at hne
    rw [decide_eq_true_eq]
    exact fun e => hne (congrArg some e)
  rw [this]
theorem findF_miss {names : List ByteArray} {x : ByteArray} (hno : ∀ j, j < names.length → names[j]? ≠ some x) : findF names x = -1 := by
  unfold findF
  have : names.findIdx? (fun y => decide (y = x)) = none := by
    rw [List.findIdx?_eq_none_iff]
    intro y hy
    obtain ⟨j, hj⟩ := List.mem_iff_getElem?.1 hy
    rw [decide_eq_false_iff_not]
    exact fun e => hno j (List.getElem?_eq_some_iff.1 hj).1 (by rw [hj, e])
  rw [this]
set_option maxHeartbeats 1000000 in
theorem dc_find {w : World} (v : Value) (names : List ByteArray) (x : ByteArray) (p2 p3 : Option Addr) (n2 c2 n3 c3 : Nat) (h : Lies w 1 strC v names) (hb : names.length ≤ 1048576) :
    Calls Tryz.prog 23 #[.agg #[v, .slice p2 n2 c2, .slice p3 n3 c3], .string x] w (Back w (.int .i64 (findF names x))) := by
  obtain ⟨p, c, rfl, hc⟩ := h
  obtain ⟨n, hn⟩ : ∃ n, names.length = n := ⟨_, rfl⟩
  rw [hn] at hb ⊢
  have hn' := Lib.hid hn
  have hc' := Lib.hid hc
  obtain ⟨R, hR⟩ : ∃ R, findF names x = R := ⟨_, rfl⟩
  rw [hR]
  replace hR := Lib.hid hR
  obtain ⟨W, hW, hB, hz, ca, fa⟩ := box1 w #[.slice p n c, .slice p2 n2 c2, .slice p3 n3 c3] 27
  have a0 := ca 0 _ rfl ⟨#[], W.drawn⟩
  rw [plus_self] at a0
  have hB' := Lib.hid hB
  clear hc hn ca fa hB hz
  go_enter Tryz.func23, Tryz.ntmps23
  go_upto_region 1 with (fail)
  rw [← hW]
  clear hW
  go_wp2
  go_loopw [5] (fun iv wr => ∃ k : Nat, k ≤ n ∧ iv = .int .i64 (k : Int) ∧ wr = W ∧ Hid (∀ j, j < k → names[j]? ≠ some x)) (fun iv _ => n - (intOf iv).toNat)
  case atStart => exact ⟨0, Nat.zero_le _, rfl, rfl, fun j hj => absurd hj (Nat.not_lt_zero _)⟩
  case round =>
    obtain ⟨k, hk, rfl, rfl, hno⟩ := hrel
    by_cases hlt : k < n
    · obtain ⟨q, hq⟩ : ∃ q, names[k]? = some q := ⟨names[k]'(by rw [hn'.out]; exact hlt), List.getElem?_eq_getElem _⟩
      obtain ⟨g, rfl, hg, hcell⟩ := hc'.out k q hq
      have c0 := (hB'.out.cell (p := ⟨g, k, none⟩) hg).trans (by simpa using hcell 0 _ rfl)
      have hq' := Lib.hid hq
      have e0 := bytes_beq q x
      clear hcell hq
      by_cases hqx : q = x
      · rw [decide_eq_true hqx] at e0
        have hRk := Lib.hid (hR.out.symm.trans (findF_hit (by rw [hq'.out, hqx]) hno.out))
        clear hqx
        go_wp2
        go_ret
        exact ⟨by rw [hRk.out]; rfl, plus_of_below hB'.out⟩
      · rw [decide_eq_false hqx] at e0
        have e := Lib.hid hqx
        clear hqx
        go_wp2
        refine ⟨⟨k + 1, hlt, congrArg (Value.int .i64) (by omega), trivial, Lib.hid fun j hj => ?_⟩, step_lt k n hlt⟩
        by_cases hjk : j = k
        · subst hjk; rw [hq'.out]; intro h; exact e.out (Option.some.inj h)
        · exact hno.out j (by omega)
    · obtain rfl : k = n := by omega
      have hRk := Lib.hid (hR.out.symm.trans (findF_miss (fun j hj => hno.out j (by have := hn'.out; omega))))
      go_wp2
      go_ret
      exact ⟨by rw [hRk.out]; rfl, plus_of_below hB'.out⟩
end Go.Proofs.YtkffjjlmoojffaaGreatDoor
