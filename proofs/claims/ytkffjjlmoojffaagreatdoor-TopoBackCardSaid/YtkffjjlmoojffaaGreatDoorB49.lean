/-
  WHAT IS PROVED HERE: a part of the proof of the claim's theorem: Opn.
-/
import Derived.Test.YtkffjjlmoojffaaGreatDoorRows
import Derived.Test.YtkffjjlmoojffaaGreatDoorB24
import Derived.Deep.Slices
import Derived.Deep.Fields
import Derived.ChangeSame
import Derived.SizedLaws
import Derived.WalkKit
import Derived.Lib.Hide
import Derived.WalkSpells
import Derived.WalkLawsBesides
set_option linter.all false
namespace Go.Proofs.YtkffjjlmoojffaaGreatDoor
open Go.ChangeShapes Go.WideShapes Go.RowKit Go.Deep
def CellsAt (w : World) (a : Addr) (cs : List Value) : Prop := ∀ j v, cs[j]? = some v → w.cell? (a.add j) = some v
def RowAt {α : Type} (w : World) (C : Nat) (cells : α → List Value) (p : Option Addr) (l : List α) : Prop :=
  ∀ i x, l[i]? = some x → ∃ a, p = some a ∧ CellsAt w (a.add (i * C)) (cells x)
theorem block_in {w : World} {a : Addr} {v : Value} (h : w.cell? a = some v) : a.block < w.heap.size := by
  by_cases hb : a.block < w.heap.size
  · exact hb
  · unfold World.cell? at h
    rw [Array.getElem?_eq_none (by omega)] at h
    cases h
theorem cell_keep {w : World} {a : Addr} {v : Value} (h : w.cell? a = some v) (x : Ext) : (plus w x).cell? a = some v :=
  ((below_plus w x).cell (p := a) (block_in h)).trans h
theorem CellsAt.plus {w : World} {a : Addr} {cs : List Value} (h : CellsAt w a cs) (x : Ext) : CellsAt (plus w x) a cs := fun j v hj => cell_keep (h j v hj) x
theorem RowAt.plus {α : Type} {w : World} {C : Nat} {cells : α → List Value} {p : Option Addr} {l : List α} (h : RowAt w C cells p l) (x : Ext) : RowAt (plus w x) C cells p l := fun i y hi => by
  obtain ⟨a, ha, hc⟩ := h i y hi
  exact ⟨a, ha, hc.plus x⟩
theorem weights_all {H : Type} {P : Program} {e : TypeId} {n : Nat} : ∀ {l : List (DataW H)} {d : DataW H}, d ∈ l → n ∈ d.weights P e → n ∈ DataW.weightsAll P e l
  | [], _, h, _ => by cases h
  | x :: l, d, h, hn => by
    rw [DataW.weightsAll, List.mem_append]
    rcases List.mem_cons.1 h with rfl | h
    · exact Or.inl hn
    · exact Or.inr (weights_all h hn)
section
variable {H : Type} {enc : TypeId × Value → H} {P : Program} {w : World} {base : Nat} {spare : Nat → Bool} {held : Bool}
def OpensW (enc : TypeId × Value → H) (P : Program) (w : World) (base : Nat) (spare : Nat → Bool) (held : Bool) (fuel : Nat) (t : TypeId) {α : Type} (cells : α → List Value) (In : α → Prop) : Prop :=
  ∀ cs x, DataW.trod enc P w base spare held fuel t cs = some x → (∀ m ∈ x.1.weights P t, m ≤ reachBytes) → ∃ e : α, cs = cells e ∧ In e
theorem open_row {t e : TypeId} {C fuel : Nat} {α : Type} {cells : α → List Value} {In : α → Prop} {cs : List Value} {x : DataW H × List MemPlace} (ht : P.underlying t = some (.slice e)) (hC : P.cellsOf e = C) (hby : 1 ≤ P.bytesOf e)
    (ho : ∀ n, n < fuel → OpensW enc P w base spare held n e cells In) (h : DataW.trod enc P w base spare held fuel t cs = some x) (hw : ∀ m ∈ x.1.weights P t, m ≤ reachBytes) :
    ∃ (p : Option Addr) (cap : Nat) (l : List α), cs = [.slice p l.length cap] ∧ l.length ≤ cap ∧ l.length ≤ reachBytes ∧ RowAt w C cells p l ∧ (∀ y ∈ l, In y) := by
  subst hC
  rcases DataW.trod_slice ht h with ⟨rfl, rfl⟩ | ⟨a, len, cap, elems, rest, n, rfl, rfl, rfl, hb, hl, hm, hlen, hel, _, _⟩
  · exact ⟨none, 0, [], rfl, Nat.le_refl _, Nat.zero_le _, fun i x hi => by simp at hi, fun y hy => by simp at hy⟩
  · have hw1 : (elems.length + rest.length) * P.bytesOf e ≤ reachBytes := hw _ (by simp [DataW.weights, ht])
    have hlr : len ≤ reachBytes := by
      have : elems.length + rest.length ≤ (elems.length + rest.length) * P.bytesOf e := Nat.le_mul_of_pos_right _ hby
      omega
    have hwe : ∀ z ∈ elems, ∀ m ∈ z.1.weights P e, m ≤ reachBytes := fun z hz m hm => hw m (by
      simp only [DataW.weights, ht, List.mem_cons, List.mem_append]
      exact Or.inr (Or.inl (weights_all (List.mem_map_of_mem hz) hm)))
    have key : ∀ i, i < len → ∃ y : α, CellsAt w (a.add (i * P.cellsOf e)) (cells y) ∧ In y := by
      intro i hi
      have hz : elems[i]? = some (elems[i]'(by omega)) := List.getElem?_eq_getElem (by omega)
      have := hel i hi
      rw [hz] at this
      obtain ⟨cs', h1, h2⟩ := Option.bind_eq_some_iff.1 this
      obtain ⟨y, hy, hin⟩ := ho n (Nat.lt_succ_self n) cs' _ h2 (hwe _ (List.getElem_mem _))
      obtain ⟨_, hcl, hat⟩ := World.cells?_some h1
      refine ⟨y, fun j v hj => ?_, hin⟩
      rw [← hy] at hj
      have hjl : j < cs'.length := (List.getElem?_eq_some_iff.1 hj).1
      rw [hat j (by omega), hj]
    clear hel h ho hw hw1 hwe
    have : ∃ l : List α, l.length = len ∧ ∀ i y, l[i]? = some y → CellsAt w (a.add (i * P.cellsOf e)) (cells y) ∧ In y := by
      by_cases h0 : len = 0
      · exact ⟨[], by simp [h0], fun i y hi => by simp at hi⟩
      · obtain ⟨y0, _⟩ := key 0 (by omega)
        haveI : Inhabited α := ⟨y0⟩
        obtain ⟨f, hf⟩ := choose_lt key
        refine ⟨(List.range len).map f, by simp, fun i y hi => ?_⟩
        simp only [List.getElem?_map] at hi
        by_cases hil : i < len
        · rw [List.getElem?_range hil] at hi
          simp only [Option.map_some, Option.some.injEq] at hi
          subst hi
          exact hf i hil
        · rw [List.getElem?_eq_none (by simpa using hil)] at hi
          simp at hi
    obtain ⟨l, hll, hl'⟩ := this
    refine ⟨some a, cap, l, by rw [hll], by omega, by omega, fun i y hi => ⟨a, rfl, (hl' i y hi).1⟩, fun y hy => ?_⟩
    obtain ⟨i, hi⟩ := List.mem_iff_getElem?.1 hy
    exact (hl' i y hi).2
end
structure Sl (α : Type) where
  p : Option Addr
  cap : Nat
  l : List α
def Sl.v {α : Type} (s : Sl α) : Value := .slice s.p s.l.length s.cap
structure Sl.In {α : Type} (w : World) (C : Nat) (cells : α → List Value) (K : α → Prop) (s : Sl α) : Prop where
  len : s.l.length ≤ s.cap
  lim : s.l.length ≤ reachBytes
  row : RowAt w C cells s.p s.l
  kids : ∀ y ∈ s.l, K y
section
variable {H : Type} {enc : TypeId × Value → H} {w : World} {base : Nat} {spare : Nat → Bool} {held : Bool}
theorem open_sl {P : Program} {t e : TypeId} {C fuel : Nat} {α : Type} {cells : α → List Value} {In : α → Prop} {cs : List Value} {x : DataW H × List MemPlace} (ht : P.underlying t = some (.slice e)) (hC : P.cellsOf e = C) (hby : 1 ≤ P.bytesOf e)
    (ho : ∀ n, n < fuel → OpensW enc P w base spare held n e cells In) (h : DataW.trod enc P w base spare held fuel t cs = some x) (hw : ∀ m ∈ x.1.weights P t, m ≤ reachBytes) :
    ∃ s : Sl α, cs = [s.v] ∧ s.In w C cells In := by
  obtain ⟨p, cap, l, h1, h2, h3, h4, h5⟩ := open_row ht hC hby ho h hw
  exact ⟨⟨p, cap, l⟩, h1, ⟨h2, h3, h4, h5⟩⟩
end
theorem spot_none {w : World} {a : Addr} {v : Value} (h : w.cell? a = some v) : a.spot = none := by
  obtain ⟨b, o, sp⟩ := a
  cases sp with
  | none => rfl
  | some q =>
    exfalso
    unfold World.cell? at h
    revert h
    simp only
    split <;> simp
theorem RowAt.base {α : Type} {w : World} {C : Nat} {cells : α → List Value} {p : Option Addr} {l : List α} {x : α} {v : Value} (h : RowAt w C cells p l) (hx : l[0]? = some x) (hc : (cells x)[0]? = some v) : ∃ g o, p = some ⟨g, o, none⟩ := by
  obtain ⟨a, ha, hat⟩ := h 0 x hx
  have h1 := hat 0 v hc
  rw [Nat.zero_mul] at h1
  have h2 : w.cell? a = some v := h1
  have h3 := spot_none h2
  obtain ⟨b, o, sp⟩ := a
  simp only at h3
  subst h3
  exact ⟨b, o, ha⟩
theorem add_flat (g o n : Nat) : (⟨g, o, none⟩ : Addr).add n = ⟨g, o + n, none⟩ := by
  unfold Addr.add
  split
  · rename_i h; rw [h]; rfl
  · rfl
def slCells {α : Type} (s : Sl α) : List Value := [s.v]
theorem cI : Tryz.prog.cellsOf 3 = 1 := by kernel_rfl
theorem cS : Tryz.prog.cellsOf 9 = 1 := by kernel_rfl
theorem cIs : Tryz.prog.cellsOf 39 = 1 := by kernel_rfl
theorem cSs : Tryz.prog.cellsOf 23 = 1 := by kernel_rfl
theorem cIss : Tryz.prog.cellsOf 24 = 1 := by kernel_rfl
theorem cLs : Tryz.prog.cellsOf 25 = 1 := by kernel_rfl
theorem cEn : Tryz.prog.cellsOf 41 = 2 := by kernel_rfl
theorem cLk : Tryz.prog.cellsOf 68 = 4 := by kernel_rfl
theorem cNt : Tryz.prog.cellsOf 27 = 3 := by kernel_rfl
theorem bI : 1 ≤ Tryz.prog.bytesOf 3 := of_decide_eq_true (by kernel_rfl)
theorem bS : 1 ≤ Tryz.prog.bytesOf 9 := of_decide_eq_true (by kernel_rfl)
theorem bIs : 1 ≤ Tryz.prog.bytesOf 39 := of_decide_eq_true (by kernel_rfl)
theorem bLk : 1 ≤ Tryz.prog.bytesOf 68 := of_decide_eq_true (by kernel_rfl)
section
variable {H : Type} {enc : TypeId × Value → H} {w : World} {base : Nat} {spare : Nat → Bool} {held : Bool}
theorem open_int {fuel : Nat} : OpensW enc Tryz.prog w base spare held fuel 3 intC (fun _ => True) := by
  intro cs x h _
  obtain ⟨v, e, q, hs⟩ := DataW.trod_int Tryz.underlying3 h
  exact ⟨v, e, trivial⟩
theorem open_str {fuel : Nat} : OpensW enc Tryz.prog w base spare held fuel 9 strC (fun _ => True) := by
  intro cs x h _
  obtain ⟨s, e, q, hs⟩ := DataW.trod_string Tryz.underlying9 h
  exact ⟨s, e, trivial⟩
theorem open_Ints {fuel : Nat} : OpensW enc Tryz.prog w base spare held fuel 39 slCells (fun s : Sl Int => s.In w 1 intC (fun _ => True)) := by
  intro cs x h hw
  exact open_sl Tryz.underlying39 cI bI (fun _ _ => open_int) h hw
set_option maxRecDepth 100000 in
theorem open_End {fuel : Nat} : OpensW enc Tryz.prog w base spare held fuel 41 endC (fun _ => True) := by
  intro cs x h _
  obtain ⟨xs, n, rfl, rfl, hcl, hxl, hf⟩ := DataW.trod_struct (P := Tryz.prog) Tryz.underlying41 h
  have hcl' : cs.length = 2 := hcl.trans cEn
  clear hcl h
  match cs, hcl' with
  | [c0, c1], _ =>
    match xs, hxl with
    | [x0, x1], _ =>
      have h0 : DataW.trod enc Tryz.prog w base spare held n 3 [c0] = some x0 := by simpa [cI] using hf 0 _ rfl
      obtain ⟨v0, e0, q0, w0⟩ := DataW.trod_int Tryz.underlying3 h0
      obtain rfl := List.head_eq_of_cons_eq e0
      have h1 : DataW.trod enc Tryz.prog w base spare held n 3 [c1] = some x1 := by simpa [cI] using hf 1 _ rfl
      obtain ⟨v1, e1, q1, w1⟩ := DataW.trod_int Tryz.underlying3 h1
      obtain rfl := List.head_eq_of_cons_eq e1
      exact ⟨⟨v0, v1⟩, rfl, trivial⟩
set_option maxRecDepth 100000 in
theorem open_Link {fuel : Nat} : OpensW enc Tryz.prog w base spare held fuel 68 linkC (fun _ => True) := by
  intro cs x h hw
  obtain ⟨xs, n, rfl, rfl, hcl, hxl, hf⟩ := DataW.trod_struct (P := Tryz.prog) Tryz.underlying68 h
  have hcl' : cs.length = 4 := hcl.trans cLk
  clear hcl h
  match cs, hcl' with
  | [c0, c1, c2, c3], _ =>
    match xs, hxl with
    | [x0, x1], _ =>
      have hw' : ∀ m ∈ DataW.weightsEach Tryz.prog [41, 41] [x0.1, x1.1], m ≤ reachBytes := fun m hm => hw m (by simpa [DataW.weights, Tryz.underlying68] using hm)
      have h0 : DataW.trod enc Tryz.prog w base spare held n 41 [c0, c1] = some x0 := by simpa [cEn] using hf 0 _ rfl
      obtain ⟨v0, e0, -⟩ := open_End _ _ h0 (fun m hm => hw' m (DataW.weights_mem_each (j := 0) rfl rfl m hm))
      simp only [endC, List.cons.injEq, and_true] at e0
      obtain ⟨rfl, rfl⟩ := e0
      have h1 : DataW.trod enc Tryz.prog w base spare held n 41 [c2, c3] = some x1 := by simpa [cEn] using hf 1 _ rfl
      obtain ⟨v1, e1, -⟩ := open_End _ _ h1 (fun m hm => hw' m (DataW.weights_mem_each (j := 1) rfl rfl m hm))
      simp only [endC, List.cons.injEq, and_true] at e1
      obtain ⟨rfl, rfl⟩ := e1
      exact ⟨⟨v0, v1⟩, rfl, trivial⟩
structure NetS where
  a : Sl ByteArray
  b : Sl (Sl Int)
  c : Sl (End' × End')
def NetS.cells (x : NetS) : List Value := [x.a.v, x.b.v, x.c.v]
structure NetS.In (w : World) (x : NetS) : Prop where
  a : x.a.In w 1 strC (fun _ => True)
  b : x.b.In w 1 slCells (fun s : Sl Int => s.In w 1 intC (fun _ => True))
  c : x.c.In w 4 linkC (fun _ => True)
set_option maxRecDepth 100000 in
theorem open_Net {fuel : Nat} : OpensW enc Tryz.prog w base spare held fuel 27 NetS.cells (NetS.In w) := by
  intro cs x h hw
  obtain ⟨xs, n, rfl, rfl, hcl, hxl, hf⟩ := DataW.trod_struct (P := Tryz.prog) Tryz.underlying27 h
  have hcl' : cs.length = 3 := hcl.trans cNt
  clear hcl h
  match cs, hcl' with
  | [c0, c1, c2], _ =>
    match xs, hxl with
    | [x0, x1, x2], _ =>
      have hw' : ∀ m ∈ DataW.weightsEach Tryz.prog [23, 24, 25] [x0.1, x1.1, x2.1], m ≤ reachBytes := fun m hm => hw m (by simpa [DataW.weights, Tryz.underlying27] using hm)
      have h0 : DataW.trod enc Tryz.prog w base spare held n 23 [c0] = some x0 := by simpa [cSs] using hf 0 _ rfl
      obtain ⟨v0, e0, w0⟩ := open_sl Tryz.underlying23 cS bS (fun _ _ => open_str) h0 (fun m hm => hw' m (DataW.weights_mem_each (j := 0) rfl rfl m hm))
      obtain rfl := List.head_eq_of_cons_eq e0
      have h1 : DataW.trod enc Tryz.prog w base spare held n 24 [c1] = some x1 := by simpa [cSs, cIss] using hf 1 _ rfl
      obtain ⟨v1, e1, w1⟩ := open_sl Tryz.underlying24 cIs bIs (fun _ _ => open_Ints) h1 (fun m hm => hw' m (DataW.weights_mem_each (j := 1) rfl rfl m hm))
      obtain rfl := List.head_eq_of_cons_eq e1
      have h2 : DataW.trod enc Tryz.prog w base spare held n 25 [c2] = some x2 := by simpa [cSs, cIss, cLs] using hf 2 _ rfl
      obtain ⟨v2, e2, w2⟩ := open_sl Tryz.underlying25 cLk bLk (fun _ _ => open_Link) h2 (fun m hm => hw' m (DataW.weights_mem_each (j := 2) rfl rfl m hm))
      obtain rfl := List.head_eq_of_cons_eq e2
      exact ⟨⟨v0, v1, v2⟩, rfl, ⟨w0, w1, w2⟩⟩
end
theorem Sl.In.liesO {α : Type} {w : World} {C : Nat} {cells : α → List Value} {K : α → Prop} {s : Sl α} (h : s.In w C cells K) (h1 : ∀ x, ∃ v, (cells x)[0]? = some v) : LiesO w C cells s.v s.l := by
  refine ⟨s.p, s.cap, rfl, fun i x hx => ?_⟩
  have hi := (List.getElem?_eq_some_iff.1 hx).1
  obtain ⟨x0, hx0⟩ : ∃ x0, s.l[0]? = some x0 := ⟨_, List.getElem?_eq_getElem (by omega)⟩
  obtain ⟨v0, hv0⟩ := h1 x0
  obtain ⟨g, o, hp⟩ := h.row.base hx0 hv0
  obtain ⟨a, ha, hc⟩ := h.row i x hx
  rw [hp] at ha
  obtain rfl := Option.some.inj ha
  obtain ⟨v, hv⟩ := h1 x
  have hb : g < w.heap.size := by
    have := block_in (hc 0 v hv)
    rw [add_flat, add_flat] at this
    exact this
  refine ⟨g, o, hp, hb, fun j u hu => ?_⟩
  have := hc j u hu
  rw [add_flat, add_flat] at this
  exact this
def NetS.net (x : NetS) : Net' := ⟨x.a.l, x.b.l.map (·.l), x.c.l⟩
def NetS.pvs (x : NetS) : List Sl3 := x.b.l.map fun s => ⟨s.p, s.l.length, s.cap⟩
theorem NetS.In.netO {w : World} {x : NetS} (h : x.In w) : NetO w x.a.v x.b.v x.c.v x.pvs x.net := by
  have hmax : reachBytes ≤ 281474976710656 := by decide
  have lb : ∀ {α : Type} {C : Nat} {cells : α → List Value} {K : α → Prop} {s : Sl α}, s.In w C cells K → s.l.length ≤ 281474976710656 := fun h => Nat.le_trans h.lim hmax
  refine ⟨?_, h.a.liesO (fun x => ⟨_, rfl⟩), ⟨?_, ?_, ?_⟩, h.c.liesO (fun x => ⟨_, rfl⟩), lb h.a, ?_, lb h.c⟩
  · intro p m c hv
    have : Value.slice x.a.p x.a.l.length x.a.cap = .slice p m c := hv
    simp only [Value.slice.injEq] at this
    have := h.a.len
    omega
  · obtain ⟨p, c, hv, hl⟩ := h.b.liesO (fun x => ⟨_, rfl⟩)
    refine ⟨p, c, by rw [hv]; unfold NetS.pvs; rw [List.length_map], fun i y hy => ?_⟩
    unfold NetS.pvs at hy
    rw [List.getElem?_map, Option.map_eq_some_iff] at hy
    obtain ⟨s, hs, rfl⟩ := hy
    exact hl i s hs
  · unfold NetS.pvs NetS.net; rw [List.length_map, List.length_map]
  · intro i y ps hy hps
    unfold NetS.pvs at hy
    unfold NetS.net at hps
    simp only at hps
    rw [List.getElem?_map, Option.map_eq_some_iff] at hy hps
    obtain ⟨s, hs, rfl⟩ := hy
    obtain ⟨s', hs', rfl⟩ := hps
    obtain rfl := Option.some.inj (hs.symm.trans hs')
    have hk := h.b.kids s (List.mem_of_getElem? hs)
    exact ⟨hk.liesO (fun x => ⟨_, rfl⟩), lb hk⟩
  · unfold NetS.net; rw [List.length_map]; exact lb h.b
end Go.Proofs.YtkffjjlmoojffaaGreatDoor
