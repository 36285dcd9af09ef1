/-
  WHAT IS PROVED HERE: a slice that came in, of whatever, opened to a list whose elements lie in memory; and an expression tree opened so, whatever its depth.
-/
import Derived.Test.YtpnaibfefpeikaaRows
import Derived.Test.YtpnaibfefpeikaaKit
import Derived.Deep.Slices
import Derived.Deep.Fields
import Derived.ChangeSame
namespace Go.Proofs.Ytpnaibfefpeikaa
open Go.ChangeShapes Go.WideShapes Go.RowKit Go.Deep

/-- The cells of a thing stand from an address on. -/
def CellsAt (w : World) (a : Addr) (cs : List Value) : Prop := ∀ j v, cs[j]? = some v → w.cell? (a.add j) = some v
/-- The things of a list stand side by side from an address on, each of C cells. -/
def RowAt {α : Type} (w : World) (C : Nat) (cells : α → List Value) (p : Option Addr) (l : List α) : Prop :=
  ∀ i x, l[i]? = some x → ∃ a, p = some a ∧ CellsAt w (a.add (i * C)) (cells x)

theorem block_in {w : World} {a : Addr} {v : Value} (h : w.cell? a = some v) : a.block < w.heap.size := by
  by_cases hb : a.block < w.heap.size
  · exact hb
  · unfold World.cell? at h
    rw [Array.getElem?_eq_none (by omega)] at h
    cases h
theorem cell_keep {w : World} {a : Addr} {v : Value} (h : w.cell? a = some v) (x : Ext) : (plus w x).cell? a = some v :=
  ((below_plus w x).cell (p := a) (block_in h)).trans h
theorem CellsAt.plus {w : World} {a : Addr} {cs : List Value} (h : CellsAt w a cs) (x : Ext) : CellsAt (plus w x) a cs := fun j v hj => cell_keep (h j v hj) x
theorem RowAt.plus {α : Type} {w : World} {C : Nat} {cells : α → List Value} {p : Option Addr} {l : List α} (h : RowAt w C cells p l) (x : Ext) : RowAt (plus w x) C cells p l := fun i y hi => by
  obtain ⟨a, ha, hc⟩ := h i y hi
  exact ⟨a, ha, hc.plus x⟩

theorem bulkAll_map {H : Type} {α β : Type} (size : α → Nat) (f : β → DataW H) : ∀ (l : List α) (ys : List β), l.length = ys.length → (∀ (i : Nat) (x : α) (y : β), l[i]? = some x → ys[i]? = some y → size x ≤ Rows.uptoBulk (f y)) → (l.map size).sum ≤ Rows.uptoBulkAll (ys.map f)
  | [], [], _, _ => by simp [Rows.uptoBulkAll]
  | [], _ :: _, h, _ => by simp at h
  | _ :: _, [], h, _ => by simp at h
  | x :: l, y :: ys, h, hs => by
    have h0 := hs 0 x y rfl rfl
    have h1 := bulkAll_map size f l ys (by simpa using h) fun i x' y' e e' => hs (i + 1) x' y' (by simpa using e) (by simpa using e')
    simp only [List.map_cons, List.sum_cons, Rows.uptoBulkAll]
    omega

section
variable {H : Type} {enc : TypeId × Value → H} {P : Program} {w : World} {base : Nat} {spare : Nat → Bool} {held : Bool}

/-- What reads as data of a type is a thing of ours. -/
def Opens (enc : TypeId × Value → H) (P : Program) (w : World) (base : Nat) (spare : Nat → Bool) (held : Bool) (fuel : Nat) (t : TypeId) {α : Type} (cells : α → List Value) (In : α → Prop) (size : α → Nat) : Prop :=
  ∀ cs x, DataW.trod enc P w base spare held fuel t cs = some x → ∃ e : α, cs = cells e ∧ In e ∧ size e ≤ Rows.uptoBulk x.1

theorem open_row {t e : TypeId} {C fuel : Nat} {α : Type} {cells : α → List Value} {In : α → Prop} {size : α → Nat} {cs : List Value} {x : DataW H × List MemPlace} (ht : P.underlying t = some (.slice e)) (hC : P.cellsOf e = C)
    (ho : ∀ n, n < fuel → Opens enc P w base spare held n e cells In size) (h : DataW.trod enc P w base spare held fuel t cs = some x) :
    ∃ (p : Option Addr) (cap : Nat) (l : List α), cs = [.slice p l.length cap] ∧ l.length ≤ cap ∧ cap ≤ maxLen ∧ RowAt w C cells p l ∧ (∀ y ∈ l, In y) ∧ (l.map size).sum + 1 ≤ Rows.uptoBulk x.1 := by
  subst hC
  rcases DataW.trod_slice ht h with ⟨rfl, rfl⟩ | ⟨a, len, cap, elems, rest, n, rfl, rfl, rfl, hb, hl, hm, hlen, hel, _, _⟩
  · exact ⟨none, 0, [], rfl, Nat.le_refl _, Nat.zero_le _, fun i x hi => by simp at hi, fun y hy => by simp at hy, by simp [Rows.uptoBulk]⟩
  · have key : ∀ i, i < len → ∃ y : α, ∃ z, elems[i]? = some z ∧ CellsAt w (a.add (i * P.cellsOf e)) (cells y) ∧ In y ∧ size y ≤ Rows.uptoBulk z.1 := by
      intro i hi
      have hz : elems[i]? = some (elems[i]'(by omega)) := List.getElem?_eq_getElem (by omega)
      have := hel i hi
      rw [hz] at this
      obtain ⟨cs', h1, h2⟩ := Option.bind_eq_some_iff.1 this
      obtain ⟨y, hy, hin, hs⟩ := ho n (Nat.lt_succ_self n) cs' _ h2
      obtain ⟨_, hcl, hat⟩ := World.cells?_some h1
      refine ⟨y, _, hz, fun j v hj => ?_, hin, hs⟩
      rw [← hy] at hj
      have hjl : j < cs'.length := (List.getElem?_eq_some_iff.1 hj).1
      rw [hat j (by omega), hj]
    clear hel h ho
    have : ∃ l : List α, l.length = len ∧ ∀ i y, l[i]? = some y → ∃ z, elems[i]? = some z ∧ CellsAt w (a.add (i * P.cellsOf e)) (cells y) ∧ In y ∧ size y ≤ Rows.uptoBulk z.1 := by
      by_cases h0 : len = 0
      · exact ⟨[], by simp [h0], fun i y hi => by simp at hi⟩
      · obtain ⟨y0, _⟩ := key 0 (by omega)
        haveI : Inhabited α := ⟨y0⟩
        obtain ⟨f, hf⟩ := choose_lt key
        refine ⟨(List.range len).map f, by simp, fun i y hi => ?_⟩
        simp only [List.getElem?_map] at hi
        by_cases hil : i < len
        · rw [List.getElem?_range hil] at hi
          simp only [Option.map_some, Option.some.injEq] at hi
          subst hi
          exact hf i hil
        · rw [List.getElem?_eq_none (by simpa using hil)] at hi
          simp at hi
    obtain ⟨l, hll, hl'⟩ := this
    refine ⟨some a, cap, l, by rw [hll], by omega, hm, fun i y hi => ?_, fun y hy => ?_, ?_⟩
    · obtain ⟨z, _, h2, _⟩ := hl' i y hi
      exact ⟨a, rfl, h2⟩
    · obtain ⟨i, hi⟩ := List.mem_iff_getElem?.1 hy
      obtain ⟨z, _, _, h3, _⟩ := hl' i y hi
      exact h3
    · have := bulkAll_map (H := H) size (fun z : DataW H × List MemPlace => z.1) l elems (by omega) fun i y z hy hz => by
        obtain ⟨z', e1, _, _, h4⟩ := hl' i y hy
        rw [hz] at e1
        obtain rfl := Option.some.inj e1
        exact h4
      show (l.map size).sum + 1 ≤ Rows.uptoBulkAll (elems.map (·.1)) + Rows.uptoBulkAll (rest.map (·.1)) + 1
      omega
end

/-- A number, as it is written. -/
structure Lt where
  w : Int
  h : Int
  l : Int
def Lt.cells (t : Lt) : List Value := [.int .i64 t.w, .int .u64 t.h, .int .u64 t.l]
structure Lt.Ok (t : Lt) : Prop where
  w : (Lit.int .i64 t.w).wf = true
  h : (Lit.int .u64 t.h).wf = true
  l : (Lit.int .u64 t.l).wf = true

/-- An expression: what stands in it, and where its Args lie. -/
inductive Ex where
  | mk (op : Int) (lit : Lt) (head name : ByteArray) (hi lo : Int) (p : Option Addr) (cap : Nat) (args : List Ex)
def Ex.op : Ex → Int | .mk op _ _ _ _ _ _ _ _ => op
def Ex.lit : Ex → Lt | .mk _ t _ _ _ _ _ _ _ => t
def Ex.head : Ex → ByteArray | .mk _ _ s _ _ _ _ _ _ => s
def Ex.name : Ex → ByteArray | .mk _ _ _ s _ _ _ _ _ => s
def Ex.hi : Ex → Int | .mk _ _ _ _ h _ _ _ _ => h
def Ex.lo : Ex → Int | .mk _ _ _ _ _ l _ _ _ => l
def Ex.p : Ex → Option Addr | .mk _ _ _ _ _ _ p _ _ => p
def Ex.cap : Ex → Nat | .mk _ _ _ _ _ _ _ c _ => c
def Ex.args : Ex → List Ex | .mk _ _ _ _ _ _ _ _ l => l
def Ex.cells (e : Ex) : List Value := [.int .u8 e.op, .int .i64 e.lit.w, .int .u64 e.lit.h, .int .u64 e.lit.l, .string e.head, .string e.name, .int .i64 e.hi, .int .i64 e.lo, .slice e.p e.args.length e.cap]
def Ex.val (e : Ex) : Value := .agg e.cells.toArray

theorem Ex.ind {Q : Ex → Prop} (h : ∀ e : Ex, (∀ x ∈ e.args, Q x) → Q e) : ∀ e, Q e := fun e =>
  Ex.rec (motive_1 := Q) (motive_2 := fun l => ∀ x ∈ l, Q x) (fun _ _ _ _ _ _ _ _ _ ih => h _ ih) (fun x hx => by simp at hx) (fun _ _ h1 h2 x hx => by
    rcases List.mem_cons.1 hx with rfl | hx
    · exact h1
    · exact h2 x hx) e

mutual
/-- How many nodes and bytes it has. -/
def Ex.wt : Ex → Nat
  | .mk _ _ hd nm _ _ _ _ args => 1 + hd.size + nm.size + Ex.wts args
def Ex.wts : List Ex → Nat
  | [] => 0
  | e :: l => e.wt + Ex.wts l
end
theorem Ex.wts_sum : ∀ l : List Ex, Ex.wts l = (l.map Ex.wt).sum
  | [] => by simp [Ex.wts]
  | e :: l => by simp [Ex.wts, Ex.wts_sum l]
theorem Ex.wt_eq (e : Ex) : e.wt = 1 + e.head.size + e.name.size + (e.args.map Ex.wt).sum := by
  cases e; simp [Ex.wt, Ex.wts_sum, Ex.head, Ex.name, Ex.args]

/-- It lies in memory. -/
inductive Ex.In (w : World) : Ex → Prop where
  | mk (e : Ex) (op : (Lit.int .u8 e.op).wf = true) (lit : e.lit.Ok) (hi : (Lit.int .i64 e.hi).wf = true) (lo : (Lit.int .i64 e.lo).wf = true) (hd : e.head.size ≤ maxLen) (nm : e.name.size ≤ maxLen)
      (len : e.args.length ≤ e.cap) (cap : e.cap ≤ maxLen) (row : RowAt w 9 Ex.cells e.p e.args) (kids : ∀ x ∈ e.args, Ex.In w x) : Ex.In w e

theorem Ex.In.plus {w : World} (x : Ext) : ∀ {e : Ex}, e.In w → e.In (plus w x) := fun {e} h => by
  induction h with
  | mk e op lit hi lo hd nm len cap row _ ih => exact .mk e op lit hi lo hd nm len cap (row.plus x) ih

section
variable {H : Type} {enc : TypeId × Value → H} {w : World} {base : Nat} {spare : Nat → Bool} {held : Bool}

theorem cI : Try.prog.cellsOf 3 = 1 := by kernel_rfl
theorem cU8 : Try.prog.cellsOf 5 = 1 := by kernel_rfl
theorem cU64 : Try.prog.cellsOf 31 = 1 := by kernel_rfl
theorem cS : Try.prog.cellsOf 9 = 1 := by kernel_rfl
theorem cNum : Try.prog.cellsOf 33 = 2 := by kernel_rfl
theorem cLit : Try.prog.cellsOf 35 = 3 := by kernel_rfl
theorem cExpr : Try.prog.cellsOf 38 = 9 := by kernel_rfl
theorem cExprs : Try.prog.cellsOf 36 = 1 := by kernel_rfl

set_option maxRecDepth 100000 in
theorem open_num {fuel : Nat} {cs : List Value} {x : DataW H × List MemPlace} (h : DataW.trod enc Try.prog w base spare held fuel 33 cs = some x) :
    ∃ a b : Int, cs = [.int .u64 a, .int .u64 b] ∧ (Lit.int .u64 a).wf = true ∧ (Lit.int .u64 b).wf = true := by
  obtain ⟨xs, n, rfl, rfl, hcl, hxl, hf⟩ := DataW.trod_struct (P := Try.prog) Try.underlying33 h
  have hcl' : cs.length = 2 := hcl.trans cNum
  clear hcl h
  match cs, hcl' with
  | [c0, c1], _ =>
    match xs, hxl with
    | [x0, x1], _ =>
      have h0 : DataW.trod enc Try.prog w base spare held n 31 [c0] = some x0 := by simpa [cU64] using hf 0 _ rfl
      have h1 : DataW.trod enc Try.prog w base spare held n 31 [c1] = some x1 := by simpa [cU64] using hf 1 _ rfl
      obtain ⟨a, e0, _, w0⟩ := DataW.trod_int Try.underlying31 h0
      obtain ⟨b, e1, _, w1⟩ := DataW.trod_int Try.underlying31 h1
      obtain rfl := List.head_eq_of_cons_eq e0
      obtain rfl := List.head_eq_of_cons_eq e1
      exact ⟨a, b, rfl, w0, w1⟩

set_option maxRecDepth 100000 in
theorem open_lit {fuel : Nat} : Opens enc Try.prog w base spare held fuel 35 Lt.cells Lt.Ok (fun _ => 1) := by
  intro cs x h
  obtain ⟨xs, n, rfl, rfl, hcl, hxl, hf⟩ := DataW.trod_struct (P := Try.prog) Try.underlying35 h
  have hcl' : cs.length = 3 := hcl.trans cLit
  clear hcl h
  match cs, hcl' with
  | [c0, c1, c2], _ =>
    match xs, hxl with
    | [x0, x1], _ =>
      have h0 : DataW.trod enc Try.prog w base spare held n 3 [c0] = some x0 := by simpa [cI] using hf 0 _ rfl
      have h1 : DataW.trod enc Try.prog w base spare held n 33 [c1, c2] = some x1 := by simpa [cNum] using hf 1 _ rfl
      obtain ⟨a, e0, _, w0⟩ := DataW.trod_int Try.underlying3 h0
      obtain ⟨b, c, e1, w1, w2⟩ := open_num h1
      obtain rfl := List.head_eq_of_cons_eq e0
      simp only [List.cons.injEq, and_true] at e1
      obtain ⟨rfl, rfl⟩ := e1
      exact ⟨⟨a, b, c⟩, rfl, ⟨w0, w1, w2⟩, by simp [Rows.uptoBulk]⟩

set_option maxRecDepth 100000 in
theorem open_ex : ∀ (fuel : Nat), Opens enc Try.prog w base spare held fuel 38 Ex.cells (Ex.In w) Ex.wt := by
  intro fuel
  induction fuel using Nat.strongRecOn with
  | ind fuel ih =>
  intro cs x h
  obtain ⟨xs, n, rfl, rfl, hcl, hxl, hf⟩ := DataW.trod_struct (P := Try.prog) Try.underlying38 h
  have hcl' : cs.length = 9 := hcl.trans cExpr
  clear hcl h
  match cs, hcl' with
  | [c0, c1, c2, c3, c4, c5, c6, c7, c8], _ =>
    match xs, hxl with
    | [x0, x1, x2, x3, x4, x5, x6], _ =>
      have h0 : DataW.trod enc Try.prog w base spare held n 5 [c0] = some x0 := by simpa [cU8] using hf 0 _ rfl
      have h1 : DataW.trod enc Try.prog w base spare held n 35 [c1, c2, c3] = some x1 := by simpa [cLit] using hf 1 _ rfl
      have h2 : DataW.trod enc Try.prog w base spare held n 9 [c4] = some x2 := by simpa [cS] using hf 2 _ rfl
      have h3 : DataW.trod enc Try.prog w base spare held n 9 [c5] = some x3 := by simpa [cS] using hf 3 _ rfl
      have h4 : DataW.trod enc Try.prog w base spare held n 3 [c6] = some x4 := by simpa [cI] using hf 4 _ rfl
      have h5 : DataW.trod enc Try.prog w base spare held n 3 [c7] = some x5 := by simpa [cI] using hf 5 _ rfl
      have h6 : DataW.trod enc Try.prog w base spare held n 36 [c8] = some x6 := by simpa [cExprs] using hf 6 _ rfl
      obtain ⟨op, e0, _, w0⟩ := DataW.trod_int Try.underlying5 h0
      obtain ⟨t, e1, w1, _⟩ := open_lit _ _ h1
      obtain ⟨hd, e2, q2, w2⟩ := DataW.trod_string Try.underlying9 h2
      obtain ⟨nm, e3, q3, w3⟩ := DataW.trod_string Try.underlying9 h3
      obtain ⟨hi, e4, _, w4⟩ := DataW.trod_int Try.underlying3 h4
      obtain ⟨lo, e5, _, w5⟩ := DataW.trod_int Try.underlying3 h5
      obtain ⟨p, cap, l, e6, hl, hc, hr, hin, hs⟩ := open_row (cells := Ex.cells) (In := Ex.In w) (size := Ex.wt) Try.underlying36 cExpr (fun m hm => ih m (by omega)) h6
      obtain rfl := List.head_eq_of_cons_eq e0
      simp only [Lt.cells, List.cons.injEq, and_true] at e1
      obtain ⟨rfl, rfl, rfl⟩ := e1
      obtain rfl := List.head_eq_of_cons_eq e2
      obtain rfl := List.head_eq_of_cons_eq e3
      obtain rfl := List.head_eq_of_cons_eq e4
      obtain rfl := List.head_eq_of_cons_eq e5
      obtain rfl := List.head_eq_of_cons_eq e6
      refine ⟨.mk op t hd nm hi lo p cap l, rfl, .mk _ w0 w1 w4 w5 w2 w3 hl hc hr hin, ?_⟩
      rw [Ex.wt_eq]
      have b2 : Rows.uptoBulk x2.1 = hd.size + 1 := by rw [q2]; simp [Rows.uptoBulk]
      have b3 : Rows.uptoBulk x3.1 = nm.size + 1 := by rw [q3]; simp [Rows.uptoBulk]
      simp only [List.map_cons, List.map_nil, Rows.uptoBulk, Rows.uptoBulkAll, b2, b3, Ex.head, Ex.name, Ex.args]
      omega
end
end Go.Proofs.Ytpnaibfefpeikaa
