/-
  WHAT IS PROVED HERE: the trees of a program (fields, headers, states, statements, actions, tables, the program itself), opened from what came in: what stands in them, and that it lies in memory. Written by gen/trees.py.
-/
import Derived.Test.YtpnaibfefpeikaaRows
import Derived.Test.YtpnaibfefpeikaaSa
namespace Go.Proofs.Ytpnaibfefpeikaa
open Go.ChangeShapes Go.WideShapes Go.RowKit Go.Deep

/-- A slice that came in, of things of ours. -/
structure Sl (α : Type) where
  p : Option Addr
  cap : Nat
  l : List α
def Sl.v {α : Type} (s : Sl α) : Value := .slice s.p s.l.length s.cap
structure Sl.In {α : Type} (w : World) (C : Nat) (cells : α → List Value) (K : α → Prop) (s : Sl α) : Prop where
  len : s.l.length ≤ s.cap
  cap : s.cap ≤ maxLen
  row : RowAt w C cells s.p s.l
  kids : ∀ y ∈ s.l, K y
theorem Sl.In.plus {α : Type} {w : World} {C : Nat} {cells : α → List Value} {In In' : α → Prop} {s : Sl α} (h : s.In w C cells In) (hi : ∀ y, In y → In' y) (x : Ext) : s.In (plus w x) C cells In' :=
  ⟨h.len, h.cap, h.row.plus x, fun y hy => hi y (h.kids y hy)⟩
def Sl.size {α : Type} (f : α → Nat) (s : Sl α) : Nat := (s.l.map f).sum
def strCells (s : ByteArray) : List Value := [.string s]
def strOk (s : ByteArray) : Prop := s.size ≤ maxLen
def strSize (s : ByteArray) : Nat := s.size + 1

section
variable {H : Type} {enc : TypeId × Value → H} {w : World} {base : Nat} {spare : Nat → Bool} {held : Bool}
theorem open_sl {P : Program} {t e : TypeId} {C fuel : Nat} {α : Type} {cells : α → List Value} {In : α → Prop} {size : α → Nat} {cs : List Value} {x : DataW H × List MemPlace} (ht : P.underlying t = some (.slice e)) (hC : P.cellsOf e = C)
    (ho : ∀ n, n < fuel → Opens enc P w base spare held n e cells In size) (h : DataW.trod enc P w base spare held fuel t cs = some x) :
    ∃ s : Sl α, cs = [s.v] ∧ s.In w C cells In ∧ s.size size + 1 ≤ Rows.uptoBulk x.1 := by
  obtain ⟨p, cap, l, h1, h2, h3, h4, h5, h6⟩ := open_row ht hC ho h
  exact ⟨⟨p, cap, l⟩, h1, ⟨h2, h3, h4, h5⟩, h6⟩
theorem open_str {fuel : Nat} : Opens enc Try.prog w base spare held fuel 9 strCells strOk strSize := by
  intro cs x h
  obtain ⟨s, e, q, hs⟩ := DataW.trod_string Try.underlying9 h
  exact ⟨s, e, hs, by rw [q]; simp [Rows.uptoBulk, strSize]⟩
theorem cB : Try.prog.cellsOf 4 = 1 := by kernel_rfl
end

/-- A field. -/
structure Fd where
  name : ByteArray
  w : Int
def Fd.cells (x : Fd) : List Value := [.string x.name, .int .i64 x.w]
structure Fd.In (w : World) (x : Fd) : Prop where
  name : x.name.size ≤ maxLen
  w : (Lit.int .i64 x.w).wf = true
def Fd.sz (x : Fd) : Nat := 1 + x.name.size
theorem Fd.In.plus {w : World} {s : Fd} (h : s.In w) (_ : Ext) : s.In (plus w ‹Ext›) := ⟨h.name, h.w⟩
theorem cFd : Try.prog.cellsOf 72 = 2 := by kernel_rfl
section
variable {H : Type} {enc : TypeId × Value → H} {w : World} {base : Nat} {spare : Nat → Bool} {held : Bool}
set_option maxRecDepth 100000 in
theorem open_Fd {fuel : Nat} : Opens enc Try.prog w base spare held fuel 72 Fd.cells (Fd.In w) Fd.sz := by
  intro cs x h
  obtain ⟨xs, n, rfl, rfl, hcl, hxl, hf⟩ := DataW.trod_struct (P := Try.prog) Try.underlying72 h
  have hcl' : cs.length = 2 := hcl.trans cFd
  clear hcl h
  match cs, hcl' with
  | [c0, c1], _ =>
    match xs, hxl with
    | [x0, x1], _ =>
      have h0 : DataW.trod enc Try.prog w base spare held n 9 [c0] = some x0 := by simpa [cS] using hf 0 _ rfl
      obtain ⟨v0, e0, q0, w0⟩ := DataW.trod_string Try.underlying9 h0
      obtain rfl := List.head_eq_of_cons_eq e0
      have b0 : Rows.uptoBulk x0.1 = v0.size + 1 := by rw [q0]; simp [Rows.uptoBulk]
      have h1 : DataW.trod enc Try.prog w base spare held n 3 [c1] = some x1 := by simpa [cI] using hf 1 _ rfl
      obtain ⟨v1, e1, q1, w1⟩ := DataW.trod_int Try.underlying3 h1
      obtain rfl := List.head_eq_of_cons_eq e1
      refine ⟨⟨v0, v1⟩, rfl, ⟨w0, w1⟩, ?_⟩
      simp only [List.map_cons, List.map_nil, Rows.uptoBulk, Rows.uptoBulkAll, Fd.sz, b0]
      omega
end

/-- A header. -/
structure Hr where
  name : ByteArray
  fields : Sl Fd
def Hr.cells (x : Hr) : List Value := [.string x.name, x.fields.v]
structure Hr.In (w : World) (x : Hr) : Prop where
  name : x.name.size ≤ maxLen
  fields : x.fields.In w 2 Fd.cells (Fd.In w)
def Hr.sz (x : Hr) : Nat := 1 + x.name.size + x.fields.size Fd.sz
theorem Hr.In.plus {w : World} {s : Hr} (h : s.In w) (x : Ext) : s.In (plus w x) := ⟨h.name, h.fields.plus (fun _ a => a.plus x) x⟩
theorem cHr : Try.prog.cellsOf 51 = 2 := by kernel_rfl
theorem cSlFd : Try.prog.cellsOf 23 = 1 := by kernel_rfl
section
variable {H : Type} {enc : TypeId × Value → H} {w : World} {base : Nat} {spare : Nat → Bool} {held : Bool}
set_option maxRecDepth 100000 in
theorem open_Hr {fuel : Nat} : Opens enc Try.prog w base spare held fuel 51 Hr.cells (Hr.In w) Hr.sz := by
  intro cs x h
  obtain ⟨xs, n, rfl, rfl, hcl, hxl, hf⟩ := DataW.trod_struct (P := Try.prog) Try.underlying51 h
  have hcl' : cs.length = 2 := hcl.trans cHr
  clear hcl h
  match cs, hcl' with
  | [c0, c1], _ =>
    match xs, hxl with
    | [x0, x1], _ =>
      have h0 : DataW.trod enc Try.prog w base spare held n 9 [c0] = some x0 := by simpa [cS] using hf 0 _ rfl
      obtain ⟨v0, e0, q0, w0⟩ := DataW.trod_string Try.underlying9 h0
      obtain rfl := List.head_eq_of_cons_eq e0
      have b0 : Rows.uptoBulk x0.1 = v0.size + 1 := by rw [q0]; simp [Rows.uptoBulk]
      have h1 : DataW.trod enc Try.prog w base spare held n 23 [c1] = some x1 := by simpa [cSlFd] using hf 1 _ rfl
      obtain ⟨v1, e1, w1, z1⟩ := open_sl (cells := Fd.cells) (In := (Fd.In w)) (size := Fd.sz) Try.underlying23 cFd (fun _ _ => open_Fd) h1
      obtain rfl := List.head_eq_of_cons_eq e1
      refine ⟨⟨v0, v1⟩, rfl, ⟨w0, w1⟩, ?_⟩
      simp only [List.map_cons, List.map_nil, Rows.uptoBulk, Rows.uptoBulkAll, Hr.sz, b0]
      omega
end

/-- A set. -/
structure Se where
  kind : Int
  v : Lt
  m : Lt
def Se.cells (x : Se) : List Value := [.int .u8 x.kind, .int .i64 x.v.w, .int .u64 x.v.h, .int .u64 x.v.l, .int .i64 x.m.w, .int .u64 x.m.h, .int .u64 x.m.l]
structure Se.In (w : World) (x : Se) : Prop where
  kind : (Lit.int .u8 x.kind).wf = true
  v : Lt.Ok x.v
  m : Lt.Ok x.m
def Se.sz (_ : Se) : Nat := 1
theorem Se.In.plus {w : World} {s : Se} (h : s.In w) (_ : Ext) : s.In (plus w ‹Ext›) := ⟨h.kind, h.v, h.m⟩
theorem cSe : Try.prog.cellsOf 131 = 7 := by kernel_rfl
section
variable {H : Type} {enc : TypeId × Value → H} {w : World} {base : Nat} {spare : Nat → Bool} {held : Bool}
set_option maxRecDepth 100000 in
theorem open_Se {fuel : Nat} : Opens enc Try.prog w base spare held fuel 131 Se.cells (Se.In w) Se.sz := by
  intro cs x h
  obtain ⟨xs, n, rfl, rfl, hcl, hxl, hf⟩ := DataW.trod_struct (P := Try.prog) Try.underlying131 h
  have hcl' : cs.length = 7 := hcl.trans cSe
  clear hcl h
  match cs, hcl' with
  | [c0, c1, c2, c3, c4, c5, c6], _ =>
    match xs, hxl with
    | [x0, x1, x2], _ =>
      have h0 : DataW.trod enc Try.prog w base spare held n 5 [c0] = some x0 := by simpa [cU8] using hf 0 _ rfl
      obtain ⟨v0, e0, q0, w0⟩ := DataW.trod_int Try.underlying5 h0
      obtain rfl := List.head_eq_of_cons_eq e0
      have h1 : DataW.trod enc Try.prog w base spare held n 35 [c1, c2, c3] = some x1 := by simpa [cLit] using hf 1 _ rfl
      obtain ⟨v1, e1, w1, z1⟩ := open_lit _ _ h1
      simp only [Lt.cells, List.cons.injEq, and_true] at e1
      obtain ⟨rfl, rfl, rfl⟩ := e1
      have h2 : DataW.trod enc Try.prog w base spare held n 35 [c4, c5, c6] = some x2 := by simpa [cLit] using hf 2 _ rfl
      obtain ⟨v2, e2, w2, z2⟩ := open_lit _ _ h2
      simp only [Lt.cells, List.cons.injEq, and_true] at e2
      obtain ⟨rfl, rfl, rfl⟩ := e2
      refine ⟨⟨v0, v1, v2⟩, rfl, ⟨w0, w1, w2⟩, ?_⟩
      simp only [List.map_cons, List.map_nil, Rows.uptoBulk, Rows.uptoBulkAll, Se.sz]
      omega
end

/-- A case. -/
structure Ca where
  dflt : Bool
  sets : Sl Se
  to : ByteArray
def Ca.cells (x : Ca) : List Value := [.bool x.dflt, x.sets.v, .string x.to]
structure Ca.In (w : World) (x : Ca) : Prop where
  dflt : True
  sets : x.sets.In w 7 Se.cells (Se.In w)
  to : x.to.size ≤ maxLen
def Ca.sz (x : Ca) : Nat := 1 + x.sets.size Se.sz + x.to.size
theorem Ca.In.plus {w : World} {s : Ca} (h : s.In w) (x : Ext) : s.In (plus w x) := ⟨h.dflt, h.sets.plus (fun _ a => a.plus x) x, h.to⟩
theorem cCa : Try.prog.cellsOf 57 = 3 := by kernel_rfl
theorem cSlSe : Try.prog.cellsOf 55 = 1 := by kernel_rfl
section
variable {H : Type} {enc : TypeId × Value → H} {w : World} {base : Nat} {spare : Nat → Bool} {held : Bool}
set_option maxRecDepth 100000 in
theorem open_Ca {fuel : Nat} : Opens enc Try.prog w base spare held fuel 57 Ca.cells (Ca.In w) Ca.sz := by
  intro cs x h
  obtain ⟨xs, n, rfl, rfl, hcl, hxl, hf⟩ := DataW.trod_struct (P := Try.prog) Try.underlying57 h
  have hcl' : cs.length = 3 := hcl.trans cCa
  clear hcl h
  match cs, hcl' with
  | [c0, c1, c2], _ =>
    match xs, hxl with
    | [x0, x1, x2], _ =>
      have h0 : DataW.trod enc Try.prog w base spare held n 4 [c0] = some x0 := by simpa [cB] using hf 0 _ rfl
      obtain ⟨v0, e0, q0⟩ := DataW.trod_bool Try.underlying4 h0
      have w0 := True.intro
      obtain rfl := List.head_eq_of_cons_eq e0
      have h1 : DataW.trod enc Try.prog w base spare held n 55 [c1] = some x1 := by simpa [cSlSe] using hf 1 _ rfl
      obtain ⟨v1, e1, w1, z1⟩ := open_sl (cells := Se.cells) (In := (Se.In w)) (size := Se.sz) Try.underlying55 cSe (fun _ _ => open_Se) h1
      obtain rfl := List.head_eq_of_cons_eq e1
      have h2 : DataW.trod enc Try.prog w base spare held n 9 [c2] = some x2 := by simpa [cS] using hf 2 _ rfl
      obtain ⟨v2, e2, q2, w2⟩ := DataW.trod_string Try.underlying9 h2
      obtain rfl := List.head_eq_of_cons_eq e2
      have b2 : Rows.uptoBulk x2.1 = v2.size + 1 := by rw [q2]; simp [Rows.uptoBulk]
      refine ⟨⟨v0, v1, v2⟩, rfl, ⟨w0, w1, w2⟩, ?_⟩
      simp only [List.map_cons, List.map_nil, Rows.uptoBulk, Rows.uptoBulkAll, Ca.sz, b2]
      omega
end

/-- A state. -/
structure Sa where
  name : ByteArray
  takes : Sl ByteArray
  to : ByteArray
  keys : Sl Ex
  cases : Sl Ca
def Sa.cells (x : Sa) : List Value := [.string x.name, x.takes.v, .string x.to, x.keys.v, x.cases.v]
structure Sa.In (w : World) (x : Sa) : Prop where
  name : x.name.size ≤ maxLen
  takes : x.takes.In w 1 strCells strOk
  to : x.to.size ≤ maxLen
  keys : x.keys.In w 9 Ex.cells (Ex.In w)
  cases : x.cases.In w 3 Ca.cells (Ca.In w)
def Sa.sz (x : Sa) : Nat := 1 + x.name.size + x.takes.size strSize + x.to.size + x.keys.size Ex.wt + x.cases.size Ca.sz
theorem Sa.In.plus {w : World} {s : Sa} (h : s.In w) (x : Ext) : s.In (plus w x) := ⟨h.name, h.takes.plus (fun _ a => a) x, h.to, h.keys.plus (fun _ a => a.plus x) x, h.cases.plus (fun _ a => a.plus x) x⟩
theorem cSa : Try.prog.cellsOf 54 = 5 := by kernel_rfl
theorem cSlStr : Try.prog.cellsOf 28 = 1 := by kernel_rfl
theorem cSlCa : Try.prog.cellsOf 52 = 1 := by kernel_rfl
section
variable {H : Type} {enc : TypeId × Value → H} {w : World} {base : Nat} {spare : Nat → Bool} {held : Bool}
set_option maxRecDepth 100000 in
theorem open_Sa {fuel : Nat} : Opens enc Try.prog w base spare held fuel 54 Sa.cells (Sa.In w) Sa.sz := by
  intro cs x h
  obtain ⟨xs, n, rfl, rfl, hcl, hxl, hf⟩ := DataW.trod_struct (P := Try.prog) Try.underlying54 h
  have hcl' : cs.length = 5 := hcl.trans cSa
  clear hcl h
  match cs, hcl' with
  | [c0, c1, c2, c3, c4], _ =>
    match xs, hxl with
    | [x0, x1, x2, x3, x4], _ =>
      have h0 : DataW.trod enc Try.prog w base spare held n 9 [c0] = some x0 := by simpa [cS] using hf 0 _ rfl
      obtain ⟨v0, e0, q0, w0⟩ := DataW.trod_string Try.underlying9 h0
      obtain rfl := List.head_eq_of_cons_eq e0
      have b0 : Rows.uptoBulk x0.1 = v0.size + 1 := by rw [q0]; simp [Rows.uptoBulk]
      have h1 : DataW.trod enc Try.prog w base spare held n 28 [c1] = some x1 := by simpa [cSlStr] using hf 1 _ rfl
      obtain ⟨v1, e1, w1, z1⟩ := open_sl (cells := strCells) (In := strOk) (size := strSize) Try.underlying28 cS (fun _ _ => open_str) h1
      obtain rfl := List.head_eq_of_cons_eq e1
      have h2 : DataW.trod enc Try.prog w base spare held n 9 [c2] = some x2 := by simpa [cS] using hf 2 _ rfl
      obtain ⟨v2, e2, q2, w2⟩ := DataW.trod_string Try.underlying9 h2
      obtain rfl := List.head_eq_of_cons_eq e2
      have b2 : Rows.uptoBulk x2.1 = v2.size + 1 := by rw [q2]; simp [Rows.uptoBulk]
      have h3 : DataW.trod enc Try.prog w base spare held n 36 [c3] = some x3 := by simpa [cExprs] using hf 3 _ rfl
      obtain ⟨v3, e3, w3, z3⟩ := open_sl (cells := Ex.cells) (In := (Ex.In w)) (size := Ex.wt) Try.underlying36 cExpr (fun _ _ => open_ex _) h3
      obtain rfl := List.head_eq_of_cons_eq e3
      have h4 : DataW.trod enc Try.prog w base spare held n 52 [c4] = some x4 := by simpa [cSlCa] using hf 4 _ rfl
      obtain ⟨v4, e4, w4, z4⟩ := open_sl (cells := Ca.cells) (In := (Ca.In w)) (size := Ca.sz) Try.underlying52 cCa (fun _ _ => open_Ca) h4
      obtain rfl := List.head_eq_of_cons_eq e4
      refine ⟨⟨v0, v1, v2, v3, v4⟩, rfl, ⟨w0, w1, w2, w3, w4⟩, ?_⟩
      simp only [List.map_cons, List.map_nil, Rows.uptoBulk, Rows.uptoBulkAll, Sa.sz, b0, b2]
      omega
end

/-- A statement. -/
inductive St where
  | mk (kind : Int) (head name : ByteArray) (e : Ex) (p : Option Addr) (cap : Nat) (thn : List St) (q : Option Addr) (cbp : Nat) (els : List St)
def St.kind : St → Int | .mk k _ _ _ _ _ _ _ _ _ => k
def St.head : St → ByteArray | .mk _ s _ _ _ _ _ _ _ _ => s
def St.name : St → ByteArray | .mk _ _ s _ _ _ _ _ _ _ => s
def St.e : St → Ex | .mk _ _ _ e _ _ _ _ _ _ => e
def St.p : St → Option Addr | .mk _ _ _ _ p _ _ _ _ _ => p
def St.cap : St → Nat | .mk _ _ _ _ _ c _ _ _ _ => c
def St.thn : St → List St | .mk _ _ _ _ _ _ l _ _ _ => l
def St.q : St → Option Addr | .mk _ _ _ _ _ _ _ q _ _ => q
def St.cbp : St → Nat | .mk _ _ _ _ _ _ _ _ c _ => c
def St.els : St → List St | .mk _ _ _ _ _ _ _ _ _ l => l
def St.cells (s : St) : List Value := [.int .u8 s.kind, .string s.head, .string s.name, .int .u8 s.e.op, .int .i64 s.e.lit.w, .int .u64 s.e.lit.h, .int .u64 s.e.lit.l, .string s.e.head, .string s.e.name, .int .i64 s.e.hi, .int .i64 s.e.lo, .slice s.e.p s.e.args.length s.e.cap, .slice s.p s.thn.length s.cap, .slice s.q s.els.length s.cbp]
theorem St.ind {Q : St → Prop} (h : ∀ s : St, (∀ x ∈ s.thn, Q x) → (∀ x ∈ s.els, Q x) → Q s) : ∀ s, Q s := fun s =>
  St.rec (motive_1 := Q) (motive_2 := fun l => ∀ x ∈ l, Q x) (fun _ _ _ _ _ _ _ _ _ _ i1 i2 => h _ i1 i2) (fun x hx => by simp at hx) (fun _ _ h1 h2 x hx => by
    rcases List.mem_cons.1 hx with rfl | hx
    · exact h1
    · exact h2 x hx) s
mutual
/-- How many nodes and bytes it has. -/
def St.sz : St → Nat
  | .mk _ hd nm e _ _ thn _ _ els => 1 + hd.size + nm.size + e.wt + St.szs thn + St.szs els
def St.szs : List St → Nat
  | [] => 0
  | e :: l => e.sz + St.szs l
end
theorem St.szs_sum : ∀ l : List St, St.szs l = (l.map St.sz).sum
  | [] => by simp [St.szs]
  | e :: l => by simp [St.szs, St.szs_sum l]
theorem St.sz_eq (s : St) : s.sz = 1 + s.head.size + s.name.size + s.e.wt + (s.thn.map St.sz).sum + (s.els.map St.sz).sum := by
  cases s; simp [St.sz, St.szs_sum, St.head, St.name, St.e, St.thn, St.els]
/-- It lies in memory. -/
inductive St.In (w : World) : St → Prop where
  | mk (s : St) (kind : (Lit.int .u8 s.kind).wf = true) (hd : s.head.size ≤ maxLen) (nm : s.name.size ≤ maxLen) (e : s.e.In w)
      (len : s.thn.length ≤ s.cap) (cap : s.cap ≤ maxLen) (row : RowAt w 14 St.cells s.p s.thn) (kids : ∀ x ∈ s.thn, St.In w x)
      (len2 : s.els.length ≤ s.cbp) (cap2 : s.cbp ≤ maxLen) (row2 : RowAt w 14 St.cells s.q s.els) (kids2 : ∀ x ∈ s.els, St.In w x) : St.In w s
theorem St.In.plus {w : World} {s : St} (h : s.In w) (x : Ext) : s.In (plus w x) := by
  induction h with
  | mk s k hd nm e l c r _ l2 c2 r2 _ ih ih2 => exact .mk s k hd nm (e.plus x) l c (r.plus x) ih l2 c2 (r2.plus x) ih2
theorem cSt : Try.prog.cellsOf 103 = 14 := by kernel_rfl
theorem cSlSt : Try.prog.cellsOf 27 = 1 := by kernel_rfl
section
variable {H : Type} {enc : TypeId × Value → H} {w : World} {base : Nat} {spare : Nat → Bool} {held : Bool}
set_option maxRecDepth 100000 in
theorem open_St : ∀ fuel : Nat, Opens enc Try.prog w base spare held fuel 103 St.cells (St.In w) St.sz := by
  intro fuel
  induction fuel using Nat.strongRecOn with
  | ind fuel ih =>
  intro cs x h
  obtain ⟨xs, n, rfl, rfl, hcl, hxl, hf⟩ := DataW.trod_struct (P := Try.prog) Try.underlying103 h
  have hcl' : cs.length = 14 := hcl.trans cSt
  clear hcl h
  match cs, hcl' with
  | [c0, c1, c2, c3, c4, c5, c6, c7, c8, c9, c10, c11, c12, c13], _ =>
    match xs, hxl with
    | [x0, x1, x2, x3, x4, x5], _ =>
      have h0 : DataW.trod enc Try.prog w base spare held n 5 [c0] = some x0 := by simpa [cU8] using hf 0 _ rfl
      obtain ⟨v0, e0, q0, w0⟩ := DataW.trod_int Try.underlying5 h0
      obtain rfl := List.head_eq_of_cons_eq e0
      have h1 : DataW.trod enc Try.prog w base spare held n 9 [c1] = some x1 := by simpa [cS] using hf 1 _ rfl
      obtain ⟨v1, e1, q1, w1⟩ := DataW.trod_string Try.underlying9 h1
      obtain rfl := List.head_eq_of_cons_eq e1
      have b1 : Rows.uptoBulk x1.1 = v1.size + 1 := by rw [q1]; simp [Rows.uptoBulk]
      have h2 : DataW.trod enc Try.prog w base spare held n 9 [c2] = some x2 := by simpa [cS] using hf 2 _ rfl
      obtain ⟨v2, e2, q2, w2⟩ := DataW.trod_string Try.underlying9 h2
      obtain rfl := List.head_eq_of_cons_eq e2
      have b2 : Rows.uptoBulk x2.1 = v2.size + 1 := by rw [q2]; simp [Rows.uptoBulk]
      have h3 : DataW.trod enc Try.prog w base spare held n 38 [c3, c4, c5, c6, c7, c8, c9, c10, c11] = some x3 := by simpa [cExpr] using hf 3 _ rfl
      obtain ⟨v3, e3, w3, z3⟩ := open_ex _ _ _ h3
      simp only [Ex.cells, List.cons.injEq, and_true] at e3
      obtain ⟨rfl, rfl, rfl, rfl, rfl, rfl, rfl, rfl, rfl⟩ := e3
      have h4 : DataW.trod enc Try.prog w base spare held n 27 [c12] = some x4 := by simpa [cSlSt] using hf 4 _ rfl
      obtain ⟨v4, e4, w4, z4⟩ := open_sl (cells := St.cells) (In := (St.In w)) (size := St.sz) Try.underlying27 cSt (fun m hm => ih m (by omega)) h4
      obtain rfl := List.head_eq_of_cons_eq e4
      have h5 : DataW.trod enc Try.prog w base spare held n 27 [c13] = some x5 := by simpa [cSlSt] using hf 5 _ rfl
      obtain ⟨v5, e5, w5, z5⟩ := open_sl (cells := St.cells) (In := (St.In w)) (size := St.sz) Try.underlying27 cSt (fun m hm => ih m (by omega)) h5
      obtain rfl := List.head_eq_of_cons_eq e5
      refine ⟨.mk v0 v1 v2 v3 v4.p v4.cap v4.l v5.p v5.cap v5.l, rfl, .mk _ w0 w1 w2 w3 w4.len w4.cap w4.row w4.kids w5.len w5.cap w5.row w5.kids, ?_⟩
      rw [St.sz_eq]
      unfold Sl.size at z4 z5
      simp only [List.map_cons, List.map_nil, Rows.uptoBulk, Rows.uptoBulkAll, b1, b2, St.head, St.name, St.e, St.thn, St.els]
      omega
end

/-- An action. -/
structure Ac where
  name : ByteArray
  params : Sl Fd
  body : Sl St
def Ac.cells (x : Ac) : List Value := [.string x.name, x.params.v, x.body.v]
structure Ac.In (w : World) (x : Ac) : Prop where
  name : x.name.size ≤ maxLen
  params : x.params.In w 2 Fd.cells (Fd.In w)
  body : x.body.In w 14 St.cells (St.In w)
def Ac.sz (x : Ac) : Nat := 1 + x.name.size + x.params.size Fd.sz + x.body.size St.sz
theorem Ac.In.plus {w : World} {s : Ac} (h : s.In w) (x : Ext) : s.In (plus w x) := ⟨h.name, h.params.plus (fun _ a => a.plus x) x, h.body.plus (fun _ a => a.plus x) x⟩
theorem cAc : Try.prog.cellsOf 59 = 3 := by kernel_rfl
section
variable {H : Type} {enc : TypeId × Value → H} {w : World} {base : Nat} {spare : Nat → Bool} {held : Bool}
set_option maxRecDepth 100000 in
theorem open_Ac {fuel : Nat} : Opens enc Try.prog w base spare held fuel 59 Ac.cells (Ac.In w) Ac.sz := by
  intro cs x h
  obtain ⟨xs, n, rfl, rfl, hcl, hxl, hf⟩ := DataW.trod_struct (P := Try.prog) Try.underlying59 h
  have hcl' : cs.length = 3 := hcl.trans cAc
  clear hcl h
  match cs, hcl' with
  | [c0, c1, c2], _ =>
    match xs, hxl with
    | [x0, x1, x2], _ =>
      have h0 : DataW.trod enc Try.prog w base spare held n 9 [c0] = some x0 := by simpa [cS] using hf 0 _ rfl
      obtain ⟨v0, e0, q0, w0⟩ := DataW.trod_string Try.underlying9 h0
      obtain rfl := List.head_eq_of_cons_eq e0
      have b0 : Rows.uptoBulk x0.1 = v0.size + 1 := by rw [q0]; simp [Rows.uptoBulk]
      have h1 : DataW.trod enc Try.prog w base spare held n 23 [c1] = some x1 := by simpa [cSlFd] using hf 1 _ rfl
      obtain ⟨v1, e1, w1, z1⟩ := open_sl (cells := Fd.cells) (In := (Fd.In w)) (size := Fd.sz) Try.underlying23 cFd (fun _ _ => open_Fd) h1
      obtain rfl := List.head_eq_of_cons_eq e1
      have h2 : DataW.trod enc Try.prog w base spare held n 27 [c2] = some x2 := by simpa [cSlSt] using hf 2 _ rfl
      obtain ⟨v2, e2, w2, z2⟩ := open_sl (cells := St.cells) (In := (St.In w)) (size := St.sz) Try.underlying27 cSt (fun _ _ => open_St _) h2
      obtain rfl := List.head_eq_of_cons_eq e2
      refine ⟨⟨v0, v1, v2⟩, rfl, ⟨w0, w1, w2⟩, ?_⟩
      simp only [List.map_cons, List.map_nil, Rows.uptoBulk, Rows.uptoBulkAll, Ac.sz, b0]
      omega
end

/-- A key. -/
structure Ke where
  e : Ex
  kind : Int
def Ke.cells (x : Ke) : List Value := [.int .u8 x.e.op, .int .i64 x.e.lit.w, .int .u64 x.e.lit.h, .int .u64 x.e.lit.l, .string x.e.head, .string x.e.name, .int .i64 x.e.hi, .int .i64 x.e.lo, .slice x.e.p x.e.args.length x.e.cap, .int .u8 x.kind]
structure Ke.In (w : World) (x : Ke) : Prop where
  e : (Ex.In w) x.e
  kind : (Lit.int .u8 x.kind).wf = true
def Ke.sz (x : Ke) : Nat := 1 + Ex.wt x.e
theorem Ke.In.plus {w : World} {s : Ke} (h : s.In w) (x : Ext) : s.In (plus w x) := ⟨h.e.plus x, h.kind⟩
theorem cKe : Try.prog.cellsOf 67 = 10 := by kernel_rfl
section
variable {H : Type} {enc : TypeId × Value → H} {w : World} {base : Nat} {spare : Nat → Bool} {held : Bool}
set_option maxRecDepth 100000 in
theorem open_Ke {fuel : Nat} : Opens enc Try.prog w base spare held fuel 67 Ke.cells (Ke.In w) Ke.sz := by
  intro cs x h
  obtain ⟨xs, n, rfl, rfl, hcl, hxl, hf⟩ := DataW.trod_struct (P := Try.prog) Try.underlying67 h
  have hcl' : cs.length = 10 := hcl.trans cKe
  clear hcl h
  match cs, hcl' with
  | [c0, c1, c2, c3, c4, c5, c6, c7, c8, c9], _ =>
    match xs, hxl with
    | [x0, x1], _ =>
      have h0 : DataW.trod enc Try.prog w base spare held n 38 [c0, c1, c2, c3, c4, c5, c6, c7, c8] = some x0 := by simpa [cExpr] using hf 0 _ rfl
      obtain ⟨v0, e0, w0, z0⟩ := open_ex _ _ _ h0
      simp only [Ex.cells, List.cons.injEq, and_true] at e0
      obtain ⟨rfl, rfl, rfl, rfl, rfl, rfl, rfl, rfl, rfl⟩ := e0
      have h1 : DataW.trod enc Try.prog w base spare held n 5 [c9] = some x1 := by simpa [cU8] using hf 1 _ rfl
      obtain ⟨v1, e1, q1, w1⟩ := DataW.trod_int Try.underlying5 h1
      obtain rfl := List.head_eq_of_cons_eq e1
      refine ⟨⟨v0, v1⟩, rfl, ⟨w0, w1⟩, ?_⟩
      simp only [List.map_cons, List.map_nil, Rows.uptoBulk, Rows.uptoBulkAll, Ke.sz]
      omega
end

/-- A call. -/
structure Cl where
  name : ByteArray
  args : Sl Lt
def Cl.cells (x : Cl) : List Value := [.string x.name, x.args.v]
structure Cl.In (w : World) (x : Cl) : Prop where
  name : x.name.size ≤ maxLen
  args : x.args.In w 3 Lt.cells Lt.Ok
def Cl.sz (x : Cl) : Nat := x.name.size + x.args.size (fun _ => 1)
theorem Cl.In.plus {w : World} {s : Cl} (h : s.In w) (x : Ext) : s.In (plus w x) := ⟨h.name, h.args.plus (fun _ a => a) x⟩
theorem cCl : Try.prog.cellsOf 63 = 2 := by kernel_rfl
theorem cSlLt : Try.prog.cellsOf 61 = 1 := by kernel_rfl
section
variable {H : Type} {enc : TypeId × Value → H} {w : World} {base : Nat} {spare : Nat → Bool} {held : Bool}
set_option maxRecDepth 100000 in
theorem open_Cl {fuel : Nat} : Opens enc Try.prog w base spare held fuel 63 Cl.cells (Cl.In w) Cl.sz := by
  intro cs x h
  obtain ⟨xs, n, rfl, rfl, hcl, hxl, hf⟩ := DataW.trod_struct (P := Try.prog) Try.underlying63 h
  have hcl' : cs.length = 2 := hcl.trans cCl
  clear hcl h
  match cs, hcl' with
  | [c0, c1], _ =>
    match xs, hxl with
    | [x0, x1], _ =>
      have h0 : DataW.trod enc Try.prog w base spare held n 9 [c0] = some x0 := by simpa [cS] using hf 0 _ rfl
      obtain ⟨v0, e0, q0, w0⟩ := DataW.trod_string Try.underlying9 h0
      obtain rfl := List.head_eq_of_cons_eq e0
      have b0 : Rows.uptoBulk x0.1 = v0.size + 1 := by rw [q0]; simp [Rows.uptoBulk]
      have h1 : DataW.trod enc Try.prog w base spare held n 61 [c1] = some x1 := by simpa [cSlLt] using hf 1 _ rfl
      obtain ⟨v1, e1, w1, z1⟩ := open_sl (cells := Lt.cells) (In := Lt.Ok) (size := (fun _ => 1)) Try.underlying61 cLit (fun _ _ => open_lit) h1
      obtain rfl := List.head_eq_of_cons_eq e1
      refine ⟨⟨v0, v1⟩, rfl, ⟨w0, w1⟩, ?_⟩
      simp only [List.map_cons, List.map_nil, Rows.uptoBulk, Rows.uptoBulkAll, Cl.sz, b0]
      omega
end

/-- A table. -/
structure Ta where
  name : ByteArray
  keys : Sl Ke
  actions : Sl ByteArray
  dflt : Cl
def Ta.cells (x : Ta) : List Value := [.string x.name, x.keys.v, x.actions.v, .string x.dflt.name, x.dflt.args.v]
structure Ta.In (w : World) (x : Ta) : Prop where
  name : x.name.size ≤ maxLen
  keys : x.keys.In w 10 Ke.cells (Ke.In w)
  actions : x.actions.In w 1 strCells strOk
  dflt : (Cl.In w) x.dflt
def Ta.sz (x : Ta) : Nat := 1 + x.name.size + x.keys.size Ke.sz + x.actions.size strSize + Cl.sz x.dflt
theorem Ta.In.plus {w : World} {s : Ta} (h : s.In w) (x : Ext) : s.In (plus w x) := ⟨h.name, h.keys.plus (fun _ a => a.plus x) x, h.actions.plus (fun _ a => a) x, h.dflt.plus x⟩
theorem cTa : Try.prog.cellsOf 65 = 5 := by kernel_rfl
theorem cSlKe : Try.prog.cellsOf 60 = 1 := by kernel_rfl
section
variable {H : Type} {enc : TypeId × Value → H} {w : World} {base : Nat} {spare : Nat → Bool} {held : Bool}
set_option maxRecDepth 100000 in
theorem open_Ta {fuel : Nat} : Opens enc Try.prog w base spare held fuel 65 Ta.cells (Ta.In w) Ta.sz := by
  intro cs x h
  obtain ⟨xs, n, rfl, rfl, hcl, hxl, hf⟩ := DataW.trod_struct (P := Try.prog) Try.underlying65 h
  have hcl' : cs.length = 5 := hcl.trans cTa
  clear hcl h
  match cs, hcl' with
  | [c0, c1, c2, c3, c4], _ =>
    match xs, hxl with
    | [x0, x1, x2, x3], _ =>
      have h0 : DataW.trod enc Try.prog w base spare held n 9 [c0] = some x0 := by simpa [cS] using hf 0 _ rfl
      obtain ⟨v0, e0, q0, w0⟩ := DataW.trod_string Try.underlying9 h0
      obtain rfl := List.head_eq_of_cons_eq e0
      have b0 : Rows.uptoBulk x0.1 = v0.size + 1 := by rw [q0]; simp [Rows.uptoBulk]
      have h1 : DataW.trod enc Try.prog w base spare held n 60 [c1] = some x1 := by simpa [cSlKe] using hf 1 _ rfl
      obtain ⟨v1, e1, w1, z1⟩ := open_sl (cells := Ke.cells) (In := (Ke.In w)) (size := Ke.sz) Try.underlying60 cKe (fun _ _ => open_Ke) h1
      obtain rfl := List.head_eq_of_cons_eq e1
      have h2 : DataW.trod enc Try.prog w base spare held n 28 [c2] = some x2 := by simpa [cSlStr] using hf 2 _ rfl
      obtain ⟨v2, e2, w2, z2⟩ := open_sl (cells := strCells) (In := strOk) (size := strSize) Try.underlying28 cS (fun _ _ => open_str) h2
      obtain rfl := List.head_eq_of_cons_eq e2
      have h3 : DataW.trod enc Try.prog w base spare held n 63 [c3, c4] = some x3 := by simpa [cCl] using hf 3 _ rfl
      obtain ⟨v3, e3, w3, z3⟩ := open_Cl _ _ h3
      simp only [Cl.cells, List.cons.injEq, and_true] at e3
      obtain ⟨rfl, rfl⟩ := e3
      refine ⟨⟨v0, v1, v2, v3⟩, rfl, ⟨w0, w1, w2, w3⟩, ?_⟩
      simp only [List.map_cons, List.map_nil, Rows.uptoBulk, Rows.uptoBulkAll, Ta.sz, b0]
      omega
end

/-- A program. -/
structure Pr where
  headers : Sl Hr
  metas : Sl Fd
  states : Sl Sa
  actions : Sl Ac
  tables : Sl Ta
  control : Sl St
  emit : Sl ByteArray
def Pr.cells (x : Pr) : List Value := [x.headers.v, x.metas.v, x.states.v, x.actions.v, x.tables.v, x.control.v, x.emit.v]
structure Pr.In (w : World) (x : Pr) : Prop where
  headers : x.headers.In w 2 Hr.cells (Hr.In w)
  metas : x.metas.In w 2 Fd.cells (Fd.In w)
  states : x.states.In w 5 Sa.cells (Sa.In w)
  actions : x.actions.In w 3 Ac.cells (Ac.In w)
  tables : x.tables.In w 5 Ta.cells (Ta.In w)
  control : x.control.In w 14 St.cells (St.In w)
  emit : x.emit.In w 1 strCells strOk
def Pr.sz (x : Pr) : Nat := x.headers.size Hr.sz + x.metas.size Fd.sz + x.states.size Sa.sz + x.actions.size Ac.sz + x.tables.size Ta.sz + x.control.size St.sz + x.emit.size strSize
theorem Pr.In.plus {w : World} {s : Pr} (h : s.In w) (x : Ext) : s.In (plus w x) := ⟨h.headers.plus (fun _ a => a.plus x) x, h.metas.plus (fun _ a => a.plus x) x, h.states.plus (fun _ a => a.plus x) x, h.actions.plus (fun _ a => a.plus x) x, h.tables.plus (fun _ a => a.plus x) x, h.control.plus (fun _ a => a.plus x) x, h.emit.plus (fun _ a => a) x⟩
theorem cPr : Try.prog.cellsOf 30 = 7 := by kernel_rfl
theorem cSlHr : Try.prog.cellsOf 22 = 1 := by kernel_rfl
theorem cSlSa : Try.prog.cellsOf 24 = 1 := by kernel_rfl
theorem cSlAc : Try.prog.cellsOf 25 = 1 := by kernel_rfl
theorem cSlTa : Try.prog.cellsOf 26 = 1 := by kernel_rfl
section
variable {H : Type} {enc : TypeId × Value → H} {w : World} {base : Nat} {spare : Nat → Bool} {held : Bool}
set_option maxRecDepth 100000 in
theorem open_Pr {fuel : Nat} : Opens enc Try.prog w base spare held fuel 30 Pr.cells (Pr.In w) Pr.sz := by
  intro cs x h
  obtain ⟨xs, n, rfl, rfl, hcl, hxl, hf⟩ := DataW.trod_struct (P := Try.prog) Try.underlying30 h
  have hcl' : cs.length = 7 := hcl.trans cPr
  clear hcl h
  match cs, hcl' with
  | [c0, c1, c2, c3, c4, c5, c6], _ =>
    match xs, hxl with
    | [x0, x1, x2, x3, x4, x5, x6], _ =>
      have h0 : DataW.trod enc Try.prog w base spare held n 22 [c0] = some x0 := by simpa [cSlHr] using hf 0 _ rfl
      obtain ⟨v0, e0, w0, z0⟩ := open_sl (cells := Hr.cells) (In := (Hr.In w)) (size := Hr.sz) Try.underlying22 cHr (fun _ _ => open_Hr) h0
      obtain rfl := List.head_eq_of_cons_eq e0
      have h1 : DataW.trod enc Try.prog w base spare held n 23 [c1] = some x1 := by simpa [cSlFd] using hf 1 _ rfl
      obtain ⟨v1, e1, w1, z1⟩ := open_sl (cells := Fd.cells) (In := (Fd.In w)) (size := Fd.sz) Try.underlying23 cFd (fun _ _ => open_Fd) h1
      obtain rfl := List.head_eq_of_cons_eq e1
      have h2 : DataW.trod enc Try.prog w base spare held n 24 [c2] = some x2 := by simpa [cSlSa] using hf 2 _ rfl
      obtain ⟨v2, e2, w2, z2⟩ := open_sl (cells := Sa.cells) (In := (Sa.In w)) (size := Sa.sz) Try.underlying24 cSa (fun _ _ => open_Sa) h2
      obtain rfl := List.head_eq_of_cons_eq e2
      have h3 : DataW.trod enc Try.prog w base spare held n 25 [c3] = some x3 := by simpa [cSlAc] using hf 3 _ rfl
      obtain ⟨v3, e3, w3, z3⟩ := open_sl (cells := Ac.cells) (In := (Ac.In w)) (size := Ac.sz) Try.underlying25 cAc (fun _ _ => open_Ac) h3
      obtain rfl := List.head_eq_of_cons_eq e3
      have h4 : DataW.trod enc Try.prog w base spare held n 26 [c4] = some x4 := by simpa [cSlTa] using hf 4 _ rfl
      obtain ⟨v4, e4, w4, z4⟩ := open_sl (cells := Ta.cells) (In := (Ta.In w)) (size := Ta.sz) Try.underlying26 cTa (fun _ _ => open_Ta) h4
      obtain rfl := List.head_eq_of_cons_eq e4
      have h5 : DataW.trod enc Try.prog w base spare held n 27 [c5] = some x5 := by simpa [cSlSt] using hf 5 _ rfl
      obtain ⟨v5, e5, w5, z5⟩ := open_sl (cells := St.cells) (In := (St.In w)) (size := St.sz) Try.underlying27 cSt (fun _ _ => open_St _) h5
      obtain rfl := List.head_eq_of_cons_eq e5
      have h6 : DataW.trod enc Try.prog w base spare held n 28 [c6] = some x6 := by simpa [cSlStr] using hf 6 _ rfl
      obtain ⟨v6, e6, w6, z6⟩ := open_sl (cells := strCells) (In := strOk) (size := strSize) Try.underlying28 cS (fun _ _ => open_str) h6
      obtain rfl := List.head_eq_of_cons_eq e6
      refine ⟨⟨v0, v1, v2, v3, v4, v5, v6⟩, rfl, ⟨w0, w1, w2, w3, w4, w5, w6⟩, ?_⟩
      simp only [List.map_cons, List.map_nil, Rows.uptoBulk, Rows.uptoBulkAll, Pr.sz]
      omega
end

end Go.Proofs.Ytpnaibfefpeikaa
