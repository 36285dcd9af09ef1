/-
  WHAT IS PROVED HERE: a part of the proof of the claim's theorem: NetS.
-/
import Derived.Test.YtkffjjlmoojffaaGreatDoorRows
import Derived.Test.YtkffjjlmoojffaaGreatDoorB26
import Derived.Test.YtkffjjlmoojffaaGreatDoorB25
import Derived.Deep.RegionHeld3
import Derived.Deep.CutRange
set_option linter.all false
namespace Go.Proofs.YtkffjjlmoojffaaGreatDoor
open Go.RowKit
def Gb (U : World) (c : Nat) (X : World) : Prop := U.grownBy X (some c)
theorem gb_drew (U : World) (c : Nat) : Gb U c U.drew := grown_drew U _
theorem ne_of_ge' {a b c : Nat} (h : a < c) (h2 : c ≤ b) : ¬ b = a := by omega
theorem Kn.two {c z : Nat} {a b : Value} {W : World} (h : Kn c [(z, [a, b])] W) (a' b' : Value) : Kn c [(z, [a', b'])] ((W.setCell ⟨z, 0, none⟩ a').setCell ⟨z, 1, none⟩ b') := by
  obtain ⟨h1, h2, h3, h4⟩ := h.all z [a, b] (.head _)
  have c0 := h3 0 a rfl
  have c1 := h3 1 b rfl
  refine ⟨fun z2 cs hz => ?_⟩
  rw [List.mem_singleton] at hz
  obtain ⟨rfl, rfl⟩ := Prod.mk.inj hz
  refine ⟨h1, by simpa using h2, fun i v hv => ?_, fun o => by simp [h4]⟩
  match i, hv with
  | 0, hv => obtain rfl := Option.some.inj hv; exact (World.cell?_setCell_other _ _ _ _ (by simp)).trans (World.cell?_setCell_same _ _ _ c0)
  | 1, hv => obtain rfl := Option.some.inj hv; exact World.cell?_setCell_same _ _ _ ((World.cell?_setCell_other _ _ _ _ (by simp)).trans c1)
  | i + 2, hv => cases hv
theorem Kn.put {c z : Nat} {cs : List Value} {W : World} (h : Kn c [(z, cs)] W) (i : Nat) (v : Value) : Kn c [(z, cs.set i v)] (W.setCell ⟨z, i, none⟩ v) := by
  obtain ⟨h1, h2, h3, h4⟩ := h.all z cs (.head _)
  refine ⟨fun z2 ds hz => ?_⟩
  rw [List.mem_singleton] at hz
  obtain ⟨rfl, rfl⟩ := Prod.mk.inj hz
  refine ⟨h1, by simpa using h2, fun j u hu => ?_, fun o => by simp [h4]⟩
  rw [List.getElem?_set] at hu
  split at hu
  · rename_i hij
    subst hij
    split at hu
    · rename_i hi
      obtain rfl := Option.some.inj hu
      exact World.cell?_setCell_same _ _ _ (h3 _ _ (List.getElem?_eq_getElem hi))
    · cases hu
  · rename_i hij
    rw [World.cell?_setCell_other _ _ _ _ (fun e => hij (congrArg Addr.off e))]
    exact h3 j u hu
theorem Kn.other {c z m : Nat} {cs : List Value} {W : World} (h : Kn c [(z, cs)] W) (hm : ¬ m = z) (i : Nat) (v : Value) : Kn c [(z, cs)] (W.setCell ⟨m, i, none⟩ v) := by
  obtain ⟨h1, h2, h3, h4⟩ := h.all z cs (.head _)
  refine ⟨fun z2 ds hz => ?_⟩
  rw [List.mem_singleton] at hz
  obtain ⟨rfl, rfl⟩ := Prod.mk.inj hz
  refine ⟨h1, by simpa using h2, fun j u hu => (World.cell?_setCell_other _ _ _ _ (fun e => hm (congrArg Addr.block e))).trans (h3 j u hu), fun o => by simp [h4]⟩
theorem Kn.apart {c : Nat} {zs : List (Nat × List Value)} {W W' : World} (h : Kn c zs W) {r : Option Nat} (hg : W.grownBy W' r) (hr : ∀ z cs, (z, cs) ∈ zs → r ≠ some z) : Kn c zs W' := by
  refine ⟨fun z cs hz => ?_⟩
  obtain ⟨h1, h2, h3, h4⟩ := h.all z cs hz
  have hb := hg.block z h2 (fun e => hr z cs hz e.symm)
  exact ⟨h1, Nat.lt_of_lt_of_le h2 hg.size, fun i v hv => (World.cell?_of_block (w := W) (a := ⟨z, i, none⟩) hb).trans (h3 i v hv), fun o => (World.frozen?_of_block (w := W) (a := ⟨z, o, none⟩) hb).trans (h4 o)⟩
def KeptN (rb : Nat) (w w' : World) : Prop := ∀ z c fr, rb < z → w.heap[z]? = some (.cells c 27 fr) → w'.heap[z]? = some (.cells c 27 fr)
theorem KeptN.refl (rb : Nat) (w : World) : KeptN rb w w := fun _ _ _ _ h => h
theorem KeptN.grown {rb : Nat} {w W W' : World} (h : KeptN rb w W) {r : Option Nat} (hg : W.grownBy W' r) (hr : ∀ z c fr, rb < z → W.heap[z]? = some (.cells c 27 fr) → r ≠ some z) : KeptN rb w W' := fun z c fr hz e => by
  have h1 := h z c fr hz e
  have hlt := (Array.getElem?_eq_some_iff.1 h1).1
  exact (hg.block z hlt (fun e2 => hr z c fr hz h1 e2.symm)).trans h1
theorem KeptN.set {rb : Nat} {w W : World} (h : KeptN rb w W) {m : Nat} (hm : m ≤ rb ∨ w.heap.size ≤ m) (i : Nat) (v : Value) : KeptN rb w (W.setCell ⟨m, i, none⟩ v) := fun z c fr hz e => by
  have hlt := (Array.getElem?_eq_some_iff.1 e).1
  exact (Below.heap_setCell _ _ _ _ (by show z ≠ m; omega)).trans (h z c fr hz e)
theorem own_nonet {α : Type} {W : World} {base : Nat} {e : TypeId} {C : Nat} {f : α → List Value} {v : Value} {l : List α} (h : Own W base e C f v l) (he : e ≠ 27) {z : Nat} {c : Array Value} {fr : Nat × Nat} (hz : W.heap[z]? = some (.cells c 27 fr)) : v.ownBlock ≠ some z := by
  rcases h.2 with ⟨rfl, _⟩ | ⟨g1, c1, cur1, rfl, _, hh1, _⟩
  · intro h; cases h
  · intro h
    have : g1 = z := Option.some.inj h
    subst this
    rw [hh1] at hz
    have := Option.some.inj hz
    injection this with _ h2 _
    exact he h2
structure PI (rb cb : Nat) (s : ByteArray) (g cap : Nat) (l : List Tok) (W5 : World) (sw po li lk : Value) (pvs : List Sl3) (n : Net') (linked : List End') (k : Nat) (W : World) : Prop where
  below : Below cb W5 W
  size : cb ≤ W5.heap.size
  gb : g < cb
  cr : cb < rb
  cu : Cu W cb s g cap l k
  rp : Rp W rb cb sw po li lk
  ni : NI (rb + 1) W sw po li pvs n
  lk : Own W (rb + 1) 41 2 endC lk linked
  kp : KeptN rb W5 W
section
variable {rb cb : Nat} {s : ByteArray} {g cap : Nat} {l : List Tok} {W5 w0 W W' : World} {sw po li lk : Value} {pvs : List Sl3} {n : Net'} {linked : List End'} {k : Nat}
theorem PI.step (h : PI rb cb s g cap l W5 sw po li lk pvs n linked k W) {k' : Nat} (hg : W.grownBy W' (some cb)) (hX : Cu W' cb s g cap l k') : PI rb cb s g cap l W5 sw po li lk pvs n linked k' W' :=
  ⟨h.below.grown hg (by have := h.cu.lt; omega) (fun k e => by have := Option.some.inj e; omega), h.size, h.gb, h.cr, hX, h.rp.grown hg (fun e => by have := Option.some.inj e; have := h.cr; omega), h.ni.up (by have := h.cr; omega) hg, h.lk.kept hg (own_block h.lk cb (by have := h.cr; omega)), h.kp.grown hg (fun z _ _ hz _ e => by have := Option.some.inj e; have := h.cr; omega)⟩
theorem PI.plus (h : PI rb cb s g cap l W5 sw po li lk pvs n linked k W) (x : Ext) : PI rb cb s g cap l W5 sw po li lk pvs n linked k (Go.Proofs.YtkffjjlmoojffaaGreatDoor.plus W x) := h.step (grown_plus_any _ _ _) (h.cu.plus x)
theorem PI.alloc (h : PI rb cb s g cap l W5 sw po li lk pvs n linked k W) (o : Obj) : PI rb cb s g cap l W5 sw po li lk pvs n linked k (W.alloc o) := h.step (grown_alloc _ _ _) (h.cu.alloc o)
theorem PI.drew (h : PI rb cb s g cap l W5 sw po li lk pvs n linked k W) : PI rb cb s g cap l W5 sw po li lk pvs n linked k W.drew := h.step (grown_drew _ _) (h.cu.keep (Nat.le_refl _) rfl rfl)
theorem rowStep2 {α : Type} (f : α → List Value) (e T : TypeId) (C bytes : Nat) (z : Value) (hT : Tryz.prog.underlying T = some (.slice e)) (hinfo : (Tryz.prog.info? e).map (fun i => (i.zero, i.size, i.bytes)) = some (some z, C, bytes)) (hzs : z.cells.size = C) (hC0 : 0 < C) (hby : bytes ≤ 64)
    (hC : ∀ y, (f y).length = C) (h1 : ∀ y, ∀ u ∈ f y, u.oneCell' = true) {W : World} {base : Nat} (p : Option Addr) (n c : Nat) {l : List α} (hn : l.length = n) {ops : Array Oper} {o : Oper} {a : Act} {K : Act → World → Prop} {Q : Exit → Act → World → Prop} {E : Prop}
    (h : W.ownsRow base e C (.slice p n c) n ((l.map f).flatten)) (hbase : base ≤ W.heap.size) (hb : l.length ≤ 1048576) (y : α) (g : Nat) (hcell : ∀ j u, (f y)[j]? = some u → W.cell? ⟨g, j, none⟩ = some u) (hgd : o.guard = none) (s x : Operand)
    (ho : o.op = .call { callee := .builtin .append, args := #[s, x], argTypes := #[T, T] }) (hs : a.eval s = .slice p n c) (hx : a.eval x = .slice (some ⟨g, 0, none⟩) 1 1)
    (k : ∀ g' c' w', Own w' base e C f (.slice (some ⟨g', 0, none⟩) (n + 1) c') (l ++ [y]) → W.grownBy w' (Value.slice p n c).ownBlock → ((Value.slice p n c).ownBlock = some g' ∨ g' = W.heap.size) → K (a.put o.dst (.slice (some ⟨g', 0, none⟩) (n + 1) c')) w') : if Region.wanted o (yielded ops a.tmps) = true then Oper.wp Tryz.prog o a W K Q else E := by
  obtain ⟨i0, hi0, hi1, hi2, hi3⟩ := info_parts hinfo
  refine step_append_lies W hgd s x T ho base e i0 z C bytes hT hi0 hi1 hi2 hi3 hzs hC0 (.slice p n c) n _ hs h ⟨g, 0, none⟩ 1 1 (f y) hx (by rw [hC y, Nat.one_mul]) (fun j u hu => by rw [Addr.add_lit, Nat.zero_add]; exact hcell j u hu) (h1 y)
    (by decide) (by simp only [maxLen]; omega) ?_ hbase _ rfl fun g' cap w' h3 h4 h5 _ => k g' cap w' (by
      subst hn
      show w'.ownsRow base _ C _ (l ++ [y]).length (((l ++ [y]).map f).flatten)
      rw [List.length_append, List.map_append, List.flatten_append]
      simpa using h3) h4 h5
  have : (n + 1) * bytes ≤ 1048577 * 64 := Nat.mul_le_mul (by omega) hby
  omega
theorem Rp.put4 (h : Rp W rb cb sw po li lk) (v : Value) : Rp (W.setCell ⟨rb, 4, none⟩ v) rb cb sw po li v := by
  refine ⟨by simpa using h.lt, ?_, ?_, ?_, ?_, World.cell?_setCell_same _ _ _ h.c4, fun o => by rw [World.frozen?_setCell]; exact h.fz o⟩
  · exact (World.cell?_setCell_other _ _ _ _ (by simp)).trans h.c0
  · exact (World.cell?_setCell_other _ _ _ _ (by simp)).trans h.c1
  · exact (World.cell?_setCell_other _ _ _ _ (by simp)).trans h.c2
  · exact (World.cell?_setCell_other _ _ _ _ (by simp)).trans h.c3
theorem Cu.app (h : Cu W cb s g cap l k) (hgb : g < cb) {v : Value} (hg : W.grownBy W' v.ownBlock) (hv : ∀ k, v.ownBlock = some k → cb < k) : Cu W' cb s g cap l k :=
  h.keep hg.size (hg.block cb h.lt (fun e => by have := hv cb e.symm; omega)) (hg.block g (by have := h.lt; omega) (fun e => by have := hv g e.symm; omega))
theorem PI.app (h : PI rb cb s g cap l W5 sw po li lk pvs n linked k W) (hg : W.grownBy W' lk.ownBlock) {lk' : Value} {linked' : List End'} (ho : Own W' (rb + 1) 41 2 endC lk' linked') : PI rb cb s g cap l W5 sw po li lk' pvs n linked' k (W'.setCell ⟨rb, 4, none⟩ lk') := by
  have hv : ∀ k, lk.ownBlock = some k → rb + 1 ≤ k := fun k e => (h.lk.lt k e).1
  have hcr := h.cr
  have hsz := h.cu.lt
  have hB := h.below.grown hg (by omega) (fun k e => by have := hv k e; omega)
  have hC := h.cu.app h.gb hg (fun k e => by have := hv k e; omega)
  have hR : Rp W' rb cb sw po li lk := h.rp.block hg.size (hg.block rb h.rp.lt (fun e => by have := hv rb e.symm; omega))
  have hN : NI (rb + 1) W' sw po li pvs n := ⟨own_other h.ni.sw hg (own_type h.ni.sw h.lk (by decide)), own_other h.ni.po hg (own_type h.ni.po h.lk (by decide)), own_other h.ni.li hg (own_type h.ni.li h.lk (by decide)), h.ni.len, fun i x ps hx hp => ⟨own_other (h.ni.each i x ps hx hp).1 hg (own_type (h.ni.each i x ps hx hp).1 h.lk (by decide)), (h.ni.each i x ps hx hp).2⟩⟩
  exact ⟨hB.setCell (p := ⟨rb, 4, none⟩) (by show cb ≤ rb; omega) _, h.size, h.gb, h.cr, hC.set (by omega) (by have := h.gb; omega) _ _, hR.put4 _, hN.up (Nat.lt_succ_self rb) (grown_put _ _ _ _), ho.kept (grown_put W' rb 4 lk') (own_block ho rb (Nat.lt_succ_self rb)), (h.kp.grown hg (fun z _ _ _ hh => own_nonet h.lk (by decide) hh)).set (.inl (Nat.le_refl rb)) _ _⟩
theorem PI.rpApp (h : PI rb cb s g cap l W5 sw po li lk pvs n linked k W) (hg : W.grownBy W' lk.ownBlock) : Rp W' rb cb sw po li lk :=
  h.rp.block hg.size (hg.block rb h.rp.lt (fun e => by have := (h.lk.lt rb e.symm).1; omega))
def Apart (z : Nat) (sw po li : Value) (pvs : List Sl3) : Prop := (sw.ownBlock ≠ some z ∧ po.ownBlock ≠ some z ∧ li.ownBlock ≠ some z) ∧ ∀ (i : Nat) (x : Sl3), pvs[i]? = some x → x.v.ownBlock ≠ some z
theorem NI.apart {base : Nat} (h : NI base W sw po li pvs n) {z : Nat} (hz : W.heap.size ≤ z) : Apart z sw po li pvs := by
  refine ⟨⟨fun e => by have := (h.sw.lt z e).2; omega, fun e => by have := (h.po.lt z e).2; omega, fun e => by have := (h.li.lt z e).2; omega⟩, fun i x hx e => ?_⟩
  have hi := (List.getElem?_eq_some_iff.1 hx).1
  obtain ⟨ps, hps⟩ : ∃ ps, n.ports[i]? = some ps := ⟨_, List.getElem?_eq_getElem (by rw [← h.len]; exact hi)⟩
  have := ((h.each i x ps hx hps).1.lt z e).2
  omega
theorem PI.setz (h : PI rb cb s g cap l W5 sw po li lk pvs n linked k W) {z : Nat} (hz : rb < z) (hz5 : W5.heap.size ≤ z) (ha : Apart z sw po li pvs) (hl : lk.ownBlock ≠ some z) (i : Nat) (v : Value) : PI rb cb s g cap l W5 sw po li lk pvs n linked k (W.setCell ⟨z, i, none⟩ v) := by
  have hcr := h.cr
  have hg := grown_put W z i v
  exact ⟨h.below.setCell (p := ⟨z, i, none⟩) (by show cb ≤ z; omega) _, h.size, h.gb, h.cr, h.cu.set (by omega) (by have := h.gb; omega) _ _, h.rp.grown hg (fun e => by have := Option.some.inj e; omega),
    ⟨h.ni.sw.kept hg (.inr ha.1.1), h.ni.po.kept hg (.inr ha.1.2.1), h.ni.li.kept hg (.inr ha.1.2.2), h.ni.len, fun j x ps hx hp => ⟨(h.ni.each j x ps hx hp).1.kept hg (.inr (ha.2 j x hx)), (h.ni.each j x ps hx hp).2⟩⟩, h.lk.kept hg (.inr hl), h.kp.set (.inr hz5) _ _⟩
def Still (w : World) (cb rb : Nat) (r : Option Nat) (w' : World) : Prop := w.heap.size ≤ w'.heap.size ∧ ∀ z, z < w.heap.size → z ≠ cb → z ≠ rb → r ≠ some z → w'.heap[z]? = w.heap[z]?
theorem Kn.still {c cb rb : Nat} {zs : List (Nat × List Value)} {W W' : World} {r : Option Nat} (h : Kn c zs W) (hs : Still W cb rb r W') (hne : ∀ z cs, (z, cs) ∈ zs → z ≠ cb ∧ z ≠ rb ∧ r ≠ some z) : Kn c zs W' := by
  refine ⟨fun z cs hz => ?_⟩
  obtain ⟨h1, h2, h3, h4⟩ := h.all z cs hz
  obtain ⟨n1, n2, n3⟩ := hne z cs hz
  have hb := hs.2 z h2 n1 n2 n3
  exact ⟨h1, Nat.lt_of_lt_of_le h2 hs.1, fun i v hv => (World.cell?_of_block (w := W) (a := ⟨z, i, none⟩) hb).trans (h3 i v hv), fun o => (World.frozen?_of_block (w := W) (a := ⟨z, o, none⟩) hb).trans (h4 o)⟩
def PEnds {α : Type} (rb cb : Nat) (s : ByteArray) (g cap : Nat) (l : List Tok) (W5 : World) (r : Rs α) (v : α → Value) (N : α → Net') (L : α → List End') (F : World → Prop) (e : Ending) (w' : World) : Prop := match r with
  | .ok a k' => e = .returned (v a) ∧ (∃ sw po li lk pvs, PI rb cb s g cap l W5 sw po li lk pvs (N a) (L a) k' w') ∧ F w'
  | .bad p E => e = gaveUp E (lineOf s p : Nat) (colOf s p : Nat) ∧ Below cb W5 w'
theorem want_next (hl : TL l s.size) (hk : k < l.length) (x : ByteArray) (hx : WordOk x) (e : (getT l k).s = x) : k + 1 < l.length := by
  refine next_lt hl k hk ?_
  have := kind_of hl k hk (by rw [e]; exact hx.1) (by rw [e]; exact hx.2)
  omega
theorem wantM_lt (hl : TL l s.size) {k : Nat} (hk : k < l.length) (x : ByteArray) (hx : WordOk x) {a : Unit} {k' : Nat} (e : wantM l k x = .ok a k') : k' < l.length := by
  unfold wantM at e
  split at e
  · rename_i hi
    cases e
    exact want_next hl hk x hx (by simpa [isM] using hi)
  · cases e
theorem cu_want (hl : TL l s.size) (hs : s.size ≤ 140737488355328) (x : ByteArray) (hx : WordOk x) {k : Nat} (h : Cu W cb s g cap l k) (hk : k < l.length) (r : Nat) (hr : W.cell? ⟨r, 0, none⟩ = some (.string x)) :
    Calls Tryz.prog 62 #[.pointer (some ⟨cb, 0, none⟩), .slice (some ⟨r, 0, none⟩) 1 1] W fun e w' => CuEnds W cb s g cap l (wantM l k x) (fun _ => .tuple #[]) e w' ∧ ∀ a k', wantM l k x = .ok a k' → k' < l.length :=
  (cur_want h (getT_get k hk) x r hr (want_next hl hk x hx) hs (hl.at_ k _ (getT_get k hk))).mono (fun e w' h => ⟨h, fun a k' e => wantM_lt hl hk x hx e⟩)
theorem cu_name (hl : TL l s.size) (hs : s.size ≤ 140737488355328) {k : Nat} (h : Cu W cb s g cap l k) (hk : k < l.length) : Calls Tryz.prog 63 #[.pointer (some ⟨cb, 0, none⟩)] W (CuEnds W cb s g cap l (nameM l k) fun x => .string x) :=
  cur_name h (getT_get k hk) (fun e => next_lt hl k hk (by rw [name_kind hl k hk e]; decide)) hs (hl.at_ k _ (getT_get k hk)) (Nat.le_trans (hl.sz k _ (getT_get k hk)) hs)
theorem nameM_lt (hl : TL l s.size) {k : Nat} (hk : k < l.length) {x : ByteArray} {k' : Nat} (e : nameM l k = .ok x k') : k' < l.length := by
  unfold nameM at e
  split at e
  · rename_i hi
    cases e
    exact next_lt hl k hk (by rw [name_kind hl k hk hi]; decide)
  · cases e
theorem cu_num (hl : TL l s.size) (hs : s.size ≤ 140737488355328) {k : Nat} (h : Cu W cb s g cap l k) (hk : k < l.length) : Calls Tryz.prog 88 #[.pointer (some ⟨cb, 0, none⟩)] W (CuEnds W cb s g cap l (numM l k) tokA) :=
  cur_number h (getT_get k hk) (fun e => next_lt hl k hk (by rw [e]; decide)) hs (hl.at_ k _ (getT_get k hk))
theorem numM_ok (hl : TL l s.size) {k : Nat} (hk : k < l.length) {t : Tok} {k' : Nat} (e : numM l k = .ok t k') : k' < l.length ∧ t.at_ ≤ s.size ∧ t.n < 340282366920938463463374607431768211456 := by
  unfold numM at e
  split at e
  · rename_i hi
    cases e
    exact ⟨next_lt hl k hk (by rw [hi]; decide), hl.at_ k _ (getT_get k hk), hl.n k _ (getT_get k hk)⟩
  · cases e
theorem endM_lt (hl : TL l s.size) {k : Nat} (hk : k < l.length) {n : Net'} {ls : List End'} {a : End'} {k' : Nat} (e : endM l k n ls = .ok a k') : k' < l.length := by
  unfold endM at e
  cases h1 : nameM l k with
  | bad _ _ => rw [h1, Rs.bind_bad rfl] at e; cases e
  | ok x k1 =>
    rw [h1, Rs.bind_ok rfl] at e
    split at e
    · cases e
    · cases h2 : wantM l k1 wColon with
      | bad _ _ => rw [h2, Rs.bind_bad rfl] at e; cases e
      | ok u k2 =>
        rw [h2, Rs.bind_ok rfl] at e
        have hk2 := wantM_lt hl (nameM_lt hl hk h1) wColon w_ok.2.2.2.2.2 h2
        cases h3 : numM l k2 with
        | bad _ _ => rw [h3, Rs.bind_bad rfl] at e; cases e
        | ok t k3 =>
          rw [h3, Rs.bind_ok rfl] at e
          have hk3 := (numM_ok hl hk2 h3).1
          cases h4 : bareM t k3 1 511 5 with
          | bad _ _ => rw [h4, Rs.bind_bad rfl] at e; cases e
          | ok p k4 =>
            rw [h4, Rs.bind_ok rfl] at e
            have : k4 = k3 := by
              unfold bareM at h4
              split at h4
              · cases h4; rfl
              · cases h4
            subst this
            split at e
            · cases e
            · split at e
              · cases e
              · cases e; exact hk3
set_option maxRecDepth 100000 in
set_option maxHeartbeats 16000000 in
theorem tp_freeEnd (hl : TL l s.size) (hs : s.size ≤ 140737488355328) (h : PI rb cb s g cap l W5 sw po li lk pvs n linked k w0) (hk : k < l.length) (hb1 : n.names.length ≤ 1048576) (hb2 : n.ports.length ≤ 1048576) (hb3 : linked.length ≤ 1048575) :
    Calls Tryz.prog 69 #[.pointer (some ⟨rb, 0, none⟩)] w0 (PEnds rb cb s g cap l W5 (endM l k n linked) endV (fun _ => n) (fun x => linked ++ [x]) (Still w0 cb rb lk.ownBlock)) := by
  obtain ⟨t, ht⟩ : ∃ t, getT l k = t := ⟨_, rfl⟩
  have hgt := getT_get k hk
  rw [ht] at hgt
  have hat := hl.at_ k _ hgt
  obtain ⟨RT, hRT⟩ : ∃ R, endM l k n linked = R := ⟨_, rfl⟩
  obtain ⟨RN, hRN⟩ : ∃ R, nameM l k = R := ⟨_, rfl⟩
  rw [hRT]
  unfold endM at hRT
  rw [hRN, ht] at hRT
  obtain ⟨K, hK⟩ : ∃ K, (t.kind : Int) = K := ⟨_, rfl⟩
  have hTA : Hid (tokA t = .agg #[.int .u8 K, .string t.s, .int .i64 t.w, .int .u64 (hi t.n), .int .u64 (lo t.n), .int .i64 (t.at_ : Int)]) := by show _ = _; rw [← hK]
  obtain ⟨p1, c1, rfl⟩ := own_sl3 h.ni.sw
  obtain ⟨p2, c2, rfl⟩ := own_sl3 h.ni.po
  obtain ⟨p3, c3, rfl⟩ := own_sl3 h.ni.li
  obtain ⟨p4, c4, rfl⟩ := own_sl3 h.lk
  have hN := h.ni.ok (b := cb) (by have := h.cr; omega)
  obtain ⟨n1, hn1⟩ : ∃ m, n.names.length = m := ⟨_, rfl⟩
  obtain ⟨n2, hn2⟩ : ∃ m, pvs.length = m := ⟨_, rfl⟩
  obtain ⟨n3, hn3⟩ : ∃ m, n.links.length = m := ⟨_, rfl⟩
  obtain ⟨n4, hn4⟩ : ∃ m, linked.length = m := ⟨_, rfl⟩
  rw [hn1, hn2, hn3, hn4] at h
  rw [hn4]
  rw [hn1, hn2, hn3] at hN
  have hRc := Lib.hid (fun (W : World) (hg : w0.grownBy W (some cb)) => (⟨(h.rp.grown hg (fun e => by have := Option.some.inj e; have := h.cr; omega)).c0, (h.rp.grown hg (fun e => by have := Option.some.inj e; have := h.cr; omega)).c1, (h.rp.grown hg (fun e => by have := Option.some.inj e; have := h.cr; omega)).c2, (h.rp.grown hg (fun e => by have := Option.some.inj e; have := h.cr; omega)).c3, (h.rp.grown hg (fun e => by have := Option.some.inj e; have := h.cr; omega)).c4⟩ : W.cell? ⟨rb, 0, none⟩ = some (.pointer (some ⟨cb, 0, none⟩)) ∧ W.cell? ⟨rb, 1, none⟩ = some (.slice p1 n1 c1) ∧ W.cell? ⟨rb, 2, none⟩ = some (.slice p2 n2 c2) ∧ W.cell? ⟨rb, 3, none⟩ = some (.slice p3 n3 c3) ∧ W.cell? ⟨rb, 4, none⟩ = some (.slice p4 n4 c4)))
  have hNx := Lib.hid (fun (W : World) (hX : Cu W cb s g cap l k) => cur_next hX hgt)
  rw [hTA.out] at hNx
  have hNm := Lib.hid (fun (W : World) (hX : Cu W cb s g cap l k) => cu_name hl hs hX hk)
  rw [hRN] at hNm
  have hFi0 := Lib.hid (fun (X : World) (hg : w0.grownBy X (some cb)) (x : ByteArray) => tp_find (w := X) (.slice p1 n1 c1) n.names x p2 p3 n2 c2 n3 c3 (hN X hg).1 hb1)
  have hTh0 := Lib.hid (fun (X : World) (hg : w0.grownBy X (some cb)) (e : End') => tp_there (w := X) pvs n e (.slice p2 n2 c2) p1 p3 n1 c1 n3 c3 (hN X hg).2.1 hb2 hn1)
  have hCo0 := Lib.hid (fun (X : World) (hg : w0.grownBy X (some cb)) (e : End') => tp_containsE (w := X) (.slice p4 n4 c4) linked e (own_lies (h.lk.kept hg (own_block h.lk cb (by have := h.cr; omega))) endC_len) (by omega))
  have hBel0 := Lib.hid (fun (W : World) (hg : w0.grownBy W (some cb)) => h.below.grown hg (by have := h.cu.lt; omega) (fun k e => by have := Option.some.inj e; omega))
  have hName := Lib.hid (fun x k' (e : RN = .ok x k') => nameM_lt hl hk (hRN.trans e))
  have hNo0 := Lib.hid (fun (W : World) (j : Nat) (hX : Cu W cb s g cap l j) => cur_needAt hX t 7 (by decide) hs hat)
  have hYes := Lib.hid (fun (tt : Tok) e0 w => cur_needAt_yes tt e0 cb w)
  rw [hTA.out] at hNo0
  have hX0 := h.cu
  have hcl : cb < w0.heap.size := h.cu.lt
  have hcs0 : Hid (cb < w0.heap.size) := Lib.hid hcl
  have hgs0 : Hid (g < w0.heap.size) := Lib.hid (by have := h.gb; omega)
  have hl' := Lib.hid hl
  have hs' := Lib.hid hs
  have hP := Lib.hid h
  have hn4' := Lib.hid hn4
  have hb3' := Lib.hid hb3
  replace hRT := Lib.hid hRT
  clear hl hs h hk hb1 hb2 hb3 ht hgt hat hRN hK hN hn1 hn2 hn3 hn4
  go_enter Tryz.func69, Tryz.ntmps69
  go_upto_region 1 with (fail)
  have hX1 := hX0.alloc (.cells #[.int .i64 0, .int .i64 0] 41)
  have hg1 := grown_alloc w0 (.cells #[.int .i64 0, .int .i64 0] 41) (some cb)
  have hk1 := (Kn.nil cb w0).new hX0.lt [.int .i64 0, .int .i64 0] 41
  change Kn cb _ (w0.alloc (.cells #[.int .i64 0, .int .i64 0] 41)) at hk1
  obtain ⟨V1, hV1⟩ : ∃ W, w0.alloc (.cells #[.int .i64 0, .int .i64 0] 41) = W := ⟨_, rfl⟩
  rw [hV1] at hX1 hg1 hk1 ⊢
  clear hV1 hX0
  obtain ⟨zr, hzr⟩ : ∃ z, w0.heap.size = z := ⟨_, rfl⟩
  rw [hzr] at hk1 hcl ⊢
  replace hzr := Lib.hid hzr
  obtain ⟨r0, r1, r2, r3, r4⟩ := hRc.out V1 hg1
  replace hk1 := Lib.hid hk1
  replace hg1 := Lib.hid hg1
  replace hX1 := Lib.hid hX1
  go_wp2_with fail
  refine (hNx.out _ hX1.out).mono ?_
  rintro e V2 ⟨rfl, y, rfl⟩
  clear hNx r0 r1 r2 r3 r4
  have hX2 := hX1.out.plus y
  have hg2 := grown_trans hg1.out (grown_plus_any V1 y (some cb))
  have hk2 := hk1.out.plus y
  clear hX1 hg1 hk1
  obtain ⟨V2, hV2⟩ : ∃ W, Go.Proofs.YtkffjjlmoojffaaGreatDoor.plus V1 y = W := ⟨_, rfl⟩
  rw [hV2] at hX2 hg2 hk2 ⊢
  clear hV2
  go_upto_region 2 with (fail)
  have hX3 := hX2.alloc (.cells #[.int .u8 K, .string t.s, .int .i64 t.w, .int .u64 (hi t.n), .int .u64 (lo t.n), .int .i64 (t.at_ : Int)] 60)
  have hg3 := grown_trans hg2 (grown_alloc V2 (.cells #[.int .u8 K, .string t.s, .int .i64 t.w, .int .u64 (hi t.n), .int .u64 (lo t.n), .int .i64 (t.at_ : Int)] 60) (some cb))
  have hk3 := hk2.new hX2.lt [.int .u8 K, .string t.s, .int .i64 t.w, .int .u64 (hi t.n), .int .u64 (lo t.n), .int .i64 (t.at_ : Int)] 60
  change Kn cb _ (V2.alloc (.cells #[.int .u8 K, .string t.s, .int .i64 t.w, .int .u64 (hi t.n), .int .u64 (lo t.n), .int .i64 (t.at_ : Int)] 60)) at hk3
  obtain ⟨V, hV⟩ : ∃ W, V2.alloc (.cells #[.int .u8 K, .string t.s, .int .i64 t.w, .int .u64 (hi t.n), .int .u64 (lo t.n), .int .i64 (t.at_ : Int)] 60) = W := ⟨_, rfl⟩
  have hkr := hk2.grown (grown_alloc V2 (.cells #[.int .u8 K, .string t.s, .int .i64 t.w, .int .u64 (hi t.n), .int .u64 (lo t.n), .int .i64 (t.at_ : Int)] 60) (some cb))
  rw [hV] at hX3 hg3 hk3 hkr ⊢
  replace hkr := Lib.hid hkr
  clear hV hX2 hg2 hk2
  generalize V2.heap.size = zt at hk3 ⊢
  replace hk3 := Lib.hid hk3
  have hgV := Lib.hid hg3
  have hXV := Lib.hid hX3
  clear hX3 hg3
  have hcs0 : Hid (cb < V.heap.size) := Lib.hid hXV.out.lt
  have hgs0 : Hid (g < V.heap.size) := Lib.hid (by have := hP.out.gb; have := hXV.out.lt; omega)
  have hRcV := Lib.hid (fun (W : World) (hg : V.grownBy W (some cb)) => hRc.out W (grown_trans hgV.out hg))
  have hFi := Lib.hid (fun (W : World) (hg : V.grownBy W (some cb)) (x : ByteArray) => hFi0.out W (grown_trans hgV.out hg) x)
  have hBel := Lib.hid (fun (W : World) (hg : V.grownBy W (some cb)) => hBel0.out W (grown_trans hgV.out hg))
  clear hFi0
  go_cut [4] from 11 to 21 (fun s4 wx => Hid (∃ nb x k1, RN = .ok x k1 ∧ s4 = .pointer (some ⟨nb, 0, none⟩) ∧ V.heap.size ≤ nb ∧ V.grownBy wx (some cb) ∧ Cu wx cb s g cap l k1 ∧ Kn cb [(nb, [.int .i64 (findF n.names x), .int .i64 0])] wx))
  case first =>
    refine wp_region_held_drew (S := Gb V cb) (by kernel_rfl) (gb_drew _ _) (fun hHeld => ?_)
    have hp0 : V.grownBy V.drew (some cb) := gb_drew V cb
    have hX0 : Cu V.drew cb s g cap l k := hXV.out.keep (Nat.le_refl _) rfl rfl
    obtain ⟨U0, hU0⟩ : ∃ W, V.drew = W := ⟨_, rfl⟩
    rw [hU0] at hHeld hp0 hX0 ⊢
    clear hU0 hRc
    refine wpAnyH_take (i := 0) (v := ?vz1) rfl (by kernel_rfl) (by kernel_rfl) (by kernel_rfl) (fun _ _ _ h => h) (Or.inl ⟨by rfl, ?hz1⟩) hp0 ?rz1
    case hz1 =>
      intro Wq hWq
      obtain ⟨r0, r1, r2, r3, r4⟩ := hRcV.out Wq hWq
      go_simp
      try with_reducible rfl
    try simp only [Act.put, List.setIfInBounds_toArray, List.set_cons_zero, List.set_cons_succ]
    refine wpAnyH_take (i := 1) (v := ?vz2) rfl (by kernel_rfl) (by kernel_rfl) (by kernel_rfl) (fun _ _ _ h => h) (Or.inl ⟨by rfl, ?hz2⟩) hp0 ?rz2
    case hz2 =>
      intro Wq hWq
      obtain ⟨r0, r1, r2, r3, r4⟩ := hRcV.out Wq hWq
      go_simp
      try with_reducible rfl
    try simp only [Act.put, List.setIfInBounds_toArray, List.set_cons_zero, List.set_cons_succ]
    refine wpAnyH_take (i := 2) (v := ?vz3) rfl (by kernel_rfl) (by kernel_rfl) (by kernel_rfl) (fun _ _ _ h => h) (Or.inl ⟨by rfl, ?hz3⟩) hp0 ?rz3
    case hz3 =>
      intro Wq hWq
      obtain ⟨r0, r1, r2, r3, r4⟩ := hRcV.out Wq hWq
      go_simp
      try with_reducible rfl
    try simp only [Act.put, List.setIfInBounds_toArray, List.set_cons_zero, List.set_cons_succ]
    refine wpAnyH_take (i := 3) (v := ?vz4) rfl (by kernel_rfl) (by kernel_rfl) (by kernel_rfl) (fun _ _ _ h => h) (Or.inl ⟨by rfl, ?hz4⟩) hp0 ?rz4
    case hz4 =>
      intro Wq hWq
      obtain ⟨r0, r1, r2, r3, r4⟩ := hRcV.out Wq hWq
      go_simp
      try with_reducible rfl
    try simp only [Act.put, List.setIfInBounds_toArray, List.set_cons_zero, List.set_cons_succ]
    refine wpAnyH_take (i := 4) (v := ?vz5) rfl (by kernel_rfl) (by kernel_rfl) (by kernel_rfl) (fun _ _ _ h => h) (Or.inl ⟨by rfl, ?hz5⟩) hp0 ?rz5
    case hz5 =>
      intro Wq hWq
      obtain ⟨r0, r1, r2, r3, r4⟩ := hRcV.out Wq hWq
      go_simp
      try with_reducible rfl
    try simp only [Act.put, List.setIfInBounds_toArray, List.set_cons_zero, List.set_cons_succ]
    refine wpAnyH_take (i := 5) (v := ?vz6) rfl (by kernel_rfl) (by kernel_rfl) (by kernel_rfl) (fun _ _ _ h => h) (Or.inl ⟨by rfl, ?hz6⟩) hp0 ?rz6
    case hz6 =>
      intro Wq hWq
      obtain ⟨r0, r1, r2, r3, r4⟩ := hRcV.out Wq hWq
      go_simp
      try with_reducible rfl
    try simp only [Act.put, List.setIfInBounds_toArray, List.set_cons_zero, List.set_cons_succ]
    refine wpAnyH_take (i := 6) (v := ?vz7) rfl (by kernel_rfl) (by kernel_rfl) (by kernel_rfl) (fun _ _ _ h => h) (Or.inl ⟨by rfl, ?hz7⟩) hp0 ?rz7
    case hz7 =>
      intro Wq hWq
      obtain ⟨r0, r1, r2, r3, r4⟩ := hRcV.out Wq hWq
      go_simp
      try with_reducible rfl
    try simp only [Act.put, List.setIfInBounds_toArray, List.set_cons_zero, List.set_cons_succ]
    refine wpAnyH_take (i := 7) (v := ?vz8) rfl (by kernel_rfl) (by kernel_rfl) (by kernel_rfl) (fun _ _ _ h => h) (Or.inl ⟨by rfl, ?hz8⟩) hp0 ?rz8
    case hz8 =>
      intro Wq hWq
      obtain ⟨r0, r1, r2, r3, r4⟩ := hRcV.out Wq hWq
      go_simp
      try with_reducible rfl
    try simp only [Act.put, List.setIfInBounds_toArray, List.set_cons_zero, List.set_cons_succ]
    refine wpAnyH_ready (rs := [8, 11]) (by kernel_rfl) (by simp) ?_
    refine AllReadyH.cons rfl (fun K hK => ?_) ?_
    · go_simp
      refine (hNm.out _ hX0).mono ?_
      intro r w' hE
      cases RN with
      | bad q E =>
        obtain ⟨rfl, hg9⟩ := hE
        obtain rfl : RT = .bad q E := hRT.out.symm
        exact ⟨rfl, rfl, hBel.out _ (grown_trans hp0 hg9)⟩
      | ok x k1 =>
        obtain ⟨rfl, hg9, hX0n⟩ := hE
        have hp0n : V.grownBy w' (some cb) := grown_trans hp0 hg9
        refine hK.out _ _ hp0n (fun hHeld1 => ?_)
        clear hK K hHeld1
        obtain ⟨U0n, hU0n⟩ : ∃ W, w' = W := ⟨_, rfl⟩
        rw [hU0n] at hX0n hp0n ⊢
        clear hU0n hg9
        try simp only [Act.put, List.setIfInBounds_toArray, List.set_cons_zero, List.set_cons_succ]
        refine wpAnyH_ready (rs := [9, 11]) (by kernel_rfl) (by simp) ?_
        refine AllReadyH.cons rfl (fun K hK => ?_) ?_
        · go_simp
          refine (hFi.out _ hp0n x).mono ?_
          rintro r w' ⟨rfl, y, rfl⟩
          have hp0nf := grown_trans hp0n (grown_plus_any _ y (some cb))
          have hX0nf := hX0n.plus y
          refine hK.out _ _ hp0nf (fun hHeld1 => ?_)
          clear hK K hHeld1
          obtain ⟨U0nf, hU0nf⟩ : ∃ W, Go.Proofs.YtkffjjlmoojffaaGreatDoor.plus U0n y = W := ⟨_, rfl⟩
          rw [hU0nf] at hX0nf hp0nf ⊢
          clear hU0nf
          try simp only [Act.put, List.setIfInBounds_toArray, List.set_cons_zero, List.set_cons_succ]
          refine wpAnyH_take (i := 10) (v := ?vz9) rfl (by kernel_rfl) (by kernel_rfl) (by kernel_rfl) (fun _ _ _ h => h) (Or.inl ⟨by rfl, ?hz9⟩) hp0nf ?rz9
          case hz9 =>
            intro Wq hWq
            obtain ⟨r0, r1, r2, r3, r4⟩ := hRcV.out Wq hWq
            go_simp
            try with_reducible rfl
          try simp only [Act.put, List.setIfInBounds_toArray, List.set_cons_zero, List.set_cons_succ]
          refine wpAnyH_ready (rs := [11]) (by kernel_rfl) (by simp) ?_
          refine AllReadyH.cons rfl (fun K hK => ?_) AllReadyH.nil
          go_simp
          have hp0nfa := grown_trans hp0nf (grown_alloc U0nf (.cells #[.int .i64 0, .int .i64 0] 41) (some cb))
          have hX0nfa := hX0nf.alloc (.cells #[.int .i64 0, .int .i64 0] 41)
          have hb0nfa := (Kn.nil cb U0nf).new hX0nf.lt [.int .i64 0, .int .i64 0] 41
          change Kn cb _ (U0nf.alloc (.cells #[.int .i64 0, .int .i64 0] 41)) at hb0nfa
          have hge := hp0nf.size
          refine hK.out _ _ hp0nfa (fun hHeld1 => ?_)
          clear hK K hHeld1
          obtain ⟨U0nfa, hU0nfa⟩ : ∃ W, U0nf.alloc (.cells #[.int .i64 0, .int .i64 0] 41) = W := ⟨_, rfl⟩
          rw [hU0nfa] at hX0nfa hp0nfa hb0nfa ⊢
          clear hU0nfa
          obtain ⟨nb, hnb⟩ : ∃ nb, U0nf.heap.size = nb := ⟨_, rfl⟩
          rw [hnb] at hb0nfa hge ⊢
          clear hnb
          try simp only [Act.put, List.setIfInBounds_toArray, List.set_cons_zero, List.set_cons_succ]
          have b0 := hb0nfa.cell nb _ (.head _) 0 _ rfl
          have b1 := hb0nfa.cell nb _ (.head _) 1 _ rfl
          have bf := hb0nfa.frozen nb _ (.head _)
          refine wpAnyH_ready (rs := [12]) (by kernel_rfl) (by simp) ?_
          refine AllReadyH.cons rfl (fun K hK => ?_) AllReadyH.nil
          go_simp
          have hpE : V.grownBy ((U0nfa.setCell ⟨nb, 0, none⟩ (.int .i64 (findF n.names x))).setCell ⟨nb, 1, none⟩ (.int .i64 0)) (some cb) := grown_new (grown_new hp0nfa hge 0 _) hge 1 _
          have hXE : Cu ((U0nfa.setCell ⟨nb, 0, none⟩ (.int .i64 (findF n.names x))).setCell ⟨nb, 1, none⟩ (.int .i64 0)) cb s g cap l k1 := (hX0nfa.set (ne_of_ge' (Hid.out hcs0) hge) (ne_of_ge' (Hid.out hgs0) hge) 0 _).set (ne_of_ge' (Hid.out hcs0) hge) (ne_of_ge' (Hid.out hgs0) hge) 1 _
          have hbE := hb0nfa.two (.int .i64 (findF n.names x)) (.int .i64 0)
          refine hK.out _ _ hpE (fun hHeld1 => ?_)
          clear hK K hHeld1
          try simp only [Act.put, List.setIfInBounds_toArray, List.set_cons_zero, List.set_cons_succ]
          refine wpAnyH_done (by kernel_rfl) ?_ _
          clear b0 b1 bf
          go_wp2_with fail
          go_meet
          exact Lib.hid ⟨nb, x, k1, rfl, rfl, hge, hpE, hXE, hbE⟩
        refine AllReadyH.cons rfl (fun K hK => ?_) AllReadyH.nil
        go_simp
        have hp0na := grown_trans hp0n (grown_alloc U0n (.cells #[.int .i64 0, .int .i64 0] 41) (some cb))
        have hX0na := hX0n.alloc (.cells #[.int .i64 0, .int .i64 0] 41)
        have hb0na := (Kn.nil cb U0n).new hX0n.lt [.int .i64 0, .int .i64 0] 41
        change Kn cb _ (U0n.alloc (.cells #[.int .i64 0, .int .i64 0] 41)) at hb0na
        have hge := hp0n.size
        refine hK.out _ _ hp0na (fun hHeld1 => ?_)
        clear hK K hHeld1
        obtain ⟨U0na, hU0na⟩ : ∃ W, U0n.alloc (.cells #[.int .i64 0, .int .i64 0] 41) = W := ⟨_, rfl⟩
        rw [hU0na] at hX0na hp0na hb0na ⊢
        clear hU0na
        obtain ⟨nb, hnb⟩ : ∃ nb, U0n.heap.size = nb := ⟨_, rfl⟩
        rw [hnb] at hb0na hge ⊢
        clear hnb
        try simp only [Act.put, List.setIfInBounds_toArray, List.set_cons_zero, List.set_cons_succ]
        refine wpAnyH_ready (rs := [9]) (by kernel_rfl) (by simp) ?_
        refine AllReadyH.cons rfl (fun K hK => ?_) AllReadyH.nil
        go_simp
        refine (hFi.out _ hp0na x).mono ?_
        rintro r w' ⟨rfl, y, rfl⟩
        have hp0naf := grown_trans hp0na (grown_plus_any _ y (some cb))
        have hX0naf := hX0na.plus y
        have hb0naf := hb0na.plus y
        refine hK.out _ _ hp0naf (fun hHeld1 => ?_)
        clear hK K hHeld1
        obtain ⟨U0naf, hU0naf⟩ : ∃ W, Go.Proofs.YtkffjjlmoojffaaGreatDoor.plus U0na y = W := ⟨_, rfl⟩
        rw [hU0naf] at hX0naf hp0naf hb0naf ⊢
        clear hU0naf
        try simp only [Act.put, List.setIfInBounds_toArray, List.set_cons_zero, List.set_cons_succ]
        refine wpAnyH_take (i := 10) (v := ?vz10) rfl (by kernel_rfl) (by kernel_rfl) (by kernel_rfl) (fun _ _ _ h => h) (Or.inl ⟨by rfl, ?hz10⟩) hp0naf ?rz10
        case hz10 =>
          intro Wq hWq
          obtain ⟨r0, r1, r2, r3, r4⟩ := hRcV.out Wq hWq
          go_simp
          try with_reducible rfl
        try simp only [Act.put, List.setIfInBounds_toArray, List.set_cons_zero, List.set_cons_succ]
        have b0 := hb0naf.cell nb _ (.head _) 0 _ rfl
        have b1 := hb0naf.cell nb _ (.head _) 1 _ rfl
        have bf := hb0naf.frozen nb _ (.head _)
        refine wpAnyH_ready (rs := [12]) (by kernel_rfl) (by simp) ?_
        refine AllReadyH.cons rfl (fun K hK => ?_) AllReadyH.nil
        go_simp
        have hpE : V.grownBy ((U0naf.setCell ⟨nb, 0, none⟩ (.int .i64 (findF n.names x))).setCell ⟨nb, 1, none⟩ (.int .i64 0)) (some cb) := grown_new (grown_new hp0naf hge 0 _) hge 1 _
        have hXE : Cu ((U0naf.setCell ⟨nb, 0, none⟩ (.int .i64 (findF n.names x))).setCell ⟨nb, 1, none⟩ (.int .i64 0)) cb s g cap l k1 := (hX0naf.set (ne_of_ge' (Hid.out hcs0) hge) (ne_of_ge' (Hid.out hgs0) hge) 0 _).set (ne_of_ge' (Hid.out hcs0) hge) (ne_of_ge' (Hid.out hgs0) hge) 1 _
        have hbE := hb0naf.two (.int .i64 (findF n.names x)) (.int .i64 0)
        refine hK.out _ _ hpE (fun hHeld1 => ?_)
        clear hK K hHeld1
        try simp only [Act.put, List.setIfInBounds_toArray, List.set_cons_zero, List.set_cons_succ]
        refine wpAnyH_done (by kernel_rfl) ?_ _
        clear b0 b1 bf
        go_wp2_with fail
        go_meet
        exact Lib.hid ⟨nb, x, k1, rfl, rfl, hge, hpE, hXE, hbE⟩
    refine AllReadyH.cons rfl (fun K hK => ?_) AllReadyH.nil
    go_simp
    have hp0a := grown_trans hp0 (grown_alloc U0 (.cells #[.int .i64 0, .int .i64 0] 41) (some cb))
    have hX0a := hX0.alloc (.cells #[.int .i64 0, .int .i64 0] 41)
    have hb0a := (Kn.nil cb U0).new hX0.lt [.int .i64 0, .int .i64 0] 41
    change Kn cb _ (U0.alloc (.cells #[.int .i64 0, .int .i64 0] 41)) at hb0a
    have hge := hp0.size
    refine hK.out _ _ hp0a (fun hHeld1 => ?_)
    clear hK K hHeld1
    obtain ⟨U0a, hU0a⟩ : ∃ W, U0.alloc (.cells #[.int .i64 0, .int .i64 0] 41) = W := ⟨_, rfl⟩
    rw [hU0a] at hX0a hp0a hb0a ⊢
    clear hU0a
    obtain ⟨nb, hnb⟩ : ∃ nb, U0.heap.size = nb := ⟨_, rfl⟩
    rw [hnb] at hb0a hge ⊢
    clear hnb
    try simp only [Act.put, List.setIfInBounds_toArray, List.set_cons_zero, List.set_cons_succ]
    refine wpAnyH_ready (rs := [8]) (by kernel_rfl) (by simp) ?_
    refine AllReadyH.cons rfl (fun K hK => ?_) AllReadyH.nil
    go_simp
    refine (hNm.out _ hX0a).mono ?_
    intro r w' hE
    cases RN with
    | bad q E =>
      obtain ⟨rfl, hg9⟩ := hE
      obtain rfl : RT = .bad q E := hRT.out.symm
      exact ⟨rfl, rfl, hBel.out _ (grown_trans hp0a hg9)⟩
    | ok x k1 =>
      obtain ⟨rfl, hg9, hX0an⟩ := hE
      have hp0an : V.grownBy w' (some cb) := grown_trans hp0a hg9
      have hb0an := hb0a.grown hg9
      refine hK.out _ _ hp0an (fun hHeld1 => ?_)
      clear hK K hHeld1
      obtain ⟨U0an, hU0an⟩ : ∃ W, w' = W := ⟨_, rfl⟩
      rw [hU0an] at hX0an hp0an hb0an ⊢
      clear hU0an hg9
      try simp only [Act.put, List.setIfInBounds_toArray, List.set_cons_zero, List.set_cons_succ]
      refine wpAnyH_ready (rs := [9]) (by kernel_rfl) (by simp) ?_
      refine AllReadyH.cons rfl (fun K hK => ?_) AllReadyH.nil
      go_simp
      refine (hFi.out _ hp0an x).mono ?_
      rintro r w' ⟨rfl, y, rfl⟩
      have hp0anf := grown_trans hp0an (grown_plus_any _ y (some cb))
      have hX0anf := hX0an.plus y
      have hb0anf := hb0an.plus y
      refine hK.out _ _ hp0anf (fun hHeld1 => ?_)
      clear hK K hHeld1
      obtain ⟨U0anf, hU0anf⟩ : ∃ W, Go.Proofs.YtkffjjlmoojffaaGreatDoor.plus U0an y = W := ⟨_, rfl⟩
      rw [hU0anf] at hX0anf hp0anf hb0anf ⊢
      clear hU0anf
      try simp only [Act.put, List.setIfInBounds_toArray, List.set_cons_zero, List.set_cons_succ]
      refine wpAnyH_take (i := 10) (v := ?vz11) rfl (by kernel_rfl) (by kernel_rfl) (by kernel_rfl) (fun _ _ _ h => h) (Or.inl ⟨by rfl, ?hz11⟩) hp0anf ?rz11
      case hz11 =>
        intro Wq hWq
        obtain ⟨r0, r1, r2, r3, r4⟩ := hRcV.out Wq hWq
        go_simp
        try with_reducible rfl
      try simp only [Act.put, List.setIfInBounds_toArray, List.set_cons_zero, List.set_cons_succ]
      have b0 := hb0anf.cell nb _ (.head _) 0 _ rfl
      have b1 := hb0anf.cell nb _ (.head _) 1 _ rfl
      have bf := hb0anf.frozen nb _ (.head _)
      refine wpAnyH_ready (rs := [12]) (by kernel_rfl) (by simp) ?_
      refine AllReadyH.cons rfl (fun K hK => ?_) AllReadyH.nil
      go_simp
      have hpE : V.grownBy ((U0anf.setCell ⟨nb, 0, none⟩ (.int .i64 (findF n.names x))).setCell ⟨nb, 1, none⟩ (.int .i64 0)) (some cb) := grown_new (grown_new hp0anf hge 0 _) hge 1 _
      have hXE : Cu ((U0anf.setCell ⟨nb, 0, none⟩ (.int .i64 (findF n.names x))).setCell ⟨nb, 1, none⟩ (.int .i64 0)) cb s g cap l k1 := (hX0anf.set (ne_of_ge' (Hid.out hcs0) hge) (ne_of_ge' (Hid.out hgs0) hge) 0 _).set (ne_of_ge' (Hid.out hcs0) hge) (ne_of_ge' (Hid.out hgs0) hge) 1 _
      have hbE := hb0anf.two (.int .i64 (findF n.names x)) (.int .i64 0)
      refine hK.out _ _ hpE (fun hHeld1 => ?_)
      clear hK K hHeld1
      try simp only [Act.put, List.setIfInBounds_toArray, List.set_cons_zero, List.set_cons_succ]
      refine wpAnyH_done (by kernel_rfl) ?_ _
      clear b0 b1 bf
      go_wp2_with fail
      go_meet
      exact Lib.hid ⟨nb, x, k1, rfl, rfl, hge, hpE, hXE, hbE⟩

  case rest =>
    obtain ⟨nb, x, k1, rfl, rfl, hge, hg4, hX4, hb4⟩ := hcut.out
    have hk1 := hName.out x k1 rfl
    have ht4 := hk3.out.grown hg4
    obtain ⟨i, hii⟩ : ∃ i, findF n.names x = i := ⟨_, rfl⟩
    rw [hii] at hb4
    obtain ⟨B3, hB3⟩ : ∃ B, decide (0 ≤ i) = B := ⟨_, rfl⟩
    have hRT2 := hRT.out
    rw [Rs.bind_ok rfl] at hRT2
    rw [hii] at hRT2
    replace hRT2 := Lib.hid hRT2
    have hYesT := Lib.hid (fun e0 w => hYes.out t e0 w)
    rw [hTA.out] at hYesT
    have r0 := fun y => (hRcV.out (Go.Proofs.YtkffjjlmoojffaaGreatDoor.plus wc y) (grown_trans hg4 (grown_plus_any _ _ _))).1
    have a0 := fun y => (ht4.plus y).cell zt _ (.head _) 0 _ rfl
    have a1 := fun y => (ht4.plus y).cell zt _ (.head _) 1 _ rfl
    have a2 := fun y => (ht4.plus y).cell zt _ (.head _) 2 _ rfl
    have a3 := fun y => (ht4.plus y).cell zt _ (.head _) 3 _ rfl
    have a4 := fun y => (ht4.plus y).cell zt _ (.head _) 4 _ rfl
    have a5 := fun y => (ht4.plus y).cell zt _ (.head _) 5 _ rfl
    have b0 := fun y => (hb4.plus y).cell nb _ (.head _) 0 _ rfl
    have q3 := hB3
    replace hB3 := Lib.hid hB3
    replace hii := Lib.hid hii
    replace hge := Lib.hid hge
    replace hg4 := Lib.hid hg4
    replace hX4 := Lib.hid hX4
    replace hb4 := Lib.hid hb4
    replace hk1 := Lib.hid hk1
    clear ht4 hcut hFi hNm hName hRT
    go_upto_region 3 with (fail)
    refine wp_region_own_tail0 8 (by kernel_rfl) (by kernel_rfl) ?_
    simp only [List.take_succ_cons, List.take_zero, List.drop_succ_cons, List.drop_zero]
    repeat (go_big_quiet_step (fail))
    refine wpQuiet_nil ?_
    rintro _ ⟨y3, rfl⟩
    clear r0 a0 a1 a2 a3 a4 a5 b0 q3
    have hX5 := hX4.out.plus y3
    have hg5 := grown_trans hg4.out (grown_plus_any wc y3 _)
    have hb5 := hb4.out.plus y3
    obtain ⟨V5, hV5⟩ : ∃ W, Go.Proofs.YtkffjjlmoojffaaGreatDoor.plus wc y3 = W := ⟨_, rfl⟩
    rw [hV5] at hX5 hg5 hb5 ⊢
    clear hV5 hX4 hg4 hb4
    cases B3 with
    | false =>
      obtain rfl : RT = .bad t.at_ 7 := hRT2.out.symm.trans (if_pos (by have := of_decide_eq_false hB3.out; omega))
      replace hg5 := Lib.hid hg5
      go_wp2_with fail
      refine (hNo0.out _ _ hX5).mono ?_
      rintro e w3 ⟨rfl, x3, rfl⟩
      go_wp2
      exact ⟨rfl, rfl, hBel.out _ (grown_trans hg5.out (grown_plus_any _ _ _))⟩
    | true =>
      have hRT3 := hRT2.out
      rw [if_neg (by have := of_decide_eq_true hB3.out; omega)] at hRT3
      replace hRT3 := Lib.hid hRT3
      replace hg5 := Lib.hid hg5
      replace hX5 := Lib.hid hX5
      replace hb5 := Lib.hid hb5
      clear hRT2 hB3 hNo0
      go_wp2_with fail
      refine (hYesT.out _ _).mono ?_
      rintro e w3 ⟨rfl, x3, rfl⟩
      have hX6 := hX5.out.plus x3
      have hg6 := grown_trans hg5.out (grown_plus_any V5 x3 _)
      have hb6 := hb5.out.plus x3
      obtain ⟨V6, hV6⟩ : ∃ W, Go.Proofs.YtkffjjlmoojffaaGreatDoor.plus V5 x3 = W := ⟨_, rfl⟩
      rw [hV6] at hX6 hg6 hb6 ⊢
      clear hV6 hX5 hg5 hb5 hYesT
      have r0 := (hRcV.out V6 hg6).1
      have hX6a := hX6.alloc (.cells #[.string ⟨#[58]⟩] 9)
      have hc6 := cell_new V6 #[.string ⟨#[58]⟩] 9 V6.heap.size 0 rfl
      have hW := cu_want hl'.out hs'.out wColon w_ok.2.2.2.2.2 hX6a hk1.out V6.heap.size hc6
      have hg6a := Lib.hid (grown_trans hg6 (grown_alloc V6 (.cells #[.string ⟨#[58]⟩] 9) (some cb)))
      have hb6a := Lib.hid (hb6.grown (grown_alloc V6 (.cells #[.string ⟨#[58]⟩] 9) (some cb)))
      obtain ⟨RW, hRW⟩ : ∃ R, wantM l k1 wColon = R := ⟨_, rfl⟩
      have hRT4 := hRT3.out
      rw [hRW] at hRT4 hW
      replace hRT4 := Lib.hid hRT4
      replace hW := Lib.hid hW
      clear hRW hRT3 hX6 hg6 hb6 hX6a hc6
      go_wp2_with fail
      refine hW.out.mono ?_
      rintro e V7 ⟨hE, hlt⟩
      cases RW with
      | bad q E =>
        obtain ⟨rfl, hg9⟩ := hE
        obtain rfl : RT = .bad q E := hRT4.out.symm
        replace hg9 := Lib.hid hg9
        clear hlt
        go_wp2
        exact ⟨rfl, rfl, hBel.out _ (grown_trans hg6a.out hg9.out)⟩
      | ok uu k2 =>
        obtain ⟨rfl, hg9, hX7⟩ := hE
        have hk2 := hlt _ _ rfl
        have hg7 := grown_trans hg6a.out hg9
        have hb7 := hb6a.out.grown hg9
        have r0 := (hRcV.out V7 hg7).1
        have hRT5 := hRT4.out
        rw [Rs.bind_ok rfl] at hRT5
        have hM := cu_num hl'.out hs'.out hX7 hk2
        obtain ⟨RM, hRM⟩ : ∃ R, numM l k2 = R := ⟨_, rfl⟩
        rw [hRM] at hRT5 hM
        have hMok : Hid (∀ t5 k3, RM = .ok t5 k3 → k3 < l.length ∧ t5.at_ ≤ s.size ∧ t5.n < 340282366920938463463374607431768211456) := Lib.hid (fun t5 k3 e => numM_ok hl'.out hk2 (hRM.trans e))
        replace hRT5 := Lib.hid hRT5
        replace hM := Lib.hid hM
        replace hg7 := Lib.hid hg7
        replace hb7 := Lib.hid hb7
        clear hRM hlt hg9 hX7 hk2 hRT4 hg6a hb6a hW
        go_wp2_with fail
        refine hM.out.mono ?_
        intro e V8 hE
        cases RM with
        | bad q E =>
          obtain ⟨rfl, hg9⟩ := hE
          obtain rfl : RT = .bad q E := hRT5.out.symm
          replace hg9 := Lib.hid hg9
          go_wp2
          exact ⟨rfl, rfl, hBel.out _ (grown_trans hg7.out hg9.out)⟩
        | ok t5 k3 =>
          obtain ⟨rfl, hg9, hX8⟩ := hE
          obtain ⟨hk3, hat5, hn5⟩ := hMok.out _ _ rfl
          have hg8 := grown_trans hg7.out hg9
          have hb8 := hb7.out.grown hg9
          have hRT6 := hRT5.out
          rw [Rs.bind_ok rfl] at hRT6
          obtain ⟨K5, hK5⟩ : ∃ K, (t5.kind : Int) = K := ⟨_, rfl⟩
          have hTA5 : Hid (tokA t5 = .agg #[.int .u8 K5, .string t5.s, .int .i64 t5.w, .int .u64 (hi t5.n), .int .u64 (lo t5.n), .int .i64 (t5.at_ : Int)]) := by show _ = _; rw [← hK5]
          rw [hTA5.out]
          obtain ⟨RB, hRB⟩ : ∃ R, bareM t5 k3 1 511 5 = R := ⟨_, rfl⟩
          rw [hRB] at hRT6
          have hPo := Lib.hid (fun (W : World) (hr : W.cell? ⟨rb, 0, none⟩ = some (.pointer (some ⟨cb, 0, none⟩))) (h1 : rb < W.heap.size) (h : Cu W cb s g cap l k3) => tp_port hr h1 h t5 hs'.out hat5 hn5)
          rw [hTA5.out, hRB] at hPo
          have hNo5 := Lib.hid (fun (W : World) (j : Nat) (h : Cu W cb s g cap l j) (e0 : Int) (he : ¬ e0 = 0) => cur_needAt h t5 e0 he hs'.out hat5)
          have hYes5 := Lib.hid (fun e0 w => hYes.out t5 e0 w)
          rw [hTA5.out] at hNo5 hYes5
          replace hRT6 := Lib.hid hRT6
          have hk3' := Lib.hid hk3
          clear hk3 hat5 hn5 hK5 hRB hMok hM hRT5 hg7 hb7 hg9 hYes r0
          go_upto_region 6 with (fail)
          have hXa := hX8.alloc (.cells #[.int .u8 K5, .string t5.s, .int .i64 t5.w, .int .u64 (hi t5.n), .int .u64 (lo t5.n), .int .i64 (t5.at_ : Int)] 60)
          have hga := grown_trans hg8 (grown_alloc V8 (.cells #[.int .u8 K5, .string t5.s, .int .i64 t5.w, .int .u64 (hi t5.n), .int .u64 (lo t5.n), .int .i64 (t5.at_ : Int)] 60) (some cb))
          have hba := hb8.grown (grown_alloc V8 (.cells #[.int .u8 K5, .string t5.s, .int .i64 t5.w, .int .u64 (hi t5.n), .int .u64 (lo t5.n), .int .i64 (t5.at_ : Int)] 60) (some cb))
          have hza := (Kn.nil cb V8).new hX8.lt [.int .u8 K5, .string t5.s, .int .i64 t5.w, .int .u64 (hi t5.n), .int .u64 (lo t5.n), .int .i64 (t5.at_ : Int)] 60
          change Kn cb _ (V8.alloc (.cells #[.int .u8 K5, .string t5.s, .int .i64 t5.w, .int .u64 (hi t5.n), .int .u64 (lo t5.n), .int .i64 (t5.at_ : Int)] 60)) at hza
          have hne : Hid (¬ nb = V8.heap.size) := Lib.hid (by have := (hb8.all nb _ (.head _)).2.1; omega)
          obtain ⟨Va, hVa⟩ : ∃ W, V8.alloc (.cells #[.int .u8 K5, .string t5.s, .int .i64 t5.w, .int .u64 (hi t5.n), .int .u64 (lo t5.n), .int .i64 (t5.at_ : Int)] 60) = W := ⟨_, rfl⟩
          rw [hVa] at hXa hga hba hza ⊢
          clear hVa hX8 hg8 hb8
          generalize V8.heap.size = z5 at hza hne ⊢
          have a0 := hza.cell z5 _ (.head _) 0 _ rfl
          have a1 := hza.cell z5 _ (.head _) 1 _ rfl
          have a2 := hza.cell z5 _ (.head _) 2 _ rfl
          have a3 := hza.cell z5 _ (.head _) 3 _ rfl
          have a4 := hza.cell z5 _ (.head _) 4 _ rfl
          have a5 := hza.cell z5 _ (.head _) 5 _ rfl
          replace hPo := Lib.hid (hPo.out Va (hRcV.out Va hga).1 (Nat.lt_of_lt_of_le (hP.out.rp.lt) (grown_trans hgV.out hga).size) hXa)
          replace hza := Lib.hid hza
          replace hga := Lib.hid hga
          replace hba := Lib.hid hba
          clear hXa
          go_wp2_with fail
          refine hPo.out.mono ?_
          intro e V9 hE
          cases RB with
          | bad q E =>
            obtain ⟨rfl, hg9⟩ := hE
            obtain rfl : RT = .bad q E := hRT6.out.symm
            replace hg9 := Lib.hid hg9
            clear a0 a1 a2 a3 a4 a5
            go_wp2
            exact ⟨rfl, rfl, hBel.out _ (grown_trans hga.out hg9.out)⟩
          | ok p k4 =>
            obtain ⟨rfl, hg9, hX9⟩ := hE
            have hg10 := grown_trans hga.out hg9
            have hb9 := hba.out.grown hg9
            have hz9 := hza.out.grown hg9
            have b1 := hb9.cell nb _ (.head _) 1 _ rfl
            have bf := hb9.frozen nb _ (.head _)
            clear a0 a1 a2 a3 a4 a5
            go_upto_region 7 with (fail)
            have hgA := grown_new hg10 hge.out 1 (.int .i64 (p : Int))
            have hXA := hX9.set (ne_of_ge' hcs0.out hge.out) (ne_of_ge' hgs0.out hge.out) 1 (.int .i64 (p : Int))
            have hbA := hb9.put 1 (.int .i64 (p : Int))
            have hzA := hz9.other hne.out 1 (.int .i64 (p : Int))
            obtain ⟨VA, hVA⟩ : ∃ W, V9.setCell ⟨nb, 1, none⟩ (.int .i64 (p : Int)) = W := ⟨_, rfl⟩
            rw [hVA] at hgA hXA hbA hzA ⊢
            clear hVA b1 bf hX9 hg9 hg10 hb9 hz9 hPo
            have hRT7 := hRT6.out
            rw [Rs.bind_ok rfl] at hRT7
            obtain ⟨BT, hBT⟩ : ∃ B, thereF n ⟨i, (p : Int)⟩ = B := ⟨_, rfl⟩
            rw [hBT] at hRT7
            have hTh : Hid (∀ y, Calls Tryz.prog 39 #[.agg #[.slice p1 n1 c1, .slice p2 n2 c2, .slice p3 n3 c3], .agg #[.int .i64 i, .int .i64 (p : Int)]] (Go.Proofs.YtkffjjlmoojffaaGreatDoor.plus VA y) (fun e w' => e = .returned (.bool BT) ∧ ∃ z, w' = Go.Proofs.YtkffjjlmoojffaaGreatDoor.plus VA z)) := Lib.hid (fun y => (hTh0.out (Go.Proofs.YtkffjjlmoojffaaGreatDoor.plus VA y) (grown_trans hgV.out (grown_trans hgA (grown_plus_any _ _ _))) ⟨i, (p : Int)⟩).mono (fun e w' ⟨he, z, hz⟩ => ⟨by rw [he, hBT], _, hz.trans (plus_plus _ _ _)⟩))
            replace hRT7 := Lib.hid hRT7
            have rr := fun y => hRcV.out (Go.Proofs.YtkffjjlmoojffaaGreatDoor.plus VA y) (grown_trans hgA (grown_plus_any _ _ _))
            have r0 := fun y => (rr y).1
            have r1 := fun y => (rr y).2.1
            have r2 := fun y => (rr y).2.2.1
            have r3 := fun y => (rr y).2.2.2.1
            have a0 := fun y => (hzA.plus y).cell z5 _ (.head _) 0 _ rfl
            have a1 := fun y => (hzA.plus y).cell z5 _ (.head _) 1 _ rfl
            have a2 := fun y => (hzA.plus y).cell z5 _ (.head _) 2 _ rfl
            have a3 := fun y => (hzA.plus y).cell z5 _ (.head _) 3 _ rfl
            have a4 := fun y => (hzA.plus y).cell z5 _ (.head _) 4 _ rfl
            have a5 := fun y => (hzA.plus y).cell z5 _ (.head _) 5 _ rfl
            have b0 := fun y => (hbA.plus y).cell nb _ (.head _) 0 _ rfl
            have b1 := fun y => (hbA.plus y).cell nb _ (.head _) 1 _ rfl
            replace hgA := Lib.hid hgA
            replace hXA := Lib.hid hXA
            replace hbA := Lib.hid hbA
            replace hzA := Lib.hid hzA
            clear rr hRT6 hBT
            refine wp_region_own_tail0 11 (by kernel_rfl) (by kernel_rfl) ?_
            simp only [List.take_succ_cons, List.take_zero, List.drop_succ_cons, List.drop_zero]
            repeat (go_big_quiet_step (first | (with_reducible exact hTh.out _)))
            refine wpQuiet_nil ?_
            rintro _ ⟨y7, rfl⟩
            clear r0 r1 r2 r3 a0 a1 a2 a3 a4 a5 b0 b1 hTh
            have hgB := grown_trans hgA.out (grown_plus_any VA y7 _)
            have hXB := hXA.out.plus y7
            have hbB := hbA.out.plus y7
            have hzB := hzA.out.plus y7
            obtain ⟨VB, hVB⟩ : ∃ W, Go.Proofs.YtkffjjlmoojffaaGreatDoor.plus VA y7 = W := ⟨_, rfl⟩
            rw [hVB] at hgB hXB hbB hzB ⊢
            replace hgB := Lib.hid hgB
            replace hbB := Lib.hid hbB
            replace hzB := Lib.hid hzB
            clear hVB hgA hXA hbA hzA
            cases BT with
            | false =>
              obtain rfl : RT = .bad t5.at_ 7 := hRT7.out.symm.trans (if_pos rfl)
              go_wp2_with fail
              refine (hNo5.out _ _ hXB 7 (by decide)).mono ?_
              rintro e w3 ⟨rfl, x3, rfl⟩
              go_wp2
              exact ⟨rfl, rfl, hBel.out _ (grown_trans hgB.out (grown_plus_any _ _ _))⟩
            | true =>
              have hRT8 := hRT7.out
              rw [if_neg (by decide)] at hRT8
              replace hXB := Lib.hid hXB
              go_wp2_with fail
              refine (hYes5.out _ _).mono ?_
              rintro e w3 ⟨rfl, x3, rfl⟩
              have hgC := grown_trans hgB.out (grown_plus_any VB x3 _)
              have hXC := hXB.out.plus x3
              have hbC := hbB.out.plus x3
              have hzC := hzB.out.plus x3
              obtain ⟨VC, hVC⟩ : ∃ W, Go.Proofs.YtkffjjlmoojffaaGreatDoor.plus VB x3 = W := ⟨_, rfl⟩
              rw [hVC] at hgC hXC hbC hzC ⊢
              clear hVC hgB hXB hbB hzB hRT7
              obtain ⟨BC, hBC⟩ : ∃ B, decide ((⟨i, (p : Int)⟩ : End') ∈ linked) = B := ⟨_, rfl⟩
              have hCo : Hid (∀ y, Calls Tryz.prog 55 #[.slice p4 n4 c4, .agg #[.int .i64 i, .int .i64 (p : Int)]] (Go.Proofs.YtkffjjlmoojffaaGreatDoor.plus VC y) (fun e w' => e = .returned (.bool BC) ∧ ∃ z, w' = Go.Proofs.YtkffjjlmoojffaaGreatDoor.plus VC z)) := Lib.hid (fun y => (hCo0.out (Go.Proofs.YtkffjjlmoojffaaGreatDoor.plus VC y) (grown_trans hgV.out (grown_trans hgC (grown_plus_any _ _ _))) ⟨i, (p : Int)⟩).mono (fun e w' ⟨he, z, hz⟩ => ⟨by rw [he, hBC], _, hz.trans (plus_plus _ _ _)⟩))
              replace hBC := Lib.hid hBC
              replace hRT8 := Lib.hid hRT8
              have rr := fun y => hRcV.out (Go.Proofs.YtkffjjlmoojffaaGreatDoor.plus VC y) (grown_trans hgC (grown_plus_any _ _ _))
              have r0 := fun y => (rr y).1
              have r4 := fun y => (rr y).2.2.2.2
              have a0 := fun y => (hzC.plus y).cell z5 _ (.head _) 0 _ rfl
              have a1 := fun y => (hzC.plus y).cell z5 _ (.head _) 1 _ rfl
              have a2 := fun y => (hzC.plus y).cell z5 _ (.head _) 2 _ rfl
              have a3 := fun y => (hzC.plus y).cell z5 _ (.head _) 3 _ rfl
              have a4 := fun y => (hzC.plus y).cell z5 _ (.head _) 4 _ rfl
              have a5 := fun y => (hzC.plus y).cell z5 _ (.head _) 5 _ rfl
              have b0 := fun y => (hbC.plus y).cell nb _ (.head _) 0 _ rfl
              have b1 := fun y => (hbC.plus y).cell nb _ (.head _) 1 _ rfl
              replace hgC := Lib.hid hgC
              replace hXC := Lib.hid hXC
              replace hbC := Lib.hid hbC
              clear rr hzC
              go_upto_region 8 with (fail)
              refine wp_region_own_tail0 12 (by kernel_rfl) (by kernel_rfl) ?_
              simp only [List.take_succ_cons, List.take_zero, List.drop_succ_cons, List.drop_zero]
              repeat (go_big_quiet_step (first | (with_reducible exact hCo.out _)))
              refine wpQuiet_nil ?_
              rintro _ ⟨y8, rfl⟩
              clear r0 r4 a0 a1 a2 a3 a4 a5 b0 b1 hCo
              have hgD := grown_trans hgC.out (grown_plus_any VC y8 _)
              have hXD := hXC.out.plus y8
              have hbD := hbC.out.plus y8
              obtain ⟨VD, hVD⟩ : ∃ W, Go.Proofs.YtkffjjlmoojffaaGreatDoor.plus VC y8 = W := ⟨_, rfl⟩
              rw [hVD] at hgD hXD hbD ⊢
              replace hgD := Lib.hid hgD
              replace hbD := Lib.hid hbD
              clear hVD hgC hXC hbC
              cases BC with
              | true =>
                obtain rfl : RT = .bad t5.at_ 8 := hRT8.out.symm.trans (if_pos (of_decide_eq_true hBC.out))
                go_wp2_with fail
                refine (hNo5.out _ _ hXD 8 (by decide)).mono ?_
                rintro e w3 ⟨rfl, x3, rfl⟩
                go_wp2
                exact ⟨rfl, rfl, hBel.out _ (grown_trans hgD.out (grown_plus_any _ _ _))⟩
              | false =>
                obtain rfl : RT = .ok ⟨i, (p : Int)⟩ k4 := hRT8.out.symm.trans (if_neg (of_decide_eq_false hBC.out))
                replace hXD := Lib.hid hXD
                go_wp2_with fail
                refine (hYes5.out _ _).mono ?_
                rintro e w3 ⟨rfl, x3, rfl⟩
                have hgE := grown_trans hgD.out (grown_plus_any VD x3 _)
                have hXE := hXD.out.plus x3
                have hbE := hbD.out.plus x3
                obtain ⟨VE, hVE⟩ : ∃ W, Go.Proofs.YtkffjjlmoojffaaGreatDoor.plus VD x3 = W := ⟨_, rfl⟩
                rw [hVE] at hgE hXE hbE ⊢
                clear hVE hgD hXD hbD hRT8 hBC hYes5 hNo5 hBel hTh0 hCo0
                have hrE := hkr.out.grown hgE
                have hPE := hP.out.step (grown_trans hgV.out hgE) hXE
                go_upto_region 9 with (fail)
                have hA : Hid (∀ z, w0.heap.size ≤ z → (Value.slice p4 n4 c4).ownBlock ≠ some z) := Lib.hid (fun z hz e => by have := (hP.out.lk.lt z e).2; omega)
                have hAp : Hid (Apart zr (.slice p1 n1 c1) (.slice p2 n2 c2) (.slice p3 n3 c3) pvs) := Lib.hid (hP.out.ni.apart (by rw [hzr.out]; exact Nat.le_refl _))
                have hrz : Hid (rb < zr) := Lib.hid (by rw [← hzr.out]; exact hP.out.rp.lt)
                have hz5 : Hid (W5.heap.size ≤ zr) := Lib.hid (by rw [← hzr.out]; exact hP.out.below.size)
                have hV0 : Hid (w0.heap.size ≤ V.heap.size) := Lib.hid hgV.out.size
                have hVE : Hid (w0.heap.size ≤ VE.heap.size) := Lib.hid (Nat.le_trans hgV.out.size hgE.size)
                have r4 := fun o => (hRcV.out (VE.alloc o) (grown_trans hgE (grown_alloc _ _ _))).2.2.2.2
                have r4' := (hRcV.out VE hgE).2.2.2.2
                have b0 := fun o => (hbE.grown (grown_alloc VE o (some cb))).cell nb _ (.head _) 0 _ rfl
                have b1 := fun o => (hbE.grown (grown_alloc VE o (some cb))).cell nb _ (.head _) 1 _ rfl
                have b0' := hbE.cell nb _ (.head _) 0 _ rfl
                have b1' := hbE.cell nb _ (.head _) 1 _ rfl
                have hRA : Hid (∀ o, PI rb cb s g cap l W5 (.slice p1 n1 c1) (.slice p2 n2 c2) (.slice p3 n3 c3) (.slice p4 n4 c4) pvs n linked k4 (VE.alloc o).drew) := Lib.hid (fun o => (hPE.alloc o).drew)
                have hown : Hid (∀ o, (VE.alloc o).drew.ownsRow (rb + 1) 41 2 (.slice p4 n4 c4) n4 ((linked.map endC).flatten)) := Lib.hid (fun o => by have := (hRA.out o).lk; unfold Own at this; rwa [hn4'.out] at this)
                have hbF : Hid (∀ o, Kn cb [(nb, [.int .i64 i, .int .i64 (p : Int)])] (VE.alloc o).drew) := Lib.hid (fun o => (hbE.grown (grown_alloc VE o (some cb))).grown (grown_drew _ _))
                have hrF : Hid (∀ o, Kn cb [(zr, [.int .i64 0, .int .i64 0])] (VE.alloc o).drew) := Lib.hid (fun o => (hrE.grown (grown_alloc VE o (some cb))).grown (grown_drew _ _))
                have hgF : Hid (∀ o, w0.grownBy (VE.alloc o).drew (some cb)) := Lib.hid (fun o => grown_trans (grown_trans hgV.out hgE) (grown_trans (grown_alloc VE o (some cb)) (grown_drew _ _)))
                have hszE : Hid (rb + 1 ≤ VE.heap.size) := Lib.hid hPE.rp.lt
                clear hPE hrE hbE hgE hXE
                go_region_law (go_loud (refine rowStep2 endC 41 90 2 16 (.agg #[.int .i64 0, .int .i64 0]) Tryz.underlying90 end_info rfl (by decide) (by decide) endC_len endC_one p4 n4 c4 hn4'.out (hown.out (.cells #[.int .i64 i, .int .i64 (p : Int)] 41)) (by have := hszE.out; simp; omega) (Nat.le_succ_of_le hb3'.out) ⟨i, (p : Int)⟩ VE.heap.size (fun j u hu => (cell_new VE _ _ _ j rfl).trans (by simpa [endC] using hu)) rfl (.tmp 75) (.tmp 77) rfl (by simp [Act.eval]) (by simp [Act.eval]) ?_; intro g9 c9 w9 h2 h3 h4; have hR9 := (hRA.out (.cells #[.int .i64 i, .int .i64 (p : Int)] 41)).rpApp h3; have f2 := hR9.c4; have f3 := hR9.fz; have h2' := Lib.hid h2; have h3' := Lib.hid h3; have h4' := Lib.hid h4; clear h2 h3 h4 hR9))
                all_goals
                  have hI10 := (hRA.out (.cells #[.int .i64 i, .int .i64 (p : Int)] 41)).app h3'.out h2'.out
                  have hb10 := ((hbF.out (.cells #[.int .i64 i, .int .i64 (p : Int)] 41)).apart h3'.out (fun z cs hz => by obtain ⟨rfl, -⟩ := Prod.mk.inj (List.mem_singleton.1 hz); exact hA.out _ (Nat.le_trans hV0.out hge.out))).other (m := rb) (by have := hrz.out; have := hzr.out; have := hV0.out; have := hge.out; omega) 4 (.slice (some ⟨g9, 0, none⟩) (n4 + 1) c9)
                  have hr10 := ((hrF.out (.cells #[.int .i64 i, .int .i64 (p : Int)] 41)).apart h3'.out (fun z cs hz => by obtain ⟨rfl, -⟩ := Prod.mk.inj (List.mem_singleton.1 hz); exact hA.out _ (Nat.le_of_eq hzr.out))).other (m := rb) (by have := hrz.out; omega) 4 (.slice (some ⟨g9, 0, none⟩) (n4 + 1) c9)
                  have hlz : Hid ((Value.slice (some ⟨g9, 0, none⟩) (n4 + 1) c9).ownBlock ≠ some zr) := Lib.hid (fun e => by
                    have e' : g9 = zr := Option.some.inj e
                    subst e'
                    rcases h4'.out with h | h
                    · exact hA.out _ (Nat.le_of_eq hzr.out) h
                    · have h5 : g9 = VE.heap.size + 1 := by simpa using h
                      have := hVE.out; have := hzr.out; omega)
                  have hSt : Hid (Still w0 cb rb (Value.slice p4 n4 c4).ownBlock (w9.setCell ⟨rb, 4, none⟩ (.slice (some ⟨g9, 0, none⟩) (n4 + 1) c9))) := Lib.hid ⟨by have := Nat.le_trans (hgF.out (.cells #[.int .i64 i, .int .i64 (p : Int)] 41)).size h3'.out.size; simpa using this, fun z hz z1 z2 z3 => (Below.heap_setCell _ _ _ _ z2).trans ((h3'.out.block z (Nat.lt_of_lt_of_le hz (hgF.out (.cells #[.int .i64 i, .int .i64 (p : Int)] 41)).size) (fun e => z3 e.symm)).trans ((hgF.out (.cells #[.int .i64 i, .int .i64 (p : Int)] 41)).block z hz (fun e => z1 (Option.some.inj e))))⟩
                  obtain ⟨VF, hVF⟩ : ∃ W, w9.setCell ⟨rb, 4, none⟩ (.slice (some ⟨g9, 0, none⟩) (n4 + 1) c9) = W := ⟨_, rfl⟩
                  rw [hVF] at hI10 hb10 hr10 hSt ⊢
                  clear hgF hVF f2 f3 h2' h3' h4' r4 r4' b0 b1 b0' b1' hRA hown hbF hrF hszE
                  have b0 := hb10.cell nb _ (.head _) 0 _ rfl
                  have b1 := hb10.cell nb _ (.head _) 1 _ rfl
                  have z0 := hr10.cell zr _ (.head _) 0 _ rfl
                  have z1 := hr10.cell zr _ (.head _) 1 _ rfl
                  have zf := hr10.frozen zr _ (.head _)
                  have hFin := Lib.hid ((hI10.setz hrz.out hz5.out hAp.out hlz.out 0 (.int .i64 i)).setz hrz.out hz5.out hAp.out hlz.out 1 (.int .i64 (p : Int)))
                  have hSt2 : Hid (Still w0 cb rb (Value.slice p4 n4 c4).ownBlock ((VF.setCell ⟨zr, 0, none⟩ (.int .i64 i)).setCell ⟨zr, 1, none⟩ (.int .i64 (p : Int)))) := Lib.hid ⟨by simpa using hSt.out.1, fun z hz z1 z2 z3 => (Below.heap_setCell _ _ _ _ (by have := hzr.out; show z ≠ zr; omega)).trans ((Below.heap_setCell _ _ _ _ (by have := hzr.out; show z ≠ zr; omega)).trans (hSt.out.2 z hz z1 z2 z3))⟩
                  clear hI10 hb10 hr10
                  go_wp2
                  refine bodyPost_ret (v := .agg #[.int .i64 i, .int .i64 (p : Int)]) ?_ rfl ⟨rfl, ⟨_, _, _, _, _, hFin.out⟩, hSt2.out⟩
                  simp [results, Tryz.results69, go_sem, z0, z1]
end
end Go.Proofs.YtkffjjlmoojffaaGreatDoor
