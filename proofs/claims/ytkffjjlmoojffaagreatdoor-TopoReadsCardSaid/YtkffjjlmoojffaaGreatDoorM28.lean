/-
  WHAT IS PROVED HERE: a part of the proof of the claim's theorem: NetL; NetM.
-/
import Derived.Test.YtkffjjlmoojffaaGreatDoorRows
import Derived.Test.YtkffjjlmoojffaaGreatDoorM27
import Derived.Deep.RegionLaw
import Derived.Deep.AppendLies
import Derived.BigRegion
set_option linter.all false
namespace Go.Proofs.YtkffjjlmoojffaaGreatDoor
open Go.RowKit
structure Mono (d d' : DS) : Prop where
  k : d.k ≤ d'.k
  b : d'.bad = false → d.bad = false
theorem Mono.refl (d : DS) : Mono d d := ⟨Nat.le_refl _, id⟩
theorem Mono.trans {a b c : DS} (h : Mono a b) (h2 : Mono b c) : Mono a c := ⟨Nat.le_trans h.k h2.k, fun e => h.b (h2.b e)⟩
theorem mono_fail (so : Bool) (t : Tok) (e : Int) (d : DS) : Mono d (dFail so t e d) := by
  unfold dFail
  split
  · exact ⟨Nat.le_refl _, fun h => by cases h⟩
  · exact Mono.refl d
theorem mono_take (l : List Tok) (d : DS) : Mono d (dTake l d) := ⟨dTake_k l d, by unfold dTake; split <;> exact id⟩
theorem mono_want (l : List Tok) (d : DS) (x : ByteArray) : Mono d (dWant l d x) := (mono_take l d).trans (mono_fail _ _ _ _)
theorem mono_name (l : List Tok) (d : DS) : Mono d (dName l d) := (mono_take l d).trans (mono_fail _ _ _ _)
theorem mono_port (l : List Tok) (d : DS) : Mono d (dPort l d) := (((mono_take l d).trans (mono_fail _ _ _ _)).trans (mono_fail _ _ _ _)).trans (mono_fail _ _ _ _)
theorem mono_one (l : List Tok) (out : List Int) (d : DS) : Mono d (dOne l out d) := mono_fail _ _ _ _
theorem mono_new (l : List Tok) (out : List Int) (d : DS) : Mono d (dNew l out d) := (mono_port l d).trans (mono_fail _ _ _ _)
theorem mono_portsN (l : List Tok) : ∀ (f : Nat) (out : List Int) (d : DS), Mono d (dPortsN l f out d).2
  | 0, _, d => Mono.refl d
  | f + 1, out, d => by
    unfold dPortsN
    split
    · exact (((mono_one l out d).trans (mono_new l out _)).trans (mono_want l _ _)).trans (mono_portsN l f _ _)
    · exact Mono.refl d
theorem mono_ports (l : List Tok) (d : DS) : Mono d (dPorts l d).2 := ((mono_want l d _).trans (mono_portsN l _ _ _)).trans (mono_want l _ _)
theorem mono_end (l : List Tok) (n : Net') (d : DS) : Mono d (dEnd l n d) := (((((mono_name l d).trans (mono_fail _ _ _ _)).trans (mono_want l _ _)).trans (mono_port l _)).trans (mono_fail _ _ _ _)).trans (mono_fail _ _ _ _)
structure Ok (l : List Tok) (d : DS) : Prop where
  le : d.k ≤ l.length
  lt : d.bad = false → d.k < l.length
section
variable {l : List Tok} {z : Nat}
theorem Ok.fail {d : DS} (h : Ok l d) (so : Bool) (t : Tok) (e : Int) : Ok l (dFail so t e d) := ⟨by rw [dFail_k]; exact h.le, dFail_lt _ _ _ _ h.lt⟩
theorem Ok.take {d : DS} (h : Ok l d) (hl : TL l z) : Ok l (dTake l d) := ⟨dTake_le hl h.le h.lt, dTake_lt hl d h.lt⟩
theorem Ok.want {d : DS} (h : Ok l d) (hl : TL l z) (x : ByteArray) : Ok l (dWant l d x) := (h.take hl).fail _ _ _
theorem Ok.name {d : DS} (h : Ok l d) (hl : TL l z) : Ok l (dName l d) := (h.take hl).fail _ _ _
theorem Ok.port {d : DS} (h : Ok l d) (hl : TL l z) : Ok l (dPort l d) := (((h.take hl).fail _ _ _).fail _ _ _).fail _ _ _
theorem Ok.new {d : DS} (h : Ok l d) (hl : TL l z) (out : List Int) : Ok l (dNew l out d) := (h.port hl).fail _ _ _
theorem Ok.portsN (hl : TL l z) : ∀ (f : Nat) (out : List Int) (d : DS), Ok l d → Ok l (dPortsN l f out d).2
  | 0, _, d, h => h
  | f + 1, out, d, h => by
    unfold dPortsN
    split
    · exact Ok.portsN hl f _ _ (((h.fail _ _ _).new hl out).want hl _)
    · exact h
theorem Ok.ports {d : DS} (h : Ok l d) (hl : TL l z) : Ok l (dPorts l d).2 := (Ok.portsN hl _ _ _ (h.want hl _)).want hl _
theorem Ok.end1 {d : DS} (h : Ok l d) (hl : TL l z) (n : Net') : Ok l (dEnd1 l n d) := ((h.name hl).fail _ _ _).want hl _
theorem Ok.end_ {d : DS} (h : Ok l d) (hl : TL l z) (n : Net') : Ok l (dEnd l n d) := (((h.end1 hl n).port hl).fail _ _ _).fail _ _ _
end
def dNode1 (l : List Tok) (n : Net') (d : DS) : DS := dTake l (dFail (decide (n.names.length < 8)) (dNow l d) 5 d)
def dNode2 (l : List Tok) (n : Net') (d : DS) : DS := dFail (decide (findF n.names (dNow l (dNode1 l n d)).s < 0)) (dNow l (dNode1 l n d)) 8 (dName l (dNode1 l n d))
def dNodeN (l : List Tok) (n : Net') (d : DS) : Net' := ⟨n.names ++ [(dNow l (dNode1 l n d)).s], n.ports ++ [(dPorts l (dNode2 l n d)).1], n.links⟩
def dNodeD (l : List Tok) (n : Net') (d : DS) : DS := (dPorts l (dNode2 l n d)).2
def dNodes (l : List Tok) : Nat → Net' → DS → Net' × DS
  | 0, n, d => (n, d)
  | f + 1, n, d => if dHas l d wSwitch = true then dNodes l f (dNodeN l n d) (dNodeD l n d) else (n, d)
def dLinkA (l : List Tok) (n : Net') (d : DS) : End' := dEndE l n (dTake l d)
def dLink1 (l : List Tok) (n : Net') (d : DS) : DS := dEnd l n (dTake l d)
def dLinkB (l : List Tok) (n : Net') (d : DS) : End' := dEndE l n (dLink1 l n d)
def dLinkN (l : List Tok) (n : Net') (d : DS) : Net' := ⟨n.names, n.ports, n.links ++ [(dLinkA l n d, dLinkB l n d)]⟩
def dLinkD (l : List Tok) (n : Net') (d : DS) : DS := dWant l (dFail (!decide (dLinkA l n d = dLinkB l n d)) (dNow l (dEnd1 l n (dLink1 l n d))) 8 (dEnd l n (dLink1 l n d))) wSemi
def dLinks (l : List Tok) : Nat → Net' → DS → Net' × DS
  | 0, n, d => (n, d)
  | f + 1, n, d => if dHas l d wLink = true then dLinks l f (dLinkN l n d) (dLinkD l n d) else (n, d)
def net0 : Net' := ⟨[], [], []⟩
def d00 : DS := ⟨0, false, 0, 0⟩
def dAll (l : List Tok) : Net' × DS :=
  let r := dLinks l (l.length + 2) (dNodes l (l.length + 2) net0 d00).1 (dNodes l (l.length + 2) net0 d00).2
  (r.1, dFail (decide ((dNow l r.2).kind = 0)) (dNow l r.2) 4 r.2)
theorem has_go {l : List Tok} {d : DS} {x : ByteArray} (h : dHas l d x = true) : d.bad = false ∧ ¬ (dNow l d).kind = 0 := by
  unfold dHas at h
  simp only [Bool.and_eq_true, Bool.or_eq_true, decide_eq_true_eq] at h
  have hk : ¬ (dNow l d).kind = 0 := by omega
  refine ⟨?_, hk⟩
  cases hb : d.bad with
  | false => rfl
  | true =>
    have : (dNow l d).kind = 9 := by unfold dNow; rw [hb]; rfl
    omega
theorem take_adv {l : List Tok} {d : DS} (hb : d.bad = false) (h : ¬ (dNow l d).kind = 0) : (dTake l d).k = d.k + 1 := by
  unfold dTake
  rw [if_pos (by rw [hb]; simpa using h)]
theorem node_left {l : List Tok} {z : Nat} (hl : TL l z) (n : Net') {d : DS} (h : Ok l d) (hh : dHas l d wSwitch = true) : Ok l (dNodeD l n d) ∧ dLeft l (dNodeD l n d) < dLeft l d ∧ (dNodeD l n d).k ≥ d.k ∧ ((dNodeD l n d).bad = false → d.k + 1 ≤ (dNodeD l n d).k) := by
  obtain ⟨hb, hk⟩ := has_go hh
  have hO1 : Ok l (dNode1 l n d) := (h.fail _ _ _).take hl
  have hO2 : Ok l (dNode2 l n d) := (hO1.name hl).fail _ _ _
  have hO := hO2.ports hl
  have m1 : Mono (dFail (decide (n.names.length < 8)) (dNow l d) 5 d) (dNodeD l n d) := (((mono_take l _).trans (mono_name l _)).trans (mono_fail _ _ _ _)).trans (mono_ports l _)
  have m0 := (mono_fail (decide (n.names.length < 8)) (dNow l d) 5 d).trans m1
  have hadv : (dNodeD l n d).bad = false → d.k + 1 ≤ (dNodeD l n d).k := by
    intro hf
    have hf1 := m1.b hf
    have e1 : dFail (decide (n.names.length < 8)) (dNow l d) 5 d = d := by
      unfold dFail at hf1 ⊢
      split
      · rename_i hc; rw [if_pos hc] at hf1; cases hf1
      · rfl
    have m2 : Mono (dNode1 l n d) (dNodeD l n d) := ((mono_name l _).trans (mono_fail _ _ _ _)).trans (mono_ports l _)
    have : (dNode1 l n d).k = d.k + 1 := by unfold dNode1; rw [e1]; exact take_adv hb hk
    have := m2.k
    omega
  have hlt := h.lt hb
  refine ⟨hO, ?_, m0.k, hadv⟩
  unfold dLeft
  cases hf : (dNodeD l n d).bad with
  | true => simp only [hb, if_true, Bool.false_eq_true, if_false]; omega
  | false => simp only [hb, Bool.false_eq_true, if_false]; have := hadv hf; omega
theorem link_left {l : List Tok} {z : Nat} (hl : TL l z) (n : Net') {d : DS} (h : Ok l d) (hh : dHas l d wLink = true) : Ok l (dLinkD l n d) ∧ dLeft l (dLinkD l n d) < dLeft l d ∧ d.k + 1 ≤ (dLinkD l n d).k := by
  obtain ⟨hb, hk⟩ := has_go hh
  have hO1 : Ok l (dTake l d) := h.take hl
  have hO2 : Ok l (dLink1 l n d) := hO1.end_ hl n
  have hO : Ok l (dLinkD l n d) := ((hO2.end_ hl n).fail _ _ _).want hl _
  have m1 : Mono (dTake l d) (dLinkD l n d) := (((mono_end l n _).trans (mono_end l n _)).trans (mono_fail _ _ _ _)).trans (mono_want l _ _)
  have hadv : d.k + 1 ≤ (dLinkD l n d).k := by have := m1.k; rw [take_adv hb hk] at this; exact this
  have hlt := h.lt hb
  refine ⟨hO, ?_, hadv⟩
  unfold dLeft
  cases hf : (dLinkD l n d).bad with
  | true => simp only [hb, if_true, Bool.false_eq_true, if_false]; omega
  | false => simp only [hb, Bool.false_eq_true, if_false]; omega
structure NI (base : Nat) (W : World) (sw po li : Value) (pvs : List Sl3) (n : Net') : Prop where
  sw : Own W base 9 1 strC sw n.names
  po : Own W base 39 1 slC po pvs
  li : Own W base 68 4 linkC li n.links
  len : pvs.length = n.ports.length
  each : ∀ (i : Nat) (x : Sl3) (ps : List Int), pvs[i]? = some x → n.ports[i]? = some ps → Own W base 3 1 intC x.v ps ∧ ps.length ≤ 1048576
theorem own_type {α β : Type} {W : World} {b1 b2 : Nat} {e1 e2 : TypeId} {C1 C2 : Nat} {f1 : α → List Value} {f2 : β → List Value} {v1 v2 : Value} {l1 : List α} {l2 : List β} (h1 : Own W b1 e1 C1 f1 v1 l1) (h2 : Own W b2 e2 C2 f2 v2 l2) (hne : e1 ≠ e2) : v1.ownBlock = none ∨ v1.ownBlock ≠ v2.ownBlock := by
  rcases h1.2 with ⟨rfl, _⟩ | ⟨g1, c1, cur1, rfl, _, hh1, _⟩
  · exact .inl rfl
  · rcases h2.2 with ⟨rfl, _⟩ | ⟨g2, c2, cur2, rfl, _, hh2, _⟩
    · right; intro h; cases h
    · right
      intro h
      have : g1 = g2 := Option.some.inj h
      subst this
      rw [hh1] at hh2
      have := Option.some.inj hh2
      injection this with _ h2 _
      exact hne h2
theorem own_other {α : Type} {W W' : World} {base : Nat} {e : TypeId} {C : Nat} {f : α → List Value} {v : Value} {l : List α} {row : Option Nat} (h : Own W base e C f v l) (hg : W.grownBy W' row) (hne : v.ownBlock = none ∨ v.ownBlock ≠ row) : Own W' base e C f v l := h.kept hg hne
theorem NI.up {base : Nat} {W W' : World} {sw po li : Value} {pvs : List Sl3} {n : Net'} (h : NI base W sw po li pvs n) {b : Nat} (hb : b < base) (hg : W.grownBy W' (some b)) : NI base W' sw po li pvs n :=
  ⟨h.sw.kept hg (own_block h.sw b hb), h.po.kept hg (own_block h.po b hb), h.li.kept hg (own_block h.li b hb), h.len, fun i x ps hx hp => ⟨(h.each i x ps hx hp).1.kept hg (own_block (h.each i x ps hx hp).1 b hb), (h.each i x ps hx hp).2⟩⟩
theorem NI.name {base : Nat} {W W' : World} {sw po li sw' : Value} {pvs : List Sl3} {n : Net'} {x : ByteArray} (h : NI base W sw po li pvs n) (hg : W.grownBy W' sw.ownBlock) (ho : Own W' base 9 1 strC sw' (n.names ++ [x])) : NI base W' sw' po li pvs ⟨n.names ++ [x], n.ports, n.links⟩ :=
  ⟨ho, own_other h.po hg (own_type h.po h.sw (by decide)), own_other h.li hg (own_type h.li h.sw (by decide)), h.len, fun i y ps hx hp => ⟨own_other (h.each i y ps hx hp).1 hg (own_type (h.each i y ps hx hp).1 h.sw (by decide)), (h.each i y ps hx hp).2⟩⟩
theorem NI.link {base : Nat} {W W' : World} {sw po li li' : Value} {pvs : List Sl3} {n : Net'} {x : End' × End'} (h : NI base W sw po li pvs n) (hg : W.grownBy W' li.ownBlock) (ho : Own W' base 68 4 linkC li' (n.links ++ [x])) : NI base W' sw po li' pvs ⟨n.names, n.ports, n.links ++ [x]⟩ :=
  ⟨own_other h.sw hg (own_type h.sw h.li (by decide)), own_other h.po hg (own_type h.po h.li (by decide)), ho, h.len, fun i y ps hx hp => ⟨own_other (h.each i y ps hx hp).1 hg (own_type (h.each i y ps hx hp).1 h.li (by decide)), (h.each i y ps hx hp).2⟩⟩
theorem NI.port {base : Nat} {W W' : World} {sw po li po' : Value} {pvs : List Sl3} {n : Net'} {x : Sl3} {ps : List Int} (h : NI base W sw po li pvs n) (hp : Own W base 3 1 intC x.v ps) (hz : ps.length ≤ 1048576) (hg : W.grownBy W' po.ownBlock) (ho : Own W' base 39 1 slC po' (pvs ++ [x])) : NI base W' sw po' li (pvs ++ [x]) ⟨n.names, n.ports ++ [ps], n.links⟩ := by
  refine ⟨own_other h.sw hg (own_type h.sw h.po (by decide)), ho, own_other h.li hg (own_type h.li h.po (by decide)), by simp [h.len], fun i y qs hx hq => ?_⟩
  rw [List.getElem?_append] at hx hq
  by_cases hi : i < pvs.length
  · rw [if_pos hi] at hx
    have hi2 : i < n.ports.length := by rw [← h.len]; exact hi
    simp only [hi2, if_true] at hq
    exact ⟨own_other (h.each i y qs hx hq).1 hg (own_type (h.each i y qs hx hq).1 h.po (by decide)), (h.each i y qs hx hq).2⟩
  · rw [if_neg hi] at hx
    have hi2 : ¬ i < n.ports.length := by rw [← h.len]; exact hi
    simp only [hi2, if_false] at hq
    have h1 : i - pvs.length = 0 := by
      have := (List.getElem?_eq_some_iff.1 hx).1
      simp at this; omega
    rw [h1] at hx
    rw [← h.len, h1] at hq
    obtain rfl := Option.some.inj hx
    obtain rfl := Option.some.inj hq
    exact ⟨own_other hp hg (own_type hp h.po (by decide)), hz⟩
theorem NI.ok {base : Nat} {W : World} {sw po li : Value} {pvs : List Sl3} {n : Net'} (h : NI base W sw po li pvs n) {b : Nat} (hb : b < base) : NetOk W b sw po li pvs n := fun W' hg =>
  have h' := h.up hb hg
  ⟨own_lies h'.sw strC_len, ⟨own_lies h'.po slC_len, h'.len, fun i x ps hx hp => ⟨own_lies (h'.each i x ps hx hp).1 intC_len, (h'.each i x ps hx hp).2⟩⟩, own_lies h'.li linkC_len⟩
theorem NI.nil (base : Nat) (W : World) : NI base W (.slice none 0 0) (.slice none 0 0) (.slice none 0 0) [] net0 :=
  ⟨World.ownsRow_nil _ _ _ _, World.ownsRow_nil _ _ _ _, World.ownsRow_nil _ _ _ _, rfl, fun i x ps hx => by simp at hx⟩
def Fo (z : Nat) (d : DS) : Prop := d.bad = true → d.p ≤ z ∧ ¬ d.e = 0
section
variable {l : List Tok} {z : Nat} {d : DS}
theorem now_at (hl : TL l z) (d : DS) : (dNow l d).at_ ≤ z := by
  unfold dNow
  split
  · exact Nat.zero_le _
  · unfold getT
    cases h : l[d.k]? with
    | none => exact Nat.zero_le _
    | some t => exact hl.at_ _ _ h
theorem Fo.fail (h : Fo z d) (so : Bool) {t : Tok} (ht : t.at_ ≤ z) {e : Int} (he : ¬ e = 0) : Fo z (dFail so t e d) := by
  unfold dFail
  split
  · exact fun _ => ⟨ht, he⟩
  · exact h
theorem Fo.take (h : Fo z d) : Fo z (dTake l d) := by unfold dTake; split <;> exact h
theorem Fo.want (h : Fo z d) (hl : TL l z) (x : ByteArray) : Fo z (dWant l d x) := h.take.fail _ (now_at hl _) (by decide)
theorem Fo.name (h : Fo z d) (hl : TL l z) : Fo z (dName l d) := h.take.fail _ (now_at hl _) (by decide)
theorem Fo.port (h : Fo z d) (hl : TL l z) : Fo z (dPort l d) := ((h.take.fail _ (now_at hl _) (by decide)).fail _ (now_at hl _) (by decide)).fail _ (now_at hl _) (by decide)
theorem Fo.portsN (hl : TL l z) : ∀ (f : Nat) (out : List Int) (d : DS), Fo z d → Fo z (dPortsN l f out d).2
  | 0, _, _, h => h
  | f + 1, out, d, h => by
    unfold dPortsN
    split
    · exact Fo.portsN hl f _ _ ((((h.fail _ (now_at hl _) (by decide)).port hl).fail _ (now_at hl _) (by decide)).want hl _)
    · exact h
theorem Fo.ports (h : Fo z d) (hl : TL l z) : Fo z (dPorts l d).2 := (Fo.portsN hl _ _ _ (h.want hl _)).want hl _
theorem Fo.end_ (h : Fo z d) (hl : TL l z) (n : Net') : Fo z (dEnd l n d) := ((((((h.name hl).fail _ (now_at hl _) (by decide)).want hl _).port hl).fail _ (now_at hl _) (by decide)).fail _ (now_at hl _) (by decide))
theorem Fo.nodes (hl : TL l z) : ∀ (f : Nat) (n : Net') (d : DS), Fo z d → Fo z (dNodes l f n d).2
  | 0, _, _, h => h
  | f + 1, n, d, h => by
    unfold dNodes
    split
    · exact Fo.nodes hl f _ _ (((((h.fail _ (now_at hl _) (by decide)).take).name hl).fail _ (now_at hl _) (by decide)).ports hl)
    · exact h
theorem Fo.links (hl : TL l z) : ∀ (f : Nat) (n : Net') (d : DS), Fo z d → Fo z (dLinks l f n d).2
  | 0, _, _, h => h
  | f + 1, n, d, h => by
    unfold dLinks
    split
    · exact Fo.links hl f _ _ ((((h.take.end_ hl n).end_ hl n).fail _ (now_at hl _) (by decide)).want hl _)
    · exact h
theorem fo_all (hl : TL l z) : Fo z (dAll l).2 := (Fo.links hl _ _ _ (Fo.nodes hl _ _ _ (fun h => by cases h))).fail _ (now_at hl _) (by decide)
end
end Go.Proofs.YtkffjjlmoojffaaGreatDoor
namespace Go.Proofs.YtkffjjlmoojffaaGreatDoor
open Go.RowKit
theorem rowStep {α : Type} (f : α → List Value) (e T : TypeId) (C bytes : Nat) (z : Value) (hT : Tryz.prog.underlying T = some (.slice e)) (hinfo : (Tryz.prog.info? e).map (fun i => (i.zero, i.size, i.bytes)) = some (some z, C, bytes)) (hzs : z.cells.size = C) (hC0 : 0 < C) (hby : bytes ≤ 64)
    (hC : ∀ y, (f y).length = C) (h1 : ∀ y, ∀ u ∈ f y, u.oneCell' = true) {W : World} {base : Nat} (p : Option Addr) (n c : Nat) {l : List α} (hn : l.length = n) {ops : Array Oper} {o : Oper} {a : Act} {K : Act → World → Prop} {Q : Exit → Act → World → Prop} {E : Prop}
    (h : W.ownsRow base e C (.slice p n c) n ((l.map f).flatten)) (hbase : base ≤ W.heap.size) (hb : l.length ≤ 1048576) (y : α) (g : Nat) (hcell : ∀ j u, (f y)[j]? = some u → W.cell? ⟨g, j, none⟩ = some u) (hgd : o.guard = none) (s x : Operand)
    (ho : o.op = .call { callee := .builtin .append, args := #[s, x], argTypes := #[T, T] }) (hs : a.eval s = .slice p n c) (hx : a.eval x = .slice (some ⟨g, 0, none⟩) 1 1)
    (k : ∀ p' c' w', Own w' base e C f (.slice p' (n + 1) c') (l ++ [y]) → W.grownBy w' (Value.slice p n c).ownBlock → K (a.put o.dst (.slice p' (n + 1) c')) w') : if Region.wanted o (yielded ops a.tmps) = true then Oper.wp Tryz.prog o a W K Q else E := by
  obtain ⟨i0, hi0, hi1, hi2, hi3⟩ := info_parts hinfo
  refine step_append_lies W hgd s x T ho base e i0 z C bytes hT hi0 hi1 hi2 hi3 hzs hC0 (.slice p n c) n _ hs h ⟨g, 0, none⟩ 1 1 (f y) hx (by rw [hC y, Nat.one_mul]) (fun j u hu => by rw [Addr.add_lit, Nat.zero_add]; exact hcell j u hu) (h1 y)
    (by decide) (by simp only [maxLen]; omega) ?_ hbase _ rfl fun g' cap w' h3 h4 _ _ => k (some ⟨g', 0, none⟩) cap w' (by
      subst hn
      show w'.ownsRow base _ C _ (l ++ [y]).length (((l ++ [y]).map f).flatten)
      rw [List.length_append, List.map_append, List.flatten_append]
      simpa using h3) h4
  have : (n + 1) * bytes ≤ 1048577 * 64 := Nat.mul_le_mul (by omega) hby
  omega
theorem Rd.app {w w' : World} {b g cap : Nat} {l : List Tok} {sw po li : Value} {d : DS} (h : Rd w b g cap l sw po li d) (hgb : g < b) {v : Value} (hg : w.grownBy w' v.ownBlock) (hv : ∀ k, v.ownBlock = some k → b + 1 ≤ k) : Rd w' b g cap l sw po li d :=
  h.keep hg.size (hg.block b h.lt (fun e => by have := hv b e.symm; omega)) (hg.block g h.glt (fun e => by have := hv g e.symm; omega))
structure RI (b g cap : Nat) (l : List Tok) (W5 : World) (sw po li : Value) (pvs : List Sl3) (n : Net') (d : DS) (W : World) : Prop where
  below : Below b W5 W
  size : b + 1 ≤ W.heap.size
  gb : g < b
  rd : Rd W b g cap l sw po li d
  ni : NI (b + 1) W sw po li pvs n
section
variable {b g cap : Nat} {l : List Tok} {W5 W W' : World} {sw po li sw' po' li' : Value} {pvs : List Sl3} {n : Net'} {d d' : DS}
theorem RI.step (h : RI b g cap l W5 sw po li pvs n d W) (hg : W.grownBy W' (some b)) (hX : Rd W' b g cap l sw po li d') : RI b g cap l W5 sw po li pvs n d' W' :=
  ⟨h.below.grown hg (by have := h.size; omega) (fun k e => by have := Option.some.inj e; omega), Nat.le_trans h.size hg.size, h.gb, hX, h.ni.up (Nat.lt_succ_self b) hg⟩
theorem RI.plus (h : RI b g cap l W5 sw po li pvs n d W) (x : Ext) : RI b g cap l W5 sw po li pvs n d (Go.Proofs.YtkffjjlmoojffaaGreatDoor.plus W x) := h.step (grown_plus_any _ _ _) (h.rd.plus x)
theorem RI.alloc (h : RI b g cap l W5 sw po li pvs n d W) (o : Obj) : RI b g cap l W5 sw po li pvs n d (W.alloc o) := h.step (grown_alloc _ _ _) (h.rd.alloc o)
theorem rd_drewR (h : Rd W b g cap l sw po li d) : Rd W.drew b g cap l sw po li d := h.keep (Nat.le_refl _) rfl rfl
theorem grown_drew (W : World) (r : Option Nat) : W.grownBy W.drew r := ⟨rfl, rfl, rfl, Nat.le_refl _, fun _ _ _ => rfl⟩
theorem RI.drew (h : RI b g cap l W5 sw po li pvs n d W) : RI b g cap l W5 sw po li pvs n d W.drew := h.step (grown_drew _ _) (rd_drewR h.rd)
theorem RI.row (h : RI b g cap l W5 sw po li pvs n d W) {v : Value} {n' : Net'} {pvs' : List Sl3} (hg : W.grownBy W' v.ownBlock) (hv : ∀ k, v.ownBlock = some k → b + 1 ≤ k) (hni : NI (b + 1) W' sw' po' li' pvs' n') (i : Nat) (u : Value)
    (e : [.slice (some ⟨g, 0, none⟩) l.length cap, .int .i64 (d.k : Int), sw', po', li', .bool d.bad, .int .i64 d.e, .int .i64 (d.p : Int)] = [.slice (some ⟨g, 0, none⟩) l.length cap, .int .i64 (d.k : Int), sw, po, li, .bool d.bad, .int .i64 d.e, .int .i64 (d.p : Int)].set i u) : RI b g cap l W5 sw' po' li' pvs' n' d (W'.setCell ⟨b, i, none⟩ u) := by
  have hR := h.rd.app h.gb hg hv
  have hB := h.below.grown hg (by have := h.size; omega) (fun k e => by have := hv k e; omega)
  refine ⟨hB.setCell (p := ⟨b, i, none⟩) (Nat.le_refl _) _, by have := hg.size; have := h.size; simp; omega, h.gb, hR.put i u e, hni.up (Nat.lt_succ_self b) (grown_put _ _ _ _)⟩
end
end Go.Proofs.YtkffjjlmoojffaaGreatDoor
