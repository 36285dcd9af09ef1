/-
  WHAT IS PROVED HERE: a part of the proof of the claim's theorem: NetL; CurB.
-/
import Derived.Test.YtkffjjlmoojffaaGreatDoorRows
import Derived.Test.YtkffjjlmoojffaaGreatDoorB19
import Derived.Test.YtkffjjlmoojffaaGreatDoorB16
set_option linter.all false
namespace Go.Proofs.YtkffjjlmoojffaaGreatDoor
open Go.RowKit
structure Mono (d d' : DS) : Prop where
  k : d.k ≤ d'.k
  b : d'.bad = false → d.bad = false
theorem Mono.refl (d : DS) : Mono d d := ⟨Nat.le_refl _, id⟩
theorem Mono.trans {a b c : DS} (h : Mono a b) (h2 : Mono b c) : Mono a c := ⟨Nat.le_trans h.k h2.k, fun e => h.b (h2.b e)⟩
structure Ok (l : List Tok) (d : DS) : Prop where
  le : d.k ≤ l.length
  lt : d.bad = false → d.k < l.length
section
variable {l : List Tok} {z : Nat}
theorem Ok.fail {d : DS} (h : Ok l d) (so : Bool) (t : Tok) (e : Int) : Ok l (dFail so t e d) := ⟨by rw [dFail_k]; exact h.le, dFail_lt _ _ _ _ h.lt⟩
theorem Ok.take {d : DS} (h : Ok l d) (hl : TL l z) : Ok l (dTake l d) := ⟨dTake_le hl h.le h.lt, dTake_lt hl d h.lt⟩
theorem Ok.want {d : DS} (h : Ok l d) (hl : TL l z) (x : ByteArray) : Ok l (dWant l d x) := (h.take hl).fail _ _ _
theorem Ok.name {d : DS} (h : Ok l d) (hl : TL l z) : Ok l (dName l d) := (h.take hl).fail _ _ _
theorem Ok.port {d : DS} (h : Ok l d) (hl : TL l z) : Ok l (dPort l d) := (((h.take hl).fail _ _ _).fail _ _ _).fail _ _ _
theorem Ok.new {d : DS} (h : Ok l d) (hl : TL l z) (out : List Int) : Ok l (dNew l out d) := (h.port hl).fail _ _ _
theorem Ok.portsN (hl : TL l z) : ∀ (f : Nat) (out : List Int) (d : DS), Ok l d → Ok l (dPortsN l f out d).2
  | 0, _, d, h => h
  | f + 1, out, d, h => by
    unfold dPortsN
    split
    · exact Ok.portsN hl f _ _ (((h.fail _ _ _).new hl out).want hl _)
    · exact h
theorem Ok.ports {d : DS} (h : Ok l d) (hl : TL l z) : Ok l (dPorts l d).2 := (Ok.portsN hl _ _ _ (h.want hl _)).want hl _
theorem Ok.end1 {d : DS} (h : Ok l d) (hl : TL l z) (n : Net') : Ok l (dEnd1 l n d) := ((h.name hl).fail _ _ _).want hl _
theorem Ok.end_ {d : DS} (h : Ok l d) (hl : TL l z) (n : Net') : Ok l (dEnd l n d) := (((h.end1 hl n).port hl).fail _ _ _).fail _ _ _
end
def dNode1 (l : List Tok) (n : Net') (d : DS) : DS := dTake l (dFail (decide (n.names.length < 8)) (dNow l d) 5 d)
def dNode2 (l : List Tok) (n : Net') (d : DS) : DS := dFail (decide (findF n.names (dNow l (dNode1 l n d)).s < 0)) (dNow l (dNode1 l n d)) 8 (dName l (dNode1 l n d))
def dNodeN (l : List Tok) (n : Net') (d : DS) : Net' := ⟨n.names ++ [(dNow l (dNode1 l n d)).s], n.ports ++ [(dPorts l (dNode2 l n d)).1], n.links⟩
def dNodeD (l : List Tok) (n : Net') (d : DS) : DS := (dPorts l (dNode2 l n d)).2
def dNodes (l : List Tok) : Nat → Net' → DS → Net' × DS
  | 0, n, d => (n, d)
  | f + 1, n, d => if dHas l d wSwitch = true then dNodes l f (dNodeN l n d) (dNodeD l n d) else (n, d)
def dLinkA (l : List Tok) (n : Net') (d : DS) : End' := dEndE l n (dTake l d)
def dLink1 (l : List Tok) (n : Net') (d : DS) : DS := dEnd l n (dTake l d)
def dLinkB (l : List Tok) (n : Net') (d : DS) : End' := dEndE l n (dLink1 l n d)
def dLinkN (l : List Tok) (n : Net') (d : DS) : Net' := ⟨n.names, n.ports, n.links ++ [(dLinkA l n d, dLinkB l n d)]⟩
def dLinkD (l : List Tok) (n : Net') (d : DS) : DS := dWant l (dFail (!decide (dLinkA l n d = dLinkB l n d)) (dNow l (dEnd1 l n (dLink1 l n d))) 8 (dEnd l n (dLink1 l n d))) wSemi
def dLinks (l : List Tok) : Nat → Net' → DS → Net' × DS
  | 0, n, d => (n, d)
  | f + 1, n, d => if dHas l d wLink = true then dLinks l f (dLinkN l n d) (dLinkD l n d) else (n, d)
def net0 : Net' := ⟨[], [], []⟩
def d00 : DS := ⟨0, false, 0, 0⟩
def dAll (l : List Tok) : Net' × DS :=
  let r := dLinks l (l.length + 2) (dNodes l (l.length + 2) net0 d00).1 (dNodes l (l.length + 2) net0 d00).2
  (r.1, dFail (decide ((dNow l r.2).kind = 0)) (dNow l r.2) 4 r.2)
theorem has_go {l : List Tok} {d : DS} {x : ByteArray} (h : dHas l d x = true) : d.bad = false ∧ ¬ (dNow l d).kind = 0 := by
  unfold dHas at h
  simp only [Bool.and_eq_true, Bool.or_eq_true, decide_eq_true_eq] at h
  have hk : ¬ (dNow l d).kind = 0 := by omega
  refine ⟨?_, hk⟩
  cases hb : d.bad with
  | false => rfl
  | true =>
    have : (dNow l d).kind = 9 := by unfold dNow; rw [hb]; rfl
    omega
structure NI (base : Nat) (W : World) (sw po li : Value) (pvs : List Sl3) (n : Net') : Prop where
  sw : Own W base 9 1 strC sw n.names
  po : Own W base 39 1 slC po pvs
  li : Own W base 68 4 linkC li n.links
  len : pvs.length = n.ports.length
  each : ∀ (i : Nat) (x : Sl3) (ps : List Int), pvs[i]? = some x → n.ports[i]? = some ps → Own W base 3 1 intC x.v ps ∧ ps.length ≤ 1048576
theorem own_type {α β : Type} {W : World} {b1 b2 : Nat} {e1 e2 : TypeId} {C1 C2 : Nat} {f1 : α → List Value} {f2 : β → List Value} {v1 v2 : Value} {l1 : List α} {l2 : List β} (h1 : Own W b1 e1 C1 f1 v1 l1) (h2 : Own W b2 e2 C2 f2 v2 l2) (hne : e1 ≠ e2) : v1.ownBlock = none ∨ v1.ownBlock ≠ v2.ownBlock := by
  rcases h1.2 with ⟨rfl, _⟩ | ⟨g1, c1, cur1, rfl, _, hh1, _⟩
  · exact .inl rfl
  · rcases h2.2 with ⟨rfl, _⟩ | ⟨g2, c2, cur2, rfl, _, hh2, _⟩
    · right; intro h; cases h
    · right
      intro h
      have : g1 = g2 := Option.some.inj h
      subst this
      rw [hh1] at hh2
      have := Option.some.inj hh2
      injection this with _ h2 _
      exact hne h2
theorem own_other {α : Type} {W W' : World} {base : Nat} {e : TypeId} {C : Nat} {f : α → List Value} {v : Value} {l : List α} {row : Option Nat} (h : Own W base e C f v l) (hg : W.grownBy W' row) (hne : v.ownBlock = none ∨ v.ownBlock ≠ row) : Own W' base e C f v l := h.kept hg hne
theorem NI.up {base : Nat} {W W' : World} {sw po li : Value} {pvs : List Sl3} {n : Net'} (h : NI base W sw po li pvs n) {b : Nat} (hb : b < base) (hg : W.grownBy W' (some b)) : NI base W' sw po li pvs n :=
  ⟨h.sw.kept hg (own_block h.sw b hb), h.po.kept hg (own_block h.po b hb), h.li.kept hg (own_block h.li b hb), h.len, fun i x ps hx hp => ⟨(h.each i x ps hx hp).1.kept hg (own_block (h.each i x ps hx hp).1 b hb), (h.each i x ps hx hp).2⟩⟩
theorem NI.name {base : Nat} {W W' : World} {sw po li sw' : Value} {pvs : List Sl3} {n : Net'} {x : ByteArray} (h : NI base W sw po li pvs n) (hg : W.grownBy W' sw.ownBlock) (ho : Own W' base 9 1 strC sw' (n.names ++ [x])) : NI base W' sw' po li pvs ⟨n.names ++ [x], n.ports, n.links⟩ :=
  ⟨ho, own_other h.po hg (own_type h.po h.sw (by decide)), own_other h.li hg (own_type h.li h.sw (by decide)), h.len, fun i y ps hx hp => ⟨own_other (h.each i y ps hx hp).1 hg (own_type (h.each i y ps hx hp).1 h.sw (by decide)), (h.each i y ps hx hp).2⟩⟩
theorem NI.link {base : Nat} {W W' : World} {sw po li li' : Value} {pvs : List Sl3} {n : Net'} {x : End' × End'} (h : NI base W sw po li pvs n) (hg : W.grownBy W' li.ownBlock) (ho : Own W' base 68 4 linkC li' (n.links ++ [x])) : NI base W' sw po li' pvs ⟨n.names, n.ports, n.links ++ [x]⟩ :=
  ⟨own_other h.sw hg (own_type h.sw h.li (by decide)), own_other h.po hg (own_type h.po h.li (by decide)), ho, h.len, fun i y ps hx hp => ⟨own_other (h.each i y ps hx hp).1 hg (own_type (h.each i y ps hx hp).1 h.li (by decide)), (h.each i y ps hx hp).2⟩⟩
theorem NI.port {base : Nat} {W W' : World} {sw po li po' : Value} {pvs : List Sl3} {n : Net'} {x : Sl3} {ps : List Int} (h : NI base W sw po li pvs n) (hp : Own W base 3 1 intC x.v ps) (hz : ps.length ≤ 1048576) (hg : W.grownBy W' po.ownBlock) (ho : Own W' base 39 1 slC po' (pvs ++ [x])) : NI base W' sw po' li (pvs ++ [x]) ⟨n.names, n.ports ++ [ps], n.links⟩ := by
  refine ⟨own_other h.sw hg (own_type h.sw h.po (by decide)), ho, own_other h.li hg (own_type h.li h.po (by decide)), by simp [h.len], fun i y qs hx hq => ?_⟩
  rw [List.getElem?_append] at hx hq
  by_cases hi : i < pvs.length
  · rw [if_pos hi] at hx
    have hi2 : i < n.ports.length := by rw [← h.len]; exact hi
    simp only [hi2, if_true] at hq
    exact ⟨own_other (h.each i y qs hx hq).1 hg (own_type (h.each i y qs hx hq).1 h.po (by decide)), (h.each i y qs hx hq).2⟩
  · rw [if_neg hi] at hx
    have hi2 : ¬ i < n.ports.length := by rw [← h.len]; exact hi
    simp only [hi2, if_false] at hq
    have h1 : i - pvs.length = 0 := by
      have := (List.getElem?_eq_some_iff.1 hx).1
      simp at this; omega
    rw [h1] at hx
    rw [← h.len, h1] at hq
    obtain rfl := Option.some.inj hx
    obtain rfl := Option.some.inj hq
    exact ⟨own_other hp hg (own_type hp h.po (by decide)), hz⟩
theorem NI.ok {base : Nat} {W : World} {sw po li : Value} {pvs : List Sl3} {n : Net'} (h : NI base W sw po li pvs n) {b : Nat} (hb : b < base) : NetOk W b sw po li pvs n := fun W' hg =>
  have h' := h.up hb hg
  ⟨own_lies h'.sw strC_len, ⟨own_lies h'.po slC_len, h'.len, fun i x ps hx hp => ⟨own_lies (h'.each i x ps hx hp).1 intC_len, (h'.each i x ps hx hp).2⟩⟩, own_lies h'.li linkC_len⟩
theorem NI.nil (base : Nat) (W : World) : NI base W (.slice none 0 0) (.slice none 0 0) (.slice none 0 0) [] net0 :=
  ⟨World.ownsRow_nil _ _ _ _, World.ownsRow_nil _ _ _ _, World.ownsRow_nil _ _ _ _, rfl, fun i x ps hx => by simp at hx⟩
def Fo (z : Nat) (d : DS) : Prop := d.bad = true → d.p ≤ z ∧ ¬ d.e = 0
section
variable {l : List Tok} {z : Nat} {d : DS}
theorem now_at (hl : TL l z) (d : DS) : (dNow l d).at_ ≤ z := by
  unfold dNow
  split
  · exact Nat.zero_le _
  · unfold getT
    cases h : l[d.k]? with
    | none => exact Nat.zero_le _
    | some t => exact hl.at_ _ _ h
theorem Fo.fail (h : Fo z d) (so : Bool) {t : Tok} (ht : t.at_ ≤ z) {e : Int} (he : ¬ e = 0) : Fo z (dFail so t e d) := by
  unfold dFail
  split
  · exact fun _ => ⟨ht, he⟩
  · exact h
theorem Fo.take (h : Fo z d) : Fo z (dTake l d) := by unfold dTake; split <;> exact h
theorem Fo.want (h : Fo z d) (hl : TL l z) (x : ByteArray) : Fo z (dWant l d x) := h.take.fail _ (now_at hl _) (by decide)
theorem Fo.name (h : Fo z d) (hl : TL l z) : Fo z (dName l d) := h.take.fail _ (now_at hl _) (by decide)
theorem Fo.port (h : Fo z d) (hl : TL l z) : Fo z (dPort l d) := ((h.take.fail _ (now_at hl _) (by decide)).fail _ (now_at hl _) (by decide)).fail _ (now_at hl _) (by decide)
theorem Fo.portsN (hl : TL l z) : ∀ (f : Nat) (out : List Int) (d : DS), Fo z d → Fo z (dPortsN l f out d).2
  | 0, _, _, h => h
  | f + 1, out, d, h => by
    unfold dPortsN
    split
    · exact Fo.portsN hl f _ _ ((((h.fail _ (now_at hl _) (by decide)).port hl).fail _ (now_at hl _) (by decide)).want hl _)
    · exact h
theorem Fo.ports (h : Fo z d) (hl : TL l z) : Fo z (dPorts l d).2 := (Fo.portsN hl _ _ _ (h.want hl _)).want hl _
theorem Fo.end_ (h : Fo z d) (hl : TL l z) (n : Net') : Fo z (dEnd l n d) := ((((((h.name hl).fail _ (now_at hl _) (by decide)).want hl _).port hl).fail _ (now_at hl _) (by decide)).fail _ (now_at hl _) (by decide))
theorem Fo.nodes (hl : TL l z) : ∀ (f : Nat) (n : Net') (d : DS), Fo z d → Fo z (dNodes l f n d).2
  | 0, _, _, h => h
  | f + 1, n, d, h => by
    unfold dNodes
    split
    · exact Fo.nodes hl f _ _ (((((h.fail _ (now_at hl _) (by decide)).take).name hl).fail _ (now_at hl _) (by decide)).ports hl)
    · exact h
theorem Fo.links (hl : TL l z) : ∀ (f : Nat) (n : Net') (d : DS), Fo z d → Fo z (dLinks l f n d).2
  | 0, _, _, h => h
  | f + 1, n, d, h => by
    unfold dLinks
    split
    · exact Fo.links hl f _ _ ((((h.take.end_ hl n).end_ hl n).fail _ (now_at hl _) (by decide)).want hl _)
    · exact h
theorem fo_all (hl : TL l z) : Fo z (dAll l).2 := (Fo.links hl _ _ _ (Fo.nodes hl _ _ _ (fun h => by cases h))).fail _ (now_at hl _) (by decide)
end
end Go.Proofs.YtkffjjlmoojffaaGreatDoor
namespace Go.Proofs.YtkffjjlmoojffaaGreatDoor
open Go.RowKit
section
variable {w : World} {b : Nat} {s : ByteArray} {g cap : Nat} {l : List Tok} {k : Nat} {t : Tok}
set_option maxHeartbeats 1000000 in
theorem cur_need_yes (h : Cu w b s g cap l k) (ht : l[k]? = some t) (e0 : Int) :
    Calls Tryz.prog 61 #[.pointer (some ⟨b, 0, none⟩), .bool true, .int .i64 e0] w (Back w (.tuple #[])) := by
  have hN := Lib.hid (cur_next h ht)
  have hA := Lib.hid (fun w => cur_needAt_yes t e0 b w)
  clear h ht
  go_enter Tryz.func61, Tryz.ntmps61
  go_wp2_with fail
  refine hN.out.mono ?_
  rintro e w' ⟨rfl, x, rfl⟩
  go_wp2_with fail
  refine (hA.out _).mono ?_
  rintro e w' ⟨rfl, y, rfl⟩
  go_wp2
  refine bodyPost_ret (results_none rfl _ _ _) rfl ⟨rfl, _, plus_plus _ _ _⟩
set_option maxHeartbeats 1000000 in
theorem cur_need (h : Cu w b s g cap l k) (ht : l[k]? = some t) (e0 : Int) (he : ¬ e0 = 0) (hs : s.size ≤ 140737488355328) (ha : t.at_ ≤ s.size) :
    Calls Tryz.prog 61 #[.pointer (some ⟨b, 0, none⟩), .bool false, .int .i64 e0] w (Gives w e0 (lineOf s t.at_ : Nat) (colOf s t.at_ : Nat)) := by
  have hN := Lib.hid (cur_next h ht)
  have hA := Lib.hid (fun x => cur_needAt (h.plus x) t e0 he hs ha)
  clear h ht
  go_enter Tryz.func61, Tryz.ntmps61
  go_wp2_with fail
  refine hN.out.mono ?_
  rintro e w' ⟨rfl, x, rfl⟩
  go_wp2_with fail
  refine (hA.out _).mono ?_
  rintro e w' ⟨rfl, y, rfl⟩
  go_wp2
  exact ⟨rfl, rfl, _, plus_plus _ _ _⟩
set_option maxHeartbeats 4000000 in
theorem cur_want (h : Cu w b s g cap l k) (ht : l[k]? = some t) (x : ByteArray) (r : Nat) (hr : w.cell? ⟨r, 0, none⟩ = some (.string x)) (hx : t.s = x → k + 1 < l.length) (hs : s.size ≤ 140737488355328) (ha : t.at_ ≤ s.size) :
    Calls Tryz.prog 62 #[.pointer (some ⟨b, 0, none⟩), .slice (some ⟨r, 0, none⟩) 1 1] w (CuEnds w b s g cap l (wantM l k x) fun _ => .tuple #[]) := by
  have hS0 := cur_skip h ht x hx
  have hM : wantM l k x = if t.s = x then .ok () (k + 1) else .bad t.at_ 4 := by unfold wantM isM; rw [getT_of ht]; by_cases e : t.s = x <;> simp [e]
  rw [hM]
  by_cases e : t.s = x
  · rw [if_pos e, decide_eq_true e] at hS0
    rw [if_pos e]
    have hS := Lib.hid hS0
    have hk2 := hx e
    obtain ⟨t2, ht2⟩ : ∃ t2, l[k + 1]? = some t2 := ⟨_, List.getElem?_eq_getElem hk2⟩
    have hN := Lib.hid (fun (w : World) h => cur_need_yes (w := w) (b := b) (s := s) (g := g) (cap := cap) h ht2 4)
    clear hS0 e hM hx h ht ha hk2 ht2
    go_enter Tryz.func62, Tryz.ntmps62
    go_wp2
    refine wp_loop_rounds 2 ?_
    rw [rounds_succ]
    go_wp2_with fail
    refine hS.out.mono ?_
    rintro e w' ⟨rfl, hg, hX⟩
    replace hg := Lib.hid hg
    replace hX := Lib.hid hX
    go_wp2_with fail
    refine (hN.out _ hX.out).mono ?_
    rintro e w' ⟨rfl, y, rfl⟩
    go_wp2
    rw [rounds_succ]
    go_wp2
    refine bodyPost_ret (results_none rfl _ _ _) rfl ⟨rfl, grown_trans hg.out (grown_plus_any _ _ _), hX.out.plus y⟩
  · rw [if_neg e, decide_eq_false e] at hS0
    rw [if_neg e]
    have hS := Lib.hid hS0
    have hN := Lib.hid (fun (w : World) h => cur_need (w := w) (b := b) (g := g) (cap := cap) h ht 4 (by decide) hs ha)
    clear hS0 e hM hx h ht ha
    go_enter Tryz.func62, Tryz.ntmps62
    go_wp2
    refine wp_loop_rounds 2 ?_
    rw [rounds_succ]
    go_wp2_with fail
    refine hS.out.mono ?_
    rintro e w' ⟨rfl, hg, hX⟩
    replace hg := Lib.hid hg
    replace hX := Lib.hid hX
    go_wp2_with fail
    refine (hN.out _ hX.out).mono ?_
    rintro e w' ⟨rfl, y, rfl⟩
    go_wp2
    exact ⟨rfl, rfl, grown_trans hg.out (grown_plus_any _ _ _)⟩
set_option maxHeartbeats 1000000 in
theorem cur_name (h : Cu w b s g cap l k) (ht : l[k]? = some t) (hx : nameB t.s = true → k + 1 < l.length) (hs : s.size ≤ 140737488355328) (ha : t.at_ ≤ s.size) (hz : t.s.size ≤ 140737488355328) :
    Calls Tryz.prog 63 #[.pointer (some ⟨b, 0, none⟩)] w (CuEnds w b s g cap l (nameM l k) fun x => .string x) := by
  have hN := Lib.hid (cur_next h ht)
  have hI0 := tok_name t.s hz
  have hM : nameM l k = if nameB t.s = true then .ok t.s (k + 1) else .bad t.at_ 4 := by unfold nameM; rw [getT_of ht]
  have f1 := tok_field1
  have h' := Lib.hid h
  rw [hM]
  by_cases e : nameB t.s = true
  · rw [if_pos e]
    rw [e] at hI0
    have hI := Lib.hid hI0
    have hA := Lib.hid (fun (w : World) h => cur_need_yes (w := w) (b := b) (s := s) (g := g) (cap := cap) h ht 4)
    have hT := Lib.hid (fun w h => cur_take (w := w) (b := b) (s := s) (g := g) (cap := cap) h ht (hx e))
    clear hI0 e hM hx h ht ha
    go_enter Tryz.func63, Tryz.ntmps63
    go_wp2_with fail
    refine hN.out.mono ?_
    rintro e w' ⟨rfl, x, rfl⟩
    go_wp2_with fail
    refine (hI.out _).mono ?_
    rintro e w' ⟨rfl, y, rfl⟩
    go_wp2_with fail
    refine (hA.out _ ((h'.out.plus x).plus y)).mono ?_
    rintro e w' ⟨rfl, z, rfl⟩
    go_wp2_with fail
    refine (hT.out _ (((h'.out.plus x).plus y).plus z)).mono ?_
    rintro e w' ⟨rfl, hg, hX⟩
    replace hg := Lib.hid hg
    replace hX := Lib.hid hX
    go_wp2
    go_ret
    exact ⟨rfl, grown_trans (grown_trans (grown_trans (grown_plus_any _ _ _) (grown_plus_any _ _ _)) (grown_plus_any _ _ _)) hg.out, hX.out⟩
  · rw [if_neg e]
    rw [show nameB t.s = false by simpa using e] at hI0
    have hI := Lib.hid hI0
    have hA := Lib.hid (fun (w : World) h => cur_need (w := w) (b := b) (g := g) (cap := cap) h ht 4 (by decide) hs ha)
    clear hI0 e hM hx h ht ha
    go_enter Tryz.func63, Tryz.ntmps63
    go_wp2_with fail
    refine hN.out.mono ?_
    rintro e w' ⟨rfl, x, rfl⟩
    go_wp2_with fail
    refine (hI.out _).mono ?_
    rintro e w' ⟨rfl, y, rfl⟩
    go_wp2_with fail
    refine (hA.out _ ((h'.out.plus x).plus y)).mono ?_
    rintro e w' ⟨rfl, z, rfl⟩
    go_wp2
    exact ⟨rfl, rfl, grown_trans (grown_trans (grown_plus_any _ _ _) (grown_plus_any _ _ _)) (grown_plus_any _ _ _)⟩
end
end Go.Proofs.YtkffjjlmoojffaaGreatDoor
