/-
  WHAT IS PROVED HERE: a part of the proof of the claim's theorem: NtK.
-/
import Derived.Test.YtkffjjlmoojffaaGreatDoorB39
import Derived.Test.YtkffjjlmoojffaaGreatDoorB42
set_option linter.all false
namespace Go.Proofs.YtkffjjlmoojffaaGreatDoor
structure Kt where
  k : Nat
  s : ByteArray
  w : Int
  n : Nat
def kd (t : Tok) : Kt := ⟨t.kind, t.s, t.w, t.n⟩
def Pc.kt : Pc → List Kt
  | .blk _ => []
  | .word w => [⟨1, w, 0, 0⟩]
  | .num w => [⟨2, w, 0, valOf 10 w.data.toList⟩]
  | .mk c => [⟨3, ⟨#[c]⟩, 0, 0⟩]
def kEnd : Kt := ⟨0, ByteArray.empty, 0, 0⟩
theorem kd_toks : ∀ (ps : List Pc) (k : Nat), (toksP k ps).map kd = ps.flatMap Pc.kt
  | [], _ => rfl
  | p :: r, k => by
    show (p.tok k ++ toksP (k + p.b.size) r).map kd = _
    rw [List.map_append, List.flatMap_cons, kd_toks r]
    congr 1
    cases p <;> rfl
section
variable {l : List Tok} {k : Nat}
theorem get_drop {a : Kt} {r : List Kt} (h : (l.map kd).drop k = a :: r) : kd (getT l k) = a ∧ k < l.length ∧ (l.map kd).drop (k + 1) = r := by
  have hk : k < (l.map kd).length := by
    rcases Nat.lt_or_ge k (l.map kd).length with h' | h'
    · exact h'
    · rw [List.drop_of_length_le h'] at h; cases h
  rw [List.drop_eq_getElem_cons hk] at h
  injection h with h1 h2
  have hl : k < l.length := by rw [List.length_map] at hk; exact hk
  refine ⟨?_, hl, h2⟩
  rw [← h1]
  unfold getT
  rw [List.getElem?_eq_getElem hl]
  simp
theorem is_at {a : Kt} {r : List Kt} (h : (l.map kd).drop k = a :: r) (x : ByteArray) : isM l k x = decide (a.s = x) := by
  have := (get_drop h).1
  unfold isM
  rw [show (getT l k).s = a.s by rw [← this]; rfl]
theorem want_at {a : Kt} {r : List Kt} (h : (l.map kd).drop k = a :: r) {x : ByteArray} (hx : a.s = x) : wantM l k x = .ok () (k + 1) := want_of (by rw [is_at h, decide_eq_true hx])
theorem name_at {x : ByteArray} {r : List Kt} (h : (l.map kd).drop k = ⟨1, x, 0, 0⟩ :: r) (hx : nameB x = true) : nameM l k = .ok x (k + 1) := by
  have := (get_drop h).1
  have hs : (getT l k).s = x := congrArg Kt.s this
  unfold nameM
  rw [hs, if_pos hx]
theorem num_at {w : ByteArray} {v : Nat} {r : List Kt} (h : (l.map kd).drop k = ⟨2, w, 0, v⟩ :: r) (h0 : 1 ≤ v) (h1 : v ≤ 511) : numM l k = .ok (getT l k) (k + 1) ∧ bareM (getT l k) (k + 1) 1 511 5 = .ok v (k + 1) := by
  have := (get_drop h).1
  have a1 : (getT l k).kind = 2 := congrArg Kt.k this
  have a2 : (getT l k).w = 0 := congrArg Kt.w this
  have a3 : (getT l k).n = v := congrArg Kt.n this
  constructor
  · unfold numM; rw [if_pos a1]
  · have e : bareE (getT l k) 1 511 5 = 0 := by unfold bareE; rw [a2, a3, if_neg (by simp), if_pos ⟨h0, h1⟩]
    unfold bareM
    rw [e, if_pos rfl, a3]
def portK (p : Int) : List Kt := [⟨2, itoaB p, 0, valOf 10 (itoaB p).data.toList⟩, ⟨3, ⟨#[59]⟩, 0, 0⟩]
theorem newPort_at {p : Int} {out : List Int} {r : List Kt} (h : (l.map kd).drop k = portK p ++ r) (h0 : 1 ≤ p) (h1 : p ≤ 511) (h8 : out.length < 8) (hm : ¬ p ∈ out) : newPortM l k out = .ok p (k + 1) := by
  obtain ⟨_, hv⟩ := num_ok h0 h1
  obtain ⟨a1, a2⟩ := num_at h (by omega) (by omega)
  unfold newPortM
  rw [a1]
  show (if ¬ out.length < 8 then _ else _) = _
  rw [if_neg (by simpa using h8), a2]
  show (if (((valOf 10 (itoaB p).data.toList : Nat)) : Int) ∈ out then _ else _) = _
  rw [hv, if_neg hm]
theorem ports_at : ∀ (ps : List Int) (f k : Nat) (out : List Int) (r : List Kt), (l.map kd).drop k = ps.flatMap portK ++ (⟨3, ⟨#[125]⟩, 0, 0⟩ :: r) → ps.length < f → (out ++ ps).length ≤ 8 → PsOk (out ++ ps) → portsM l f k out = .ok (out ++ ps) (k + 2 * ps.length + 1) ∧ (l.map kd).drop (k + 2 * ps.length + 1) = r
  | _, 0, _, _, _, _, hf, _, _ => by omega
  | [], f + 1, k, out, r, h, _, _, _ => by
    have h : (l.map kd).drop k = ⟨3, ⟨#[125]⟩, 0, 0⟩ :: r := h
    unfold portsM
    rw [is_at h, if_pos (by decide +kernel), List.append_nil]
    exact ⟨rfl, (get_drop h).2.2⟩
  | p :: ps, f + 1, k, out, r, h, hf, h8, hp => by
    rw [List.flatMap_cons, List.append_assoc] at h
    have hd := get_drop h
    have hd2 := get_drop hd.2.2
    have hin := hp.1 p (List.mem_append_right _ (List.mem_cons_self ..))
    have hnm : ¬ p ∈ out := fun hm => by
      have := hp.2
      rw [List.nodup_append] at this
      exact this.2.2 p hm p (List.mem_cons_self ..) rfl
    have hl : (out ++ p :: ps).length = out.length + ps.length + 1 := by rw [List.length_append, List.length_cons]; omega
    have e1 : out ++ p :: ps = out ++ [p] ++ ps := by simp
    unfold portsM
    have hne : isM l k wShut = false := by
      rw [is_at h]
      refine decide_eq_false fun e => ?_
      have a := (num_ok hin.1 hin.2).1.2.1
      have : itoaB p = wShut := e
      rw [this] at a
      revert a; decide +kernel
    rw [hne, if_neg (by decide), newPort_at h hin.1 hin.2 (by omega) hnm]
    show (wantM l (k + 1) wSemi).bind _ = _ ∧ _
    rw [want_at hd.2.2 rfl]
    have ih := ports_at ps f (k + 1 + 1) (out ++ [p]) r hd2.2.2 (by simp at hf; omega) (by rw [← e1]; exact h8) (by rw [← e1]; exact hp)
    rw [← e1] at ih
    refine ⟨?_, ?_⟩
    · show portsM l f (k + 1 + 1) (out ++ [p]) = _
      rw [ih.1]
      congr 1
      rw [List.length_cons]; omega
    · rw [← ih.2]
      congr 1
      rw [List.length_cons]; omega
theorem rise_of : ∀ (l : List Int) (m : Int), psMay m l = true → l.Pairwise (· < ·)
  | [], _, _ => List.Pairwise.nil
  | p :: l, m, h => by
    have hin := psMay_in (p :: l) m h
    rw [psMay, Bool.and_eq_true] at h
    rw [List.pairwise_cons]
    exact ⟨fun q hq => by have := (psMay_in l (p + 1) h.2 q hq).1; omega, rise_of l (p + 1) h.2⟩
theorem ps_ok {ps : List Int} (h : psMay 1 ps = true) : PsOk ps := ⟨psMay_in ps 1 h, (rise_of ps 1 h).imp fun {a b} (x : a < b) => by show a ≠ b; omega⟩
theorem sortF_id {ps : List Int} (h : psMay 1 ps = true) : sortF ps = ps := by
  rw [sortF_K ps (ps_ok h)]
  obtain ⟨h1, h2⟩ := sortK_rise ps 511
  refine rise_ext _ _ h1 (rise_of ps 1 h) fun x => ?_
  rw [h2 x]
  exact ⟨fun a => a.1, fun a => ⟨a, psMay_in ps 1 h x a⟩⟩
def swK (x : ByteArray × List Int) : List Kt := [⟨1, wSwitch, 0, 0⟩, ⟨1, x.1, 0, 0⟩, ⟨3, ⟨#[123]⟩, 0, 0⟩] ++ (x.2.flatMap portK ++ [⟨3, ⟨#[125]⟩, 0, 0⟩])
theorem findF_no {names : List ByteArray} {x : ByteArray} (h : inB names x = false) : findF names x < 0 := by
  unfold findF
  have : names.findIdx? (fun y => decide (y = x)) = none := by
    rw [List.findIdx?_eq_none_iff]
    unfold inB at h
    rw [List.any_eq_false] at h
    intro y hy
    simpa using h y hy
  rw [this]
  decide
theorem node_at {x : ByteArray} {ps : List Int} {n : Net'} {r : List Kt} (h : (l.map kd).drop k = swK (x, ps) ++ r) (h8 : n.names.length < 8) (hx : nameB x = true) (hn : inB n.names x = false) (hp8 : ps.length ≤ 8) (hp : psMay 1 ps = true) :
    nodeM l k n = .ok ⟨n.names ++ [x], n.ports ++ [ps], n.links⟩ (k + (swK (x, ps)).length) ∧ (l.map kd).drop (k + (swK (x, ps)).length) = r := by
  have e : swK (x, ps) ++ r = ⟨1, wSwitch, 0, 0⟩ :: ⟨1, x, 0, 0⟩ :: ⟨3, ⟨#[123]⟩, 0, 0⟩ :: (ps.flatMap portK ++ (⟨3, ⟨#[125]⟩, 0, 0⟩ :: r)) := by
    unfold swK; simp
  rw [e] at h
  have d1 := get_drop h
  have d2 := get_drop d1.2.2
  have d3 := get_drop d2.2.2
  have hlen : (ps.flatMap portK).length = 2 * ps.length := by
    clear e h hp hp8 d1 d2 d3
    induction ps with
    | nil => rfl
    | cons p ps ih => rw [List.flatMap_cons, List.length_append, ih]; show 2 + _ = _; rw [List.length_cons]; omega
  have hroom : ps.length < l.length - (k + 1 + 1 + 1) := by
    have := congrArg List.length d3.2.2
    rw [List.length_drop, List.length_map, List.length_append, hlen, List.length_cons] at this
    omega
  have hps := ports_at ps (l.length - (k + 1 + 1 + 1)) (k + 1 + 1 + 1) [] r d3.2.2 hroom (by simpa using hp8) (by simpa using ps_ok hp)
  rw [List.nil_append] at hps
  have hl2 : k + (swK (x, ps)).length = k + 1 + 1 + 1 + 2 * ps.length + 1 := by
    unfold swK
    rw [List.length_append, List.length_append, hlen]
    show k + (3 + (2 * ps.length + 1)) = _
    omega
  rw [hl2]
  refine ⟨?_, hps.2⟩
  unfold nodeM
  rw [if_neg (by simpa using h8), want_at h rfl]
  show (nameM l (k + 1)).bind _ = _
  rw [name_at d1.2.2 hx]
  show (if ¬ findF n.names x < 0 then _ else _) = _
  rw [if_neg (by simpa using findF_no hn), want_at d2.2.2 rfl]
  show (portsM l (l.length - (k + 1 + 1 + 1)) (k + 1 + 1 + 1) []).bind _ = _
  rw [hps.1]
  show Rs.ok (⟨n.names ++ [x], n.ports ++ [sortF ps], n.links⟩ : Net') _ = _
  rw [sortF_id hp]
def NoSw (r : List Kt) : Prop := ∃ a r', r = a :: r' ∧ ¬ a.s = wSwitch
theorem nodes_at : ∀ (zs : List (ByteArray × List Int)) (f k : Nat) (n : Net') (r : List Kt), (l.map kd).drop k = zs.flatMap swK ++ r → NoSw r → l.length - k ≤ f → k < l.length → n.names.length + zs.length ≤ 8 → nmsMay n.names (zs.map (·.1)) = true → (∀ x ∈ zs, x.2.length ≤ 8 ∧ psMay 1 x.2 = true) →
    ∃ k', nodesM l f k n = .ok ⟨n.names ++ zs.map (·.1), n.ports ++ zs.map (·.2), n.links⟩ k' ∧ (l.map kd).drop k' = r
  | _, 0, k, _, _, _, _, hf, hk, _, _, _ => by omega
  | [], f + 1, k, n, r, h, ⟨a, r', hr, ha⟩, _, _, _, _, _ => by
    have h : (l.map kd).drop k = r := h
    refine ⟨k, ?_, h⟩
    unfold nodesM
    rw [hr] at h
    rw [is_at h, if_neg (by simpa using ha)]
    simp
  | (x, ps) :: zs, f + 1, k, n, r, h, hr, hf, hk, h8, hn, hp => by
    rw [List.flatMap_cons, List.append_assoc] at h
    rw [List.map_cons, nmsMay, Bool.and_eq_true, Bool.and_eq_true] at hn
    obtain ⟨hp1, hp2⟩ := hp (x, ps) (List.mem_cons_self ..)
    have hnx : inB n.names x = false := by have := hn.1.2; simpa using this
    rw [List.length_cons] at h8
    obtain ⟨e1, e2⟩ := node_at h (by omega) hn.1.1 hnx hp1 hp2
    have hsw : isM l k wSwitch = true := by
      have h' : (l.map kd).drop k = ⟨1, wSwitch, 0, 0⟩ :: (([⟨1, x, 0, 0⟩, ⟨3, ⟨#[123]⟩, 0, 0⟩] ++ (ps.flatMap portK ++ [⟨3, ⟨#[125]⟩, 0, 0⟩])) ++ (zs.flatMap swK ++ r)) := by rw [h]; rfl
      rw [is_at h', decide_eq_true rfl]
    have hlen : 1 ≤ (swK (x, ps)).length := by unfold swK; simp
    have hk' : k + (swK (x, ps)).length < l.length := by
      obtain ⟨a, r', hr', _⟩ := hr
      have := congrArg List.length e2
      rw [List.length_drop, List.length_map, List.length_append, hr', List.length_cons] at this
      omega
    obtain ⟨k', i1, i2⟩ := nodes_at zs f _ ⟨n.names ++ [x], n.ports ++ [ps], n.links⟩ r e2 hr (by omega) hk' (by show (n.names ++ [x]).length + zs.length ≤ 8; rw [List.length_append, List.length_singleton]; omega) hn.2 (fun y hy => hp y (List.mem_cons_of_mem _ hy))
    refine ⟨k', ?_, i2⟩
    unfold nodesM
    rw [hsw, if_pos rfl, e1]
    show nodesM l f _ _ = _
    rw [i1]
    simp
def endK (n : Net') (e : End') : List Kt := [⟨1, nmOf n e, 0, 0⟩, ⟨3, ⟨#[58]⟩, 0, 0⟩, ⟨2, itoaB e.po, 0, valOf 10 (itoaB e.po).data.toList⟩]
theorem nms_split : ∀ (a b done : List ByteArray) (x : ByteArray), nmsMay done (a ++ x :: b) = true → inB (done ++ a) x = false
  | [], b, done, x, h => by
    rw [List.nil_append, nmsMay, Bool.and_eq_true, Bool.and_eq_true] at h
    rw [List.append_nil]
    simpa using h.1.2
  | y :: a, b, done, x, h => by
    rw [List.cons_append, nmsMay, Bool.and_eq_true] at h
    have := nms_split a b (done ++ [y]) x h.2
    simpa using this
theorem findF_at {n : Net'} (hn : nmsMay [] n.names = true) {i : Nat} {x : ByteArray} (hi : n.names[i]? = some x) : findF n.names x = (i : Int) := by
  obtain ⟨h1, h2⟩ := List.getElem?_eq_some_iff.1 hi
  refine findF_hit hi fun j hj e => ?_
  have hs : n.names = n.names.take i ++ x :: n.names.drop (i + 1) := by
    rw [← h2, ← List.drop_eq_getElem_cons h1, List.take_append_drop]
  rw [hs] at hn
  have := nms_split _ _ _ _ hn
  unfold inB at this
  rw [List.any_eq_false] at this
  have hm : x ∈ n.names.take i := by
    rw [List.mem_iff_getElem?]
    exact ⟨j, by rw [List.getElem?_take_of_lt hj]; exact e⟩
  exact this x (List.mem_append_right _ hm) (decide_eq_true rfl)
theorem end_at {n : Net'} (hm : netMay n = true) {links : List (End' × End')} {ls : List End'} {e : End'} {r : List Kt} (h : (l.map kd).drop k = endK n e ++ r) (he : thereF n e = true) (hls : ¬ e ∈ ls) :
    endM l k ⟨n.names, n.ports, links⟩ ls = .ok e (k + 3) ∧ (l.map kd).drop (k + 3) = r := by
  obtain ⟨u1, u2, u3, u4⟩ := thereF_in (mayN hm) he
  obtain ⟨x, hx⟩ : ∃ x, n.names[e.sw.toNat]? = some x := ⟨_, List.getElem?_eq_getElem (by omega)⟩
  have hnm : nmOf n e = x := by unfold nmOf; rw [hx]; rfl
  have hnx := nmOf_name hm he
  have hf := findF_at (netMay_names hm).1 hx
  have hsw : ((e.sw.toNat : Nat) : Int) = e.sw := by omega
  rw [hsw] at hf
  have d1 := get_drop h
  have d2 := get_drop d1.2.2
  have d3 := get_drop d2.2.2
  obtain ⟨_, hv⟩ := num_ok u3 u4
  obtain ⟨a1, a2⟩ := num_at d2.2.2 (by omega) (by omega)
  refine ⟨?_, d3.2.2⟩
  unfold endM
  rw [name_at h hnx]
  show (if findF n.names (nmOf n e) < 0 then _ else _) = _
  rw [hnm, hf, if_neg (by omega), want_at d1.2.2 rfl]
  show (numM l (k + 1 + 1)).bind _ = _
  rw [a1]
  show (bareM _ _ 1 511 5).bind _ = _
  rw [a2]
  show (if thereF ⟨n.names, n.ports, links⟩ ⟨e.sw, ((valOf 10 (itoaB e.po).data.toList : Nat) : Int)⟩ = false then _ else if (⟨e.sw, ((valOf 10 (itoaB e.po).data.toList : Nat) : Int)⟩ : End') ∈ ls then _ else _) = _
  rw [hv, thereF_names (n := n) (m := ⟨n.names, n.ports, links⟩) rfl rfl, he, if_neg (by decide), if_neg hls]
def lkK (n : Net') (x : End' × End') : List Kt := ⟨1, wLink, 0, 0⟩ :: (endK n x.1 ++ (endK n x.2 ++ [⟨3, ⟨#[59]⟩, 0, 0⟩]))
theorem link_at {n : Net'} (hm : netMay n = true) {links : List (End' × End')} {a b : End'} {r : List Kt} (h : (l.map kd).drop k = lkK n (a, b) ++ r) (ha : thereF n a = true) (hb : thereF n b = true) (h1 : ¬ a ∈ flat links) (h2 : ¬ b ∈ flat links ++ [a]) :
    linkM l k ⟨n.names, n.ports, links⟩ (flat links) = .ok (⟨n.names, n.ports, links ++ [(a, b)]⟩, flat (links ++ [(a, b)])) (k + 8) ∧ (l.map kd).drop (k + 8) = r := by
  have e : lkK n (a, b) ++ r = ⟨1, wLink, 0, 0⟩ :: (endK n a ++ (endK n b ++ (⟨3, ⟨#[59]⟩, 0, 0⟩ :: r))) := by unfold lkK; simp
  rw [e] at h
  have d1 := get_drop h
  obtain ⟨x1, y1⟩ := end_at hm (links := links) d1.2.2 ha h1
  obtain ⟨x2, y2⟩ := end_at hm (links := links) y1 hb h2
  have d2 := get_drop y2
  refine ⟨?_, d2.2.2⟩
  unfold linkM
  rw [want_at h rfl]
  show (endM l (k + 1) ⟨n.names, n.ports, links⟩ (flat links)).bind _ = _
  rw [x1]
  show (endM l (k + 1 + 3) ⟨n.names, n.ports, links⟩ (flat links ++ [a])).bind _ = _
  rw [x2]
  show (wantM l (k + 1 + 3 + 3) wSemi).bind _ = _
  rw [want_at y2 rfl, flat_add]
  rfl
theorem links_at {n : Net'} (hm : netMay n = true) : ∀ (zs : List (End' × End')) (f k : Nat) (links : List (End' × End')), (l.map kd).drop k = zs.flatMap (lkK n) ++ [kEnd] → l.length - k ≤ f → k < l.length → endsMay n (flat links) (flat zs) = true →
    ∃ k', linksM l f k ⟨n.names, n.ports, links⟩ (flat links) = .ok ⟨n.names, n.ports, links ++ zs⟩ k'
  | _, 0, k, _, _, hf, hk, _ => by omega
  | [], f + 1, k, links, h, _, _, _ => by
    have h : (l.map kd).drop k = kEnd :: [] := h
    have hk : (getT l k).kind = 0 := congrArg Kt.k (get_drop h).1
    refine ⟨k, ?_⟩
    unfold linksM
    rw [if_pos hk, List.append_nil]
  | (a, b) :: zs, f + 1, k, links, h, hf, hk, he => by
    rw [List.flatMap_cons, List.append_assoc] at h
    have ef : flat ((a, b) :: zs) = a :: b :: flat zs := by simp [flat]
    rw [ef, endsMay, endsMay, Bool.and_eq_true, Bool.and_eq_true, Bool.and_eq_true, Bool.and_eq_true] at he
    obtain ⟨⟨a1, a2⟩, ⟨b1, b2⟩, h3⟩ := he
    have a2 : ¬ a ∈ flat links := by simpa using a2
    have b2 : ¬ b ∈ flat links ++ [a] := by simpa using b2
    obtain ⟨x1, y1⟩ := link_at hm h a1 b1 a2 b2
    have hk0 : ¬ (getT l k).kind = 0 := by
      have h' : (l.map kd).drop k = ⟨1, wLink, 0, 0⟩ :: ((endK n a ++ (endK n b ++ [⟨3, ⟨#[59]⟩, 0, 0⟩])) ++ (zs.flatMap (lkK n) ++ [kEnd])) := h
      have : (getT l k).kind = 1 := congrArg Kt.k (get_drop h').1
      omega
    have hk' : k + 8 < l.length := by
      have := congrArg List.length y1
      rw [List.length_drop, List.length_map, List.length_append, List.length_singleton] at this
      omega
    rw [show flat links ++ [a] ++ [b] = flat (links ++ [(a, b)]) by rw [flat_add]; simp] at h3
    obtain ⟨k', ih⟩ := links_at hm zs f (k + 8) (links ++ [(a, b)]) y1 (by omega) hk' h3
    refine ⟨k', ?_⟩
    unfold linksM
    rw [if_neg hk0, x1]
    show linksM l f (k + 8) ⟨n.names, n.ports, links ++ [(a, b)]⟩ (flat (links ++ [(a, b)])) = _
    rw [ih]
    simp
end
theorem port_kt (p : Int) : (portP p).flatMap Pc.kt = portK p := rfl
theorem sw_kt (x : ByteArray × List Int) : (swP x).flatMap Pc.kt = swK x := by
  unfold swP swK
  rw [List.flatMap_append, List.flatMap_append, List.flatMap_assoc]
  simp [Pc.kt, port_kt]
theorem back_plain {n : Net'} (hm : netMay n = true) (hz : (txt (netP n)).size ≤ 65536) : ∃ k, readM (txt (netP n)) = .ok n k := by
  have hL := lexR_pcs (netP n) (net_good hm) hz
  unfold readM
  rw [hL, if_pos rfl]
  have hmn := mayN hm
  have hK : ((toksP 0 (netP n) ++ [endTok (txt (netP n))]).map kd) = (n.names.zip n.ports).flatMap swK ++ (n.links.flatMap (lkK n) ++ [kEnd]) := by
    rw [List.map_append, kd_toks]
    unfold netP
    rw [List.flatMap_append, List.flatMap_assoc, List.flatMap_assoc, List.append_assoc]
    congr 1
    · congr 1; funext x; exact sw_kt x
  generalize toksP 0 (netP n) ++ [endTok (txt (netP n))] = l at hK
  have hpos : 0 < l.length := by
    have := congrArg List.length hK
    rw [List.length_map, List.length_append, List.length_append, List.length_singleton] at this
    omega
  have hno : NoSw (n.links.flatMap (lkK n) ++ [kEnd]) := by
    cases hl : n.links with
    | nil => exact ⟨kEnd, [], rfl, by decide +kernel⟩
    | cons x r => exact ⟨⟨1, wLink, 0, 0⟩, _, rfl, by show ¬ wLink = wSwitch; decide +kernel⟩
  have z1 : (n.names.zip n.ports).map (·.1) = n.names := List.map_fst_zip (by rw [hmn.p]; exact Nat.le_refl _)
  have z2 : (n.names.zip n.ports).map (·.2) = n.ports := List.map_snd_zip (by rw [hmn.p]; exact Nat.le_refl _)
  obtain ⟨k', h1, h2⟩ := nodes_at (n.names.zip n.ports) l.length 0 ⟨[], [], []⟩ _ (by rw [List.drop_zero]; exact hK) hno (by omega) hpos (by show 0 + _ ≤ 8; rw [List.length_zip]; have := hmn.a; omega) (by rw [z1]; exact (netMay_names hm).1) (fun x hx => by
    obtain ⟨i, hi⟩ := List.mem_iff_getElem?.1 hx
    rw [List.getElem?_zip_eq_some] at hi
    have := portsMay_at hmn.ps hi.2
    exact ⟨this.1, this.2.1⟩)
  rw [z1, z2] at h1
  have hk' : k' < l.length := by
    have := congrArg List.length h2
    rw [List.length_drop, List.length_map, List.length_append, List.length_singleton] at this
    omega
  obtain ⟨k2, h3⟩ := links_at hm n.links l.length k' [] h2 (by omega) hk' (by rw [show flat ([] : List (End' × End')) = [] from rfl]; exact (netMay_names hm).2)
  refine ⟨k2, ?_⟩
  show (nodesM l l.length 0 ⟨[], [], []⟩).bind _ = _
  rw [h1]
  exact h3
end Go.Proofs.YtkffjjlmoojffaaGreatDoor
