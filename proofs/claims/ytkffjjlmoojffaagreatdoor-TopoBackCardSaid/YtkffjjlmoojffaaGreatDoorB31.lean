/-
  WHAT IS PROVED HERE: a part of the proof of the claim's theorem: NetPl.
-/
import Derived.Test.YtkffjjlmoojffaaGreatDoorB25
import Derived.Test.YtkffjjlmoojffaaGreatDoorB30
set_option linter.all false
namespace Go.Proofs.YtkffjjlmoojffaaGreatDoor
def AgL {α : Type} (r : Rs α) (d : DS) (P : α → Prop) (l : List Tok) : Prop := match r with
  | .ok a k' => d.bad = false ∧ d.k = k' ∧ k' < l.length ∧ P a
  | .bad p e => d.bad = true ∧ d.p = p ∧ d.e = e
section
variable {α β : Type} {l : List Tok} {z k : Nat} {r : Rs α} {d d' : DS} {P R : α → Prop} {Q : β → Prop}
theorem ag_bind {f : α → Nat → Rs β} (h : Ag r d P l k) (hok : ∀ a, d.bad = false → k < d.k → d.k < l.length → P a → Ag (f a d.k) d' Q l d.k) (hbad : d.bad = true → d' = d) : Ag (r.bind f) d' Q l k := by
  cases r with
  | ok a k' =>
    obtain ⟨h1, rfl, h3, h4, h5⟩ := h
    have := hok a h1 h3 h4 h5
    show Ag (f a d.k) d' Q l k
    revert this
    cases f a d.k with
    | ok b k2 => exact fun t => ⟨t.1, t.2.1, by have := t.2.2.1; omega, t.2.2.2⟩
    | bad p e => exact id
  | bad p e =>
    rw [hbad h.1]
    exact h
theorem agl_bind {f : α → Nat → Rs β} (h : Ag r d P l k) (hok : ∀ a, d.bad = false → k < d.k → d.k < l.length → P a → AgL (f a d.k) d' Q l) (hbad : d.bad = true → d' = d) : AgL (r.bind f) d' Q l := by
  cases r with
  | ok a k' =>
    obtain ⟨h1, rfl, h3, h4, h5⟩ := h
    exact hok a h1 h3 h4 h5
  | bad p e =>
    rw [hbad h.1]
    exact h
theorem agl_bind' {f : α → Nat → Rs β} (h : AgL r d P l) (hok : ∀ a, d.bad = false → d.k < l.length → P a → AgL (f a d.k) d' Q l) (hbad : d.bad = true → d' = d) : AgL (r.bind f) d' Q l := by
  cases r with
  | ok a k' =>
    obtain ⟨h1, rfl, h4, h5⟩ := h
    exact hok a h1 h4 h5
  | bad p e =>
    rw [hbad h.1]
    exact h
theorem ag_map {f : α → β} (h : Ag r d P l k) (hQ : ∀ a, P a → Q (f a)) : Ag (r.bind fun a k => .ok (f a) k) d Q l k := by
  cases r with
  | ok a k' => exact ⟨h.1, h.2.1, h.2.2.1, h.2.2.2.1, hQ a h.2.2.2.2⟩
  | bad p e => exact h
theorem Ag.and (h : Ag r d P l k) (hR : ∀ a k', r = .ok a k' → R a) : Ag r d (fun a => P a ∧ R a) l k := by
  cases r with
  | ok a k' => exact ⟨h.1, h.2.1, h.2.2.1, h.2.2.2.1, h.2.2.2.2, hR a k' rfl⟩
  | bad p e => exact h
end
section
variable {l : List Tok} {z : Nat}
theorem portM_range {k n k' : Nat} (h : portM l k = .ok n k') : 1 ≤ n ∧ n ≤ 511 := by
  unfold portM at h
  obtain ⟨t, k1, -, h⟩ := Rs.bind_ok_of h
  unfold bareM at h
  split at h
  · rename_i he
    cases h
    unfold bareE at he
    split at he
    · exact absurd he (by decide)
    · split at he
      · assumption
      · exact absurd he (by decide)
  · cases h
theorem num_port {β : Type} (k : Nat) (G : Tok → Nat → Nat → Rs β) : ((numM l k).bind fun t k3 => (bareM t k3 1 511 5).bind fun p k4 => G t p k4) = (portM l k).bind fun p k4 => G (getT l k) p k4 := by
  unfold portM numM
  by_cases h : (getT l k).kind = 2
  · rw [if_pos h]; rfl
  · rw [if_neg h]; rfl
theorem ag_newPort (hl : TL l z) (out : List Int) (d : DS) (hb : d.bad = false) (hk : d.k < l.length) :
    Ag (newPortM l d.k out) (dNew l out (dOne l out d)) (fun p => p = dPortV l (dOne l out d) ∧ 1 ≤ p ∧ p ≤ 511 ∧ ¬ p ∈ out) l d.k := by
  by_cases h2 : (getT l d.k).kind = 2
  · by_cases h8 : out.length < 8
    · have e1 : dOne l out d = d := by unfold dOne; rw [decide_eq_true h8, Bool.true_or, dFail_so]
      have ep : portM l d.k = bareM (getT l d.k) (d.k + 1) 1 511 5 := by unfold portM numM; rw [if_pos h2]; rfl
      have en : newPortM l d.k out = (portM l d.k).bind fun n k2 => if ((n : Int) ∈ out) then .bad (getT l d.k).at_ 8 else .ok (n : Int) k2 := by
        rw [ep]; unfold newPortM numM; rw [if_pos h2]
        show (if ¬ out.length < 8 then _ else _) = _
        rw [if_neg (by simpa using h8)]
      rw [e1, en]
      have hp := (ag_port hl d hb hk).and (R := fun n => 1 ≤ n ∧ n ≤ 511) (fun a k' h => portM_range h)
      unfold dNew
      rw [dNow_k l d hb]
      cases hr : portM l d.k with
      | ok n k' =>
        rw [hr] at hp
        obtain ⟨a1, a2, a3, a4, a5, a6⟩ := hp
        show Ag (if ((n : Int) ∈ out) then _ else _) _ _ _ _
        by_cases hm : (n : Int) ∈ out
        · rw [if_pos hm, ← a5, decide_eq_true hm, Bool.not_true, dFail_no _ _ _ a1]
          exact ⟨rfl, rfl, rfl⟩
        · rw [if_neg hm, ← a5, decide_eq_false hm, Bool.not_false, dFail_so]
          exact ⟨a1, a2, a3, a4, rfl, by omega, by omega, hm⟩
      | bad p e =>
        rw [hr] at hp
        rw [dFail_bad _ _ _ _ hp.1]
        exact hp
    · have e1 : dOne l out d = ⟨d.k, true, 5, (getT l d.k).at_⟩ := by
        unfold dOne
        rw [dNow_k l d hb, decide_eq_false h8, h2, show decide (¬ (2 : Nat) = 2) = false by decide, Bool.false_or, dFail_no _ _ _ hb]
      have en : newPortM l d.k out = .bad (getT l d.k).at_ 5 := by
        unfold newPortM numM; rw [if_pos h2]
        show (if ¬ out.length < 8 then _ else _) = _
        rw [if_pos h8]
      rw [en, e1, dNew_bad _ _ _ rfl]
      exact ⟨rfl, rfl, rfl⟩
  · have e1 : dOne l out d = d := by unfold dOne; rw [dNow_k l d hb, decide_eq_true h2, Bool.or_true, dFail_so]
    have hp := ag_port hl d hb hk
    have ep : portM l d.k = .bad (getT l d.k).at_ 4 := by unfold portM numM; rw [if_neg h2]; rfl
    have en : newPortM l d.k out = .bad (getT l d.k).at_ 4 := by unfold newPortM numM; rw [if_neg h2]; rfl
    rw [ep] at hp
    rw [en, e1]
    unfold dNew
    rw [dFail_bad _ _ _ _ hp.1]
    exact hp
theorem dPortsN_bad (f : Nat) (out : List Int) (d : DS) (h : d.bad = true) : dPortsN l f out d = (out, d) := by
  cases f with
  | zero => rfl
  | succ f => unfold dPortsN; rw [h]; rfl
theorem want_of {k : Nat} {x : ByteArray} (h : isM l k x = true) : wantM l k x = .ok () (k + 1) := by unfold wantM; rw [if_pos h]
def PsOk (qs : List Int) : Prop := (∀ p ∈ qs, 1 ≤ p ∧ p ≤ 511) ∧ qs.Nodup
theorem PsOk.add {qs : List Int} (h : PsOk qs) {p : Int} (h1 : 1 ≤ p) (h2 : p ≤ 511) (h3 : ¬ p ∈ qs) : PsOk (qs ++ [p]) := by
  refine ⟨fun q hq => ?_, ?_⟩
  · rw [List.mem_append, List.mem_singleton] at hq
    rcases hq with hq | rfl
    · exact h.1 q hq
    · exact ⟨h1, h2⟩
  · rw [List.nodup_append]
    refine ⟨h.2, List.pairwise_singleton _ _, fun a ha b hb e => ?_⟩
    rw [List.mem_singleton] at hb
    subst hb; subst e
    exact h3 ha
theorem ag_portsN (hl : TL l z) : ∀ (f f' : Nat) (out : List Int) (d : DS), d.bad = false → d.k < l.length → l.length - d.k ≤ f → l.length - d.k ≤ f' → PsOk out →
    Ag (portsM l f d.k out) (dWant l (dPortsN l f' out d).2 wShut) (fun qs => qs = (dPortsN l f' out d).1 ∧ PsOk qs) l d.k
  | 0, _, _, d, _, hk, hf, _, _ => by omega
  | _ + 1, 0, _, d, _, hk, _, hf, _ => by omega
  | f + 1, f' + 1, out, d, hb, hk, hf, hf', hp => by
    have hh := has_is hl d hb hk wShut w_ok.2.2.2.1
    unfold portsM
    rw [dPortsN, hh, hb]
    by_cases hs : isM l d.k wShut = true
    · rw [if_pos hs, hs, if_neg (by decide)]
      have := ag_want hl d hb hk wShut w_ok.2.2.2.1
      rw [want_of hs] at this
      exact ⟨this.1, this.2.1, this.2.2.1, this.2.2.2.1, rfl, hp⟩
    · rw [if_neg hs, show isM l d.k wShut = false by simpa using hs, if_pos (by decide)]
      refine ag_bind (ag_newPort hl out d hb hk) (fun p hb1 lt1 hk1 hP => ?_) (fun hb1 => by rw [dWant_bad _ _ wSemi hb1, dPortsN_bad _ _ _ hb1, dWant_bad _ _ _ hb1])
      refine ag_bind (ag_want hl _ hb1 hk1 wSemi w_ok.2.2.2.2.1) (fun _ hb2 lt2 hk2 _ => ?_) (fun hb2 => by rw [dPortsN_bad _ _ _ hb2, dWant_bad _ _ _ hb2])
      rw [← hP.1]
      exact ag_portsN hl f f' _ _ hb2 hk2 (by omega) (by omega) (hp.add hP.2.1 hP.2.2.1 hP.2.2.2)
theorem rise_ext : ∀ (a b : List Int), a.Pairwise (· < ·) → b.Pairwise (· < ·) → (∀ x, x ∈ a ↔ x ∈ b) → a = b
  | [], [], _, _, _ => rfl
  | [], y :: b, _, _, h => absurd ((h y).2 (List.mem_cons_self ..)) (by simp)
  | x :: a, [], _, _, h => absurd ((h x).1 (List.mem_cons_self ..)) (by simp)
  | x :: a, y :: b, ha, hb, h => by
    rw [List.pairwise_cons] at ha hb
    have hxy : x = y := by
      have h1 := (h x).1 (List.mem_cons_self ..)
      have h2 := (h y).2 (List.mem_cons_self ..)
      rw [List.mem_cons] at h1 h2
      rcases h1 with h1 | h1
      · exact h1
      · rcases h2 with h2 | h2
        · exact h2.symm
        · have := hb.1 x h1; have := ha.1 y h2; omega
    subst hxy
    rw [rise_ext a b ha.2 hb.2 fun w => ?_]
    constructor
    · intro hw
      have := (h w).1 (List.mem_cons_of_mem _ hw)
      rw [List.mem_cons] at this
      rcases this with rfl | this
      · exact absurd (ha.1 _ hw) (by omega)
      · exact this
    · intro hw
      have := (h w).2 (List.mem_cons_of_mem _ hw)
      rw [List.mem_cons] at this
      rcases this with rfl | this
      · exact absurd (hb.1 _ hw) (by omega)
      · exact this
theorem sortK_rise (zs : List Int) : ∀ m, (sortK zs m).Pairwise (· < ·) ∧ ∀ x, x ∈ sortK zs m ↔ (x ∈ zs ∧ 1 ≤ x ∧ x ≤ (m : Int))
  | 0 => ⟨by rw [sortK_zero]; exact List.Pairwise.nil, fun x => by rw [sortK_zero]; constructor; (intro h; cases h); (intro h; omega)⟩
  | m + 1 => by
    obtain ⟨h1, h2⟩ := sortK_rise zs m
    rw [sortK_succ]
    by_cases hm : ((m + 1 : Nat) : Int) ∈ zs
    · rw [if_pos hm]
      constructor
      · rw [List.pairwise_append]
        refine ⟨h1, List.pairwise_singleton _ _, fun a ha b hb => ?_⟩
        rw [List.mem_singleton] at hb
        subst hb
        have := ((h2 a).1 ha).2.2
        omega
      · intro x
        rw [List.mem_append, List.mem_singleton, h2 x]
        constructor
        · rintro (⟨a, b, c⟩ | rfl)
          · exact ⟨a, b, by omega⟩
          · exact ⟨hm, by omega, Int.le_refl _⟩
        · rintro ⟨a, b, c⟩
          by_cases e : x = ((m + 1 : Nat) : Int)
          · exact Or.inr e
          · exact Or.inl ⟨a, b, by omega⟩
    · rw [if_neg hm, List.append_nil]
      refine ⟨h1, fun x => ?_⟩
      rw [h2 x]
      constructor
      · rintro ⟨a, b, c⟩; exact ⟨a, b, by omega⟩
      · rintro ⟨a, b, c⟩
        refine ⟨a, b, ?_⟩
        by_cases e : x = ((m + 1 : Nat) : Int)
        · subst e; exact absurd a hm
        · omega
theorem sortF_K (qs : List Int) (h : PsOk qs) : sortF qs = sortK qs 511 := by
  have hp : (sortF qs).Perm qs := List.mergeSort_perm _ _
  have hn : (sortF qs).Nodup := hp.nodup_iff.2 h.2
  have hs : (sortF qs).Pairwise fun x y => decide (x ≤ y) = true := List.pairwise_mergeSort (fun a b c h1 h2 => by simp only [decide_eq_true_eq] at *; omega) (fun a b => by simp only [Bool.or_eq_true, decide_eq_true_eq]; omega) qs
  obtain ⟨k1, k2⟩ := sortK_rise qs 511
  refine rise_ext _ _ ?_ k1 fun x => ?_
  · have := List.Pairwise.and hs hn
    exact this.imp fun {a b} ⟨u, v⟩ => by
      have u := of_decide_eq_true u
      have v : a ≠ b := v
      omega
  · rw [hp.mem_iff, k2 x]
    constructor
    · intro hx
      have := h.1 x hx
      exact ⟨hx, this.1, this.2⟩
    · exact fun hx => hx.1
theorem dPorts_bad (d : DS) (h : d.bad = true) : (dPorts l d).2 = d := by
  unfold dPorts
  rw [dWant_bad _ _ _ h, dPortsN_bad _ _ _ h, dWant_bad _ _ _ h]
theorem ag_node (hl : TL l z) (n : Net') (d : DS) (hb : d.bad = false) (hk : d.k < l.length) (hs : isM l d.k wSwitch = true) : Ag (nodeM l d.k n) (dNodeD l n d) (fun n' => n' = dNodeN l n d) l d.k := by
  have h0 : ¬ (getT l d.k).kind = 0 := by
    have hh := has_is hl d hb hk wSwitch w_ok.1
    rw [hs] at hh
    have := (has_go hh).2
    rwa [dNow_k l d hb] at this
  unfold nodeM
  unfold dNodeD dNodeN
  obtain ⟨d1, hd1⟩ : ∃ d1, dNode1 l n d = d1 := ⟨_, rfl⟩
  obtain ⟨d2, hd2⟩ : ∃ d2, dNode2 l n d = d2 := ⟨_, rfl⟩
  have e2 := hd2
  unfold dNode2 at e2
  rw [hd1] at e2
  rw [hd1, hd2]
  have e1 := hd1
  unfold dNode1 at e1
  rw [dNow_k l d hb] at e1
  by_cases h8 : n.names.length < 8
  · rw [if_neg (by simpa using h8), want_of hs]
    rw [decide_eq_true h8, dFail_so, dTake_go d hb h0] at e1
    have hb1 : d1.bad = false := by rw [← e1]
    have hk1 : d1.k = d.k + 1 := by rw [← e1]
    have hlt := next_lt hl d.k hk h0
    show Ag ((nameM l (d.k + 1)).bind _) _ _ _ _
    rw [← hk1]
    have step : Ag ((nameM l d1.k).bind fun x k2 => if ¬ findF n.names x < 0 then .bad (getT l d1.k).at_ 8 else (wantM l k2 wOpen).bind fun _ k3 => (portsM l (l.length - k3) k3 []).bind fun ps k4 => .ok (⟨n.names ++ [x], n.ports ++ [sortF ps], n.links⟩ : Net') k4) (dPorts l d2).2 (fun n' => n' = ⟨n.names ++ [(dNow l d1).s], n.ports ++ [(dPorts l d2).1], n.links⟩) l d1.k := by
      refine ag_bind (ag_name hl d1 hb1 (by omega)) (fun x hb2 lt2 hk2 hx => ?_) (fun hb2 => by rw [← e2, dFail_bad _ _ _ _ hb2, dPorts_bad _ hb2])
      subst hx
      by_cases hf : findF n.names (dNow l d1).s < 0
      · rw [if_neg (by simpa using hf)]
        rw [decide_eq_true hf, dFail_so] at e2
        rw [e2] at hb2 lt2 hk2 ⊢
        unfold dPorts
        refine ag_bind (ag_want hl d2 hb2 hk2 wOpen w_ok.2.2.1) (fun _ hb3 lt3 hk3 _ => ?_) (fun hb3 => by rw [dPortsN_bad _ _ _ hb3, dWant_bad _ _ _ hb3])
        refine ag_map (ag_portsN hl _ (l.length + 2) [] _ hb3 hk3 (Nat.le_refl _) (by omega) ⟨fun p h => by (cases h), List.nodup_nil⟩) (fun ps hps => ?_)
        rw [← hps.1, sortF_K ps hps.2]
      · rw [if_pos hf]
        rw [decide_eq_false hf, dFail_no _ _ _ hb2, dNow_k l d1 hb1] at e2
        rw [dPorts_bad d2 (by rw [← e2]), ← e2]
        exact ⟨rfl, rfl, rfl⟩
    revert step
    generalize ((nameM l d1.k).bind _ : Rs Net') = X
    cases X with
    | ok a k' => exact fun t => ⟨t.1, t.2.1, by have := t.2.2.1; omega, t.2.2.2⟩
    | bad p e => exact id
  · rw [if_pos h8]
    rw [decide_eq_false h8, dFail_no _ _ _ hb, dTake_bad _ _ rfl] at e1
    have hb1 : d1.bad = true := by rw [← e1]
    rw [dName_bad _ _ hb1, dFail_bad _ _ _ _ hb1] at e2
    rw [← e2, dPorts_bad d1 hb1, ← e1]
    exact ⟨rfl, rfl, rfl⟩
theorem dNodes_bad (f : Nat) (n : Net') (d : DS) (h : d.bad = true) : dNodes l f n d = (n, d) := by
  cases f with
  | zero => rfl
  | succ f => unfold dNodes; rw [dHas_not h, if_neg (by decide)]
theorem ag_nodes (hl : TL l z) : ∀ (f f' : Nat) (n : Net') (d : DS), d.bad = false → d.k < l.length → l.length - d.k ≤ f → l.length - d.k ≤ f' → n.names.length = n.ports.length →
    AgL (nodesM l f d.k n) (dNodes l f' n d).2 (fun n' => n' = (dNodes l f' n d).1 ∧ n'.names.length = n'.ports.length ∧ n'.links = n.links) l
  | 0, _, _, d, _, hk, hf, _, _ => by omega
  | _ + 1, 0, _, d, _, hk, _, hf, _ => by omega
  | f + 1, f' + 1, n, d, hb, hk, hf, hf', hp => by
    have hh := has_is hl d hb hk wSwitch w_ok.1
    unfold nodesM
    rw [dNodes, hh]
    by_cases hs : isM l d.k wSwitch = true
    · rw [if_pos hs, if_pos hs]
      refine agl_bind (ag_node hl n d hb hk hs) (fun n' hb1 lt1 hk1 hP => ?_) (fun hb1 => by rw [dNodes_bad _ _ _ hb1])
      subst hP
      exact ag_nodes hl f f' _ _ hb1 hk1 (by omega) (by omega) (by simp [dNodeN, hp])
    · rw [if_neg hs, if_neg hs]
      exact ⟨hb, rfl, hk, rfl, hp, rfl⟩
def flat (links : List (End' × End')) : List End' := links.flatMap fun x => [x.1, x.2]
theorem flat_add (links : List (End' × End')) (a b : End') : flat (links ++ [(a, b)]) = flat links ++ [a, b] := by simp [flat]
theorem nextF_flat : ∀ (links : List (End' × End')) (e : End'), (nextF links e).isSome = decide (e ∈ flat links)
  | [], e => by simp [nextF, flat]
  | (a, b) :: r, e => by
    have := nextF_flat r e
    unfold nextF
    have ef : flat ((a, b) :: r) = a :: b :: flat r := by simp [flat]
    rw [ef]
    by_cases h1 : a = e
    · rw [if_pos h1, decide_eq_true (by rw [h1]; exact List.mem_cons_self ..)]; rfl
    · rw [if_neg h1]
      by_cases h2 : b = e
      · rw [if_pos h2, decide_eq_true (by rw [h2]; exact List.mem_cons_of_mem _ (List.mem_cons_self ..))]; rfl
      · rw [if_neg h2, this]
        refine decide_eq_decide.2 ?_
        rw [List.mem_cons, List.mem_cons]
        constructor
        · exact fun h => Or.inr (Or.inr h)
        · rintro (h | h | h)
          · exact absurd h.symm h1
          · exact absurd h.symm h2
          · exact h
theorem nextV_there (th : Bool) (links : List (End' × End')) (e : End') : (nextV th links e).2.1 = th := by
  unfold nextV
  cases th with
  | false => rfl
  | true => rw [if_pos rfl]; split <;> rfl
theorem nextV_tied (links : List (End' × End')) (e : End') : (nextV true links e).2.2 = decide (e ∈ flat links) := by
  rw [← nextF_flat]
  unfold nextV
  rw [if_pos rfl]
  cases nextF links e <;> rfl
theorem there_same (n : Net') (hn : n.names.length = n.ports.length) (e : End') : thereF n e = thereD n.ports e := by
  unfold thereF thereD
  rw [hn]
  cases decide (0 ≤ e.sw) <;> cases decide (e.sw < (n.ports.length : Int)) <;> simp
theorem ag_end (hl : TL l z) (n : Net') (hn : n.names.length = n.ports.length) (ex : List End') (d : DS) (hb : d.bad = false) (hk : d.k < l.length) :
    Ag (endM l d.k n (flat n.links ++ ex)) (dFail (decide (¬ dEndE l n d ∈ ex)) (dNow l (dEnd1 l n d)) 8 (dEnd l n d)) (fun e => e = dEndE l n d) l d.k := by
  unfold endM
  obtain ⟨d3, hd3⟩ : ∃ d3, dEnd1 l n d = d3 := ⟨_, rfl⟩
  obtain ⟨E, hE⟩ : ∃ E, dEndE l n d = E := ⟨_, rfl⟩
  have eE := hE
  unfold dEndE at eE
  rw [hd3] at eE
  unfold dEnd
  rw [hE, hd3, nextV_there]
  have e3 := hd3
  unfold dEnd1 at e3
  have hdb : ∀ so t so' t' so'' t'', d3.bad = true → dFail so t 8 (dFail so' t' 8 (dFail so'' t'' 7 (dPort l d3))) = d3 := fun so t so' t' so'' t'' h => by
    rw [dPort_bad _ _ h, dFail_bad _ _ _ _ h, dFail_bad _ _ _ _ h, dFail_bad _ _ _ _ h]
  refine ag_bind (ag_name hl d hb hk) (fun x hb1 lt1 hk1 hx => ?_) (fun hb1 => by
    rw [dFail_bad _ _ _ _ hb1, dWant_bad _ _ _ hb1] at e3
    rw [hdb _ _ _ _ _ _ (by rw [← e3]; exact hb1), e3])
  subst hx
  by_cases hf : findF n.names (dNow l d).s < 0
  · rw [if_pos hf]
    have hI : decide (0 ≤ dEndI l n d) = false := decide_eq_false (by unfold dEndI; omega)
    rw [hI, dFail_no _ _ _ hb1, dNow_k l d hb, dWant_bad _ _ _ rfl] at e3
    rw [hdb _ _ _ _ _ _ (by rw [← e3]), ← e3]
    exact ⟨rfl, rfl, rfl⟩
  · rw [if_neg hf]
    have hI : decide (0 ≤ dEndI l n d) = true := decide_eq_true (by unfold dEndI; omega)
    rw [hI, dFail_so] at e3
    refine ag_bind (ag_want hl _ hb1 hk1 wColon w_ok.2.2.2.2.2) (fun _ hb3 lt3 hk3 _ => ?_) (fun hb3 => by
      rw [hdb _ _ _ _ _ _ (by rw [← e3]; exact hb3), e3])
    rw [e3] at hb3 lt3 hk3 ⊢
    rw [num_port (β := End') d3.k (fun t p k4 => if thereF n ⟨findF n.names (dNow l d).s, p⟩ = false then .bad t.at_ 7 else if (⟨findF n.names (dNow l d).s, p⟩ : End') ∈ flat n.links ++ ex then .bad t.at_ 8 else .ok ⟨findF n.names (dNow l d).s, p⟩ k4)]
    have hp := ag_port hl d3 hb3 hk3
    rw [dNow_k l d3 hb3]
    cases hr : portM l d3.k with
    | bad p e =>
      rw [hr] at hp
      rw [dFail_bad _ _ _ _ (show (dFail _ _ 8 (dFail _ _ 7 (dPort l d3))).bad = true by rw [dFail_bad _ _ _ _ (show (dFail _ _ 7 (dPort l d3)).bad = true by rw [dFail_bad _ _ _ _ hp.1]; exact hp.1), dFail_bad _ _ _ _ hp.1]; exact hp.1), dFail_bad _ _ _ _ (show (dFail _ _ 7 (dPort l d3)).bad = true by rw [dFail_bad _ _ _ _ hp.1]; exact hp.1), dFail_bad _ _ _ _ hp.1]
      exact hp
    | ok p k4 =>
      rw [hr] at hp
      obtain ⟨a1, a2, a3, a4, a5⟩ := hp
      have hEE : (⟨findF n.names (dNow l d).s, (p : Int)⟩ : End') = E := by rw [← eE, ← a5]; rfl
      show Ag (if thereF n ⟨findF n.names (dNow l d).s, p⟩ = false then _ else if (⟨findF n.names (dNow l d).s, p⟩ : End') ∈ flat n.links ++ ex then _ else _) _ _ _ _
      rw [hEE, there_same n hn]
      cases ht : thereD n.ports E with
      | false =>
        rw [if_pos rfl, dFail_no _ _ _ a1, dFail_bad _ _ _ _ (show (dFail _ _ 8 ⟨_, true, _, _⟩).bad = true by rw [dFail_bad _ _ _ _ rfl]), dFail_bad _ _ _ _ rfl]
        exact ⟨rfl, rfl, rfl⟩
      | true =>
        rw [if_neg (by decide), dFail_so, nextV_tied]
        by_cases hm : E ∈ flat n.links
        · rw [if_pos (List.mem_append_left _ hm), decide_eq_true hm, Bool.not_true, dFail_no _ _ _ a1, dFail_bad _ _ _ _ rfl]
          exact ⟨rfl, rfl, rfl⟩
        · rw [decide_eq_false hm, Bool.not_false, dFail_so]
          by_cases hx : E ∈ ex
          · rw [if_pos (List.mem_append_right _ hx), decide_eq_false (by simpa using hx), dFail_no _ _ _ a1]
            exact ⟨rfl, rfl, rfl⟩
          · rw [if_neg (by rw [List.mem_append]; exact fun h => h.elim hm hx), decide_eq_true hx, dFail_so]
            exact ⟨a1, a2, by omega, a4, rfl⟩
theorem dEnd1_bad (n : Net') (d : DS) (h : d.bad = true) : dEnd1 l n d = d := by unfold dEnd1; rw [dName_bad _ _ h, dFail_bad _ _ _ _ h, dWant_bad _ _ _ h]
theorem dEnd_bad (n : Net') (d : DS) (h : d.bad = true) : dEnd l n d = d := by unfold dEnd; rw [dEnd1_bad n d h, dPort_bad _ _ h, dFail_bad _ _ _ _ h, dFail_bad _ _ _ _ h]
theorem ag_link (hl : TL l z) (n : Net') (hn : n.names.length = n.ports.length) (d : DS) (hb : d.bad = false) (hk : d.k < l.length) (hs : isM l d.k wLink = true) :
    Ag (linkM l d.k n (flat n.links)) (dLinkD l n d) (fun x => x.1 = dLinkN l n d ∧ x.2 = flat x.1.links) l d.k := by
  have h0 : ¬ (getT l d.k).kind = 0 := by
    have hh := has_is hl d hb hk wLink w_ok.2.1
    rw [hs] at hh
    have := (has_go hh).2
    rwa [dNow_k l d hb] at this
  unfold linkM
  rw [want_of hs]
  have hlt := next_lt hl d.k hk h0
  obtain ⟨d0, hd0⟩ : ∃ d0, dTake l d = d0 := ⟨_, rfl⟩
  obtain ⟨d1, hd1⟩ : ∃ d1, dLink1 l n d = d1 := ⟨_, rfl⟩
  have e1 := hd1
  unfold dLink1 at e1
  rw [hd0] at e1
  unfold dLinkD
  have eA : dLinkA l n d = dEndE l n d0 := by unfold dLinkA; rw [hd0]
  have eB : dLinkB l n d = dEndE l n d1 := by unfold dLinkB; rw [hd1]
  have eN : dLinkN l n d = ⟨n.names, n.ports, n.links ++ [(dEndE l n d0, dEndE l n d1)]⟩ := by unfold dLinkN; rw [eA, eB]
  rw [eN, eA, eB, hd1]
  rw [dTake_go d hb h0] at hd0
  have hb0 : d0.bad = false := by rw [← hd0]
  have hk0 : d0.k = d.k + 1 := by rw [← hd0]
  show Ag ((endM l (d.k + 1) n (flat n.links)).bind _) _ _ _ _
  rw [← hk0]
  have step : Ag ((endM l d0.k n (flat n.links)).bind fun a k2 => (endM l k2 n (flat n.links ++ [a])).bind fun b k3 => (wantM l k3 wSemi).bind fun _ k4 => .ok ((⟨n.names, n.ports, n.links ++ [(a, b)]⟩ : Net'), flat n.links ++ [a, b]) k4)
      (dWant l (dFail (!decide (dEndE l n d0 = dEndE l n d1)) (dNow l (dEnd1 l n d1)) 8 (dEnd l n d1)) wSemi) (fun x => x.1 = ⟨n.names, n.ports, n.links ++ [(dEndE l n d0, dEndE l n d1)]⟩ ∧ x.2 = flat x.1.links) l d0.k := by
    have g1 := ag_end hl n hn [] d0 hb0 (by omega)
    rw [List.append_nil, decide_eq_true (by simp), dFail_so, e1] at g1
    refine ag_bind g1 (fun a hb1 lt1 hk1 ha => ?_) (fun hb1 => by rw [dEnd_bad n d1 hb1, dFail_bad _ _ _ _ hb1, dWant_bad _ _ _ hb1])
    subst ha
    have g2 := ag_end hl n hn [dEndE l n d0] d1 hb1 hk1
    rw [show decide (¬ dEndE l n d1 ∈ [dEndE l n d0]) = !decide (dEndE l n d0 = dEndE l n d1) by
      by_cases h : dEndE l n d0 = dEndE l n d1
      · rw [decide_eq_true h, h]; simp
      · rw [decide_eq_false h, Bool.not_false, decide_eq_true]; rw [List.mem_singleton]; exact fun e => h e.symm] at g2
    refine ag_bind g2 (fun b hb2 lt2 hk2 hB => ?_) (fun hb2 => by rw [dWant_bad _ _ _ hb2])
    subst hB
    exact ag_map (ag_want hl _ hb2 hk2 wSemi w_ok.2.2.2.2.1) (fun _ _ => ⟨rfl, (flat_add _ _ _).symm⟩)
  revert step
  generalize ((endM l d0.k n (flat n.links)).bind _ : Rs (Net' × List End')) = X
  cases X with
  | ok a k' => exact fun t => ⟨t.1, t.2.1, by have := t.2.2.1; omega, t.2.2.2⟩
  | bad p e => exact id
theorem dLinks_bad (f : Nat) (n : Net') (d : DS) (h : d.bad = true) : dLinks l f n d = (n, d) := by
  cases f with
  | zero => rfl
  | succ f => unfold dLinks; rw [dHas_not h, if_neg (by decide)]
def dFin (l : List Tok) (d : DS) : DS := dFail (decide ((dNow l d).kind = 0)) (dNow l d) 4 d
theorem dFin_bad (d : DS) (h : d.bad = true) : dFin l d = d := dFail_bad _ _ _ _ h
theorem ag_links (hl : TL l z) : ∀ (f f' : Nat) (n : Net') (d : DS), d.bad = false → d.k < l.length → l.length - d.k ≤ f → l.length - d.k ≤ f' → n.names.length = n.ports.length →
    AgL (linksM l f d.k n (flat n.links)) (dFin l (dLinks l f' n d).2) (fun n' => n' = (dLinks l f' n d).1) l
  | 0, _, _, d, _, hk, hf, _, _ => by omega
  | _ + 1, 0, _, d, _, hk, _, hf, _ => by omega
  | f + 1, f' + 1, n, d, hb, hk, hf, hf', hp => by
    have hh := has_is hl d hb hk wLink w_ok.2.1
    unfold linksM
    rw [dLinks, hh]
    by_cases hs : isM l d.k wLink = true
    · have h0 : ¬ (getT l d.k).kind = 0 := by
        rw [hs] at hh
        have := (has_go hh).2
        rwa [dNow_k l d hb] at this
      rw [if_neg h0, if_pos hs]
      refine agl_bind (ag_link hl n hp d hb hk hs) (fun x hb1 lt1 hk1 hP => ?_) (fun hb1 => by rw [dLinks_bad _ _ _ hb1, dFin_bad _ hb1])
      rw [hP.2, hP.1]
      exact ag_links hl f f' _ _ hb1 hk1 (by omega) (by omega) (by simpa [dLinkN] using hp)
    · rw [if_neg hs]
      show AgL _ (dFin l d) _ l
      unfold dFin
      rw [dNow_k l d hb]
      by_cases h0 : (getT l d.k).kind = 0
      · rw [if_pos h0, decide_eq_true h0, dFail_so]
        exact ⟨hb, rfl, hk, rfl⟩
      · rw [if_neg h0, decide_eq_false h0, dFail_no _ _ _ hb]
        have : linkM l d.k n (flat n.links) = .bad (getT l d.k).at_ 4 := by unfold linkM wantM; rw [if_neg hs]; rfl
        rw [this]
        exact ⟨rfl, rfl, rfl⟩
theorem ag_all (hl : TL l z) : AgL (allM l) (dAll l).2 (fun n' => n' = (dAll l).1) l := by
  show AgL ((nodesM l l.length 0 net0).bind fun n k => linksM l l.length k n []) (dFin l (dLinks l (l.length + 2) (dNodes l (l.length + 2) net0 d00).1 (dNodes l (l.length + 2) net0 d00).2).2) (fun n' => n' = (dLinks l (l.length + 2) (dNodes l (l.length + 2) net0 d00).1 (dNodes l (l.length + 2) net0 d00).2).1) l
  refine agl_bind' (ag_nodes hl l.length (l.length + 2) net0 d00 rfl hl.pos (by omega) (by omega) rfl) (fun n hb hk hn => ?_) (fun hb => by rw [dLinks_bad _ _ _ hb, dFin_bad _ hb])
  have := ag_links hl l.length (l.length + 2) n _ hb hk (by omega) (by omega) hn.2.1
  rw [hn.2.2] at this
  rw [← hn.1]
  exact this
end
end Go.Proofs.YtkffjjlmoojffaaGreatDoor
