/-
  WHAT IS PROVED HERE: a part of the proof of the claim's theorem: NetA; NetB.
-/
import Derived.Test.YtkffjjlmoojffaaGreatDoorB14
set_option linter.all false
namespace Go.Proofs.YtkffjjlmoojffaaGreatDoor
inductive Rs (α : Type) where
  | ok (a : α) (k : Nat)
  | bad (p : Nat) (e : Int)
def Rs.bind {α β : Type} : Rs α → (α → Nat → Rs β) → Rs β
  | .ok a k, f => f a k
  | .bad p e, _ => .bad p e
theorem Rs.bind_ok {α β : Type} {r : Rs α} {a : α} {k : Nat} (h : r = .ok a k) (f : α → Nat → Rs β) : r.bind f = f a k := by subst h; rfl
theorem Rs.bind_bad {α β : Type} {r : Rs α} {p : Nat} {e : Int} (h : r = .bad p e) (f : α → Nat → Rs β) : r.bind f = .bad p e := by subst h; rfl
def noTok : Tok := ⟨0, ByteArray.empty, 0, 0, 0⟩
def getT (l : List Tok) (k : Nat) : Tok := (l[k]?).getD noTok
theorem getT_of {l : List Tok} {k : Nat} {t : Tok} (h : l[k]? = some t) : getT l k = t := by unfold getT; rw [h]; rfl
def isM (l : List Tok) (k : Nat) (x : ByteArray) : Bool := decide ((getT l k).s = x)
def wantM (l : List Tok) (k : Nat) (x : ByteArray) : Rs Unit := if isM l k x = true then .ok () (k + 1) else .bad (getT l k).at_ 4
def nameM (l : List Tok) (k : Nat) : Rs ByteArray := if nameB (getT l k).s = true then .ok (getT l k).s (k + 1) else .bad (getT l k).at_ 4
def numM (l : List Tok) (k : Nat) : Rs Tok := if (getT l k).kind = 2 then .ok (getT l k) (k + 1) else .bad (getT l k).at_ 4
def bareE (t : Tok) (least most : Nat) (e : Int) : Int := if ¬ t.w = 0 then 10 else if least ≤ t.n ∧ t.n ≤ most then 0 else e
def bareM (t : Tok) (k least most : Nat) (e : Int) : Rs Nat := if bareE t least most e = 0 then .ok t.n k else .bad t.at_ (bareE t least most e)
abbrev wSwitch : ByteArray := ⟨#[115, 119, 105, 116, 99, 104]⟩
abbrev wLink : ByteArray := ⟨#[108, 105, 110, 107]⟩
abbrev wOpen : ByteArray := ⟨#[123]⟩
abbrev wShut : ByteArray := ⟨#[125]⟩
abbrev wSemi : ByteArray := ⟨#[59]⟩
abbrev wColon : ByteArray := ⟨#[58]⟩
structure End' where
  sw : Int
  po : Int
  deriving DecidableEq
structure Net' where
  names : List ByteArray
  ports : List (List Int)
  links : List (End' × End')
def newPortM (l : List Tok) (k : Nat) (ports : List Int) : Rs Int := (numM l k).bind fun t k1 =>
  if ¬ ports.length < 8 then .bad t.at_ 5 else (bareM t k1 1 511 5).bind fun n k2 => if ((n : Int) ∈ ports) then .bad t.at_ 8 else .ok (n : Int) k2
def portsM (l : List Tok) : Nat → Nat → List Int → Rs (List Int)
  | 0, k, ports => .ok ports k
  | f + 1, k, ports => if isM l k wShut = true then .ok ports (k + 1) else (newPortM l k ports).bind fun p k1 => (wantM l k1 wSemi).bind fun _ k2 => portsM l f k2 (ports ++ [p])
def findF (names : List ByteArray) (x : ByteArray) : Int := match names.findIdx? fun y => decide (y = x) with | some i => (i : Int) | none => -1
def sortF (l : List Int) : List Int := l.mergeSort fun x y => decide (x ≤ y)
def nodeM (l : List Tok) (k : Nat) (n : Net') : Rs Net' :=
  if ¬ n.names.length < 8 then .bad (getT l k).at_ 5 else (wantM l k wSwitch).bind fun _ k1 => (nameM l k1).bind fun x k2 =>
    if ¬ findF n.names x < 0 then .bad (getT l k1).at_ 8 else (wantM l k2 wOpen).bind fun _ k3 => (portsM l (l.length - k3) k3 []).bind fun ps k4 => .ok ⟨n.names ++ [x], n.ports ++ [sortF ps], n.links⟩ k4
def thereF (n : Net') (e : End') : Bool := decide (0 ≤ e.sw) && decide (e.sw < n.names.length) && decide (e.sw < n.ports.length) && decide (e.po ∈ (n.ports[e.sw.toNat]?).getD [])
def endM (l : List Tok) (k : Nat) (n : Net') (linked : List End') : Rs End' :=
  (nameM l k).bind fun x k1 => if findF n.names x < 0 then .bad (getT l k).at_ 7 else (wantM l k1 wColon).bind fun _ k2 => (numM l k2).bind fun t k3 =>
    (bareM t k3 1 511 5).bind fun p k4 => if thereF n ⟨findF n.names x, p⟩ = false then .bad t.at_ 7 else if (⟨findF n.names x, p⟩ : End') ∈ linked then .bad t.at_ 8 else .ok ⟨findF n.names x, p⟩ k4
def linkM (l : List Tok) (k : Nat) (n : Net') (linked : List End') : Rs (Net' × List End') :=
  (wantM l k wLink).bind fun _ k1 => (endM l k1 n linked).bind fun a k2 => (endM l k2 n (linked ++ [a])).bind fun b k3 => (wantM l k3 wSemi).bind fun _ k4 =>
    .ok (⟨n.names, n.ports, n.links ++ [(a, b)]⟩, linked ++ [a, b]) k4
def nodesM (l : List Tok) : Nat → Nat → Net' → Rs Net'
  | 0, k, n => .ok n k
  | f + 1, k, n => if isM l k wSwitch = true then (nodeM l k n).bind fun n' k' => nodesM l f k' n' else .ok n k
def linksM (l : List Tok) : Nat → Nat → Net' → List End' → Rs Net'
  | 0, k, n, _ => .ok n k
  | f + 1, k, n, ls => if (getT l k).kind = 0 then .ok n k else (linkM l k n ls).bind fun x k' => linksM l f k' x.1 x.2
def allM (l : List Tok) : Rs Net' := (nodesM l l.length 0 ⟨[], [], []⟩).bind fun n k => linksM l l.length k n []
structure TL (l : List Tok) (size : Nat) : Prop where
  pos : 0 < l.length
  nxt : ∀ (j : Nat) (t : Tok), l[j]? = some t → ¬ t.kind = 0 → j + 1 < l.length
  at_ : ∀ (j : Nat) (t : Tok), l[j]? = some t → t.at_ ≤ size
  k0 : ∀ (j : Nat) (t : Tok), l[j]? = some t → t.kind = 0 → t.s = ByteArray.empty
  k2 : ∀ (j : Nat) (t : Tok), l[j]? = some t → t.kind = 2 → isDig (byN t.s 0) = true
  k3 : ∀ (j : Nat) (t : Tok), l[j]? = some t → t.kind = 3 → isWrd (byN t.s 0) = false
  k4 : ∀ (j : Nat) (t : Tok), l[j]? = some t → t.kind ≤ 3
  n : ∀ (j : Nat) (t : Tok), l[j]? = some t → t.n < 340282366920938463463374607431768211456
  sz : ∀ (j : Nat) (t : Tok), l[j]? = some t → t.s.size ≤ size
structure T1 (t : Tok) (size : Nat) : Prop where
  at_ : t.at_ ≤ size
  k0 : t.kind = 0 → t.s = ByteArray.empty
  k2 : t.kind = 2 → isDig (byN t.s 0) = true
  k3 : t.kind = 3 → isWrd (byN t.s 0) = false
  k4 : t.kind ≤ 3
  n : t.n < 340282366920938463463374607431768211456
  sz : t.s.size ≤ size
theorem ext_le (s : ByteArray) (a b : Nat) : (s.extract a b).size ≤ s.size := by rw [ByteArray.size_extract]; omega
theorem numR_lt (s : ByteArray) : (numR s).2.1 < 340282366920938463463374607431768211456 := by
  have B : ∀ d, (parseS d).1 < 340282366920938463463374607431768211456 := fun d => parseS_lt d
  unfold numR
  split <;> (repeat' split) <;> first | exact B _ | exact (by decide : (0 : Nat) < 340282366920938463463374607431768211456)
theorem one_t1 (s : ByteArray) (a : Nat) (ha : a < s.size) (h : (oneR s a).2 = 0) : T1 (oneR s a).1 s.size ∧ ¬ (oneR s a).1.kind = 0 := by
  unfold oneR at h ⊢
  split
  · rename_i hw
    have hf := word_first s a ha hw
    split
    · rename_i hd
      have hb : (numR (s.extract a (wEnd s a))).2.1 < 340282366920938463463374607431768211456 := numR_lt _
      exact ⟨⟨by show a ≤ _; omega, fun h => (by cases h), fun _ => by show isDig (byN (s.extract a (wEnd s a)) 0) = true; rw [hf.2.2]; exact hd, fun h => (by cases h), by show (2 : Nat) ≤ 3; decide, hb, ext_le _ _ _⟩, by show ¬ (2 : Nat) = 0; decide⟩
    · exact ⟨⟨by show a ≤ _; omega, fun h => (by cases h), fun h => (by cases h), fun h => (by cases h), by show (1 : Nat) ≤ 3; decide, by show (0 : Nat) < _; decide, ext_le _ _ _⟩, by show ¬ (1 : Nat) = 0; decide⟩
  · rename_i hw
    rw [if_neg hw] at h
    split
    · rename_i h0; rw [if_pos h0] at h; cases h
    · rename_i h0
      refine ⟨⟨by show a ≤ _; omega, fun h => (by cases h), fun h => (by cases h), fun _ => ?_, by show (3 : Nat) ≤ 3; decide, by show (0 : Nat) < _; decide, ext_le _ _ _⟩, by show ¬ (3 : Nat) = 0; decide⟩
      show isWrd (byN (s.extract a (a + markN s a)) 0) = false
      rw [byN_extract s a (a + markN s a) 0 (by omega)]
      show (isLet (byN s a) || isDig (byN s a)) = false
      simpa using hw
theorem end_t1 (s : ByteArray) : T1 (endTok s) s.size := ⟨Nat.le_refl _, fun _ => rfl, fun h => (by cases h), fun h => (by cases h), by show (0 : Nat) ≤ 3; decide, by show (0 : Nat) < _; decide, Nat.zero_le _⟩
theorem lexN_tl (s : ByteArray) : ∀ (f a : Nat) (acc : List Tok), a ≤ s.size → (∀ t ∈ acc, T1 t s.size ∧ ¬ t.kind = 0) → (lexN s f a acc).2.2 = 0 → ∃ l', (lexN s f a acc).1 = l' ++ [endTok s] ∧ ∀ t ∈ l', T1 t s.size ∧ ¬ t.kind = 0
  | 0, a, acc, _, hacc, _ => ⟨acc, by unfold lexN; rfl, hacc⟩
  | f + 1, a, acc, ha, hacc, h0 => by
    by_cases h : a < s.size
    · by_cases h1 : (oneR s a).2 = 0
      · rw [lexN_go h h1] at h0 ⊢
        have hz := oneR_size s a h h1
        have hb := skip_bounds s _ (a + (oneR s a).1.s.size) (Nat.le_refl _) hz.2
        refine lexN_tl s f _ _ hb.2 ?_ h0
        intro t ht
        rw [List.mem_append, List.mem_singleton] at ht
        rcases ht with ht | rfl
        · exact hacc t ht
        · exact one_t1 s a h h1
      · rw [lexN_bad h h1] at h0
        exact absurd h0 h1
    · rw [lexN_end h]; exact ⟨acc, rfl, hacc⟩
theorem lexR_tl (s : ByteArray) (h : (lexR s).2.2 = 0) : TL (lexR s).1 s.size := by
  obtain ⟨l', hl, hall⟩ : ∃ l', (lexR s).1 = l' ++ [endTok s] ∧ ∀ t ∈ l', T1 t s.size ∧ ¬ t.kind = 0 := by
    unfold lexR at h ⊢
    split
    · rename_i hb; rw [if_pos hb] at h; cases h
    · rename_i hb
      rw [if_neg hb] at h
      have hb := skip_bounds s _ 0 (Nat.le_refl _) (Nat.zero_le _)
      exact lexN_tl s s.size _ [] hb.2 (fun t ht => by cases ht) h
  rw [hl]
  have ht1 : ∀ (j : Nat) (t : Tok), (l' ++ [endTok s])[j]? = some t → T1 t s.size := by
    intro j t h
    have := List.mem_of_getElem? h
    rw [List.mem_append, List.mem_singleton] at this
    rcases this with h | rfl
    · exact (hall t h).1
    · exact end_t1 s
  refine ⟨by simp, ?_, fun j t h => (ht1 j t h).at_, fun j t h => (ht1 j t h).k0, fun j t h => (ht1 j t h).k2, fun j t h => (ht1 j t h).k3, fun j t h => (ht1 j t h).k4, fun j t h => (ht1 j t h).n, fun j t h => (ht1 j t h).sz⟩
  intro j t h hk
  have hj := (List.getElem?_eq_some_iff.1 h).1
  rw [List.length_append, List.length_singleton] at hj ⊢
  by_cases e : j = l'.length
  · subst e
    rw [List.getElem?_append_right (Nat.le_refl _), Nat.sub_self] at h
    obtain rfl := Option.some.inj h
    exact absurd rfl hk
  · omega
end Go.Proofs.YtkffjjlmoojffaaGreatDoor
namespace Go.Proofs.YtkffjjlmoojffaaGreatDoor
structure DS where
  k : Nat
  bad : Bool
  e : Int
  p : Nat
def badTok : Tok := ⟨9, ByteArray.empty, 0, 0, 0⟩
def dNow (l : List Tok) (d : DS) : Tok := if d.bad = true then badTok else getT l d.k
def dFail (so : Bool) (t : Tok) (e : Int) (d : DS) : DS := if (!so && !d.bad) = true then ⟨d.k, true, e, t.at_⟩ else d
def dTake (l : List Tok) (d : DS) : DS := if (!d.bad && decide (¬ (dNow l d).kind = 0)) = true then ⟨d.k + 1, d.bad, d.e, d.p⟩ else d
def dHas (l : List Tok) (d : DS) (x : ByteArray) : Bool := (decide ((dNow l d).kind = 1) || decide ((dNow l d).kind = 3)) && decide ((dNow l d).s = x)
def dWant (l : List Tok) (d : DS) (x : ByteArray) : DS := dFail (dHas l d x) (dNow l d) 4 (dTake l d)
def dName (l : List Tok) (d : DS) : DS := dFail (decide ((dNow l d).kind = 1) && nameB (dNow l d).s) (dNow l d) 4 (dTake l d)
def dPort (l : List Tok) (d : DS) : DS := dFail (decide (1 ≤ (dNow l d).n ∧ (dNow l d).n ≤ 511)) (dNow l d) 5 (dFail (decide ((dNow l d).w = 0)) (dNow l d) 10 (dFail (decide ((dNow l d).kind = 2)) (dNow l d) 4 (dTake l d)))
def dPortV (l : List Tok) (d : DS) : Int := if (dPort l d).bad = true then 0 else ((dNow l d).n : Int)
def dOne (l : List Tok) (out : List Int) (d : DS) : DS := dFail (decide (out.length < 8) || decide (¬ (dNow l d).kind = 2)) (dNow l d) 5 d
def dNew (l : List Tok) (out : List Int) (d : DS) : DS := dFail (!decide (dPortV l d ∈ out)) (dNow l d) 8 (dPort l d)
def dPortsN (l : List Tok) : Nat → List Int → DS → List Int × DS
  | 0, out, d => (out, d)
  | f + 1, out, d => if (!d.bad && !dHas l d wShut) = true then dPortsN l f (out ++ [dPortV l (dOne l out d)]) (dWant l (dNew l out (dOne l out d)) wSemi) else (out, d)
def Ag {α : Type} (r : Rs α) (d : DS) (P : α → Prop) (l : List Tok) (k : Nat) : Prop := match r with
  | .ok a k' => d.bad = false ∧ d.k = k' ∧ k < k' ∧ k' < l.length ∧ P a
  | .bad p e => d.bad = true ∧ d.p = p ∧ d.e = e
theorem dFail_bad (so : Bool) (t : Tok) (e : Int) (d : DS) (h : d.bad = true) : dFail so t e d = d := by simp [dFail, h]
theorem dFail_so (t : Tok) (e : Int) (d : DS) : dFail true t e d = d := by simp [dFail]
theorem dFail_no (t : Tok) (e : Int) (d : DS) (h : d.bad = false) : dFail false t e d = ⟨d.k, true, e, t.at_⟩ := by simp [dFail, h]
theorem dTake_bad (l : List Tok) (d : DS) (h : d.bad = true) : dTake l d = d := by simp [dTake, h]
theorem dWant_bad (l : List Tok) (d : DS) (x : ByteArray) (h : d.bad = true) : dWant l d x = d := by rw [dWant, dTake_bad l d h, dFail_bad _ _ _ _ h]
theorem dName_bad (l : List Tok) (d : DS) (h : d.bad = true) : dName l d = d := by rw [dName, dTake_bad l d h, dFail_bad _ _ _ _ h]
theorem dPort_bad (l : List Tok) (d : DS) (h : d.bad = true) : dPort l d = d := by rw [dPort, dTake_bad l d h, dFail_bad _ _ _ _ h, dFail_bad _ _ _ _ h, dFail_bad _ _ _ _ h]
theorem dNew_bad (l : List Tok) (out : List Int) (d : DS) (h : d.bad = true) : dNew l out d = d := by rw [dNew, dPort_bad l d h, dFail_bad _ _ _ _ h]
theorem dNow_k (l : List Tok) (d : DS) (h : d.bad = false) : dNow l d = getT l d.k := by simp [dNow, h]
section
variable {l : List Tok} {z : Nat}
theorem getT_get (k : Nat) (hk : k < l.length) : l[k]? = some (getT l k) := by
  unfold getT; rw [List.getElem?_eq_getElem hk]; rfl
def WordOk (x : ByteArray) : Prop := ¬ x = ByteArray.empty ∧ isDig (byN x 0) = false
theorem kind_of (hl : TL l z) (k : Nat) (hk : k < l.length) (h0 : ¬ (getT l k).s = ByteArray.empty) (hd : isDig (byN (getT l k).s 0) = false) : (getT l k).kind = 1 ∨ (getT l k).kind = 3 := by
  have hg := getT_get k hk
  have a0 := hl.k0 k _ hg
  have a2 := hl.k2 k _ hg
  have a4 := hl.k4 k _ hg
  have b0 : ¬ (getT l k).kind = 0 := fun h => h0 (a0 h)
  have b2 : ¬ (getT l k).kind = 2 := fun h => by rw [a2 h] at hd; cases hd
  omega
theorem next_lt (hl : TL l z) (k : Nat) (hk : k < l.length) (h : ¬ (getT l k).kind = 0) : k + 1 < l.length := hl.nxt k _ (getT_get k hk) h
theorem dTake_go (d : DS) (h : d.bad = false) (h0 : ¬ (getT l d.k).kind = 0) : dTake l d = ⟨d.k + 1, false, d.e, d.p⟩ := by
  simp [dTake, h, dNow_k l d h, h0]
theorem dTake_b (d : DS) (h : d.bad = false) : (dTake l d).bad = false := by unfold dTake; split <;> exact h
theorem has_is (hl : TL l z) (d : DS) (hb : d.bad = false) (hk : d.k < l.length) (x : ByteArray) (hx : WordOk x) : dHas l d x = isM l d.k x := by
  unfold dHas isM
  rw [dNow_k l d hb]
  by_cases hs : (getT l d.k).s = x
  · have := kind_of hl d.k hk (by rw [hs]; exact hx.1) (by rw [hs]; exact hx.2)
    rcases this with h | h <;> simp [h, hs]
  · simp [hs]
theorem ag_want (hl : TL l z) (d : DS) (hb : d.bad = false) (hk : d.k < l.length) (x : ByteArray) (hx : WordOk x) : Ag (wantM l d.k x) (dWant l d x) (fun _ => True) l d.k := by
  unfold wantM dWant
  rw [has_is hl d hb hk x hx]
  by_cases hs : isM l d.k x = true
  · rw [if_pos hs, hs, dFail_so]
    have hs' : (getT l d.k).s = x := by simpa [isM] using hs
    have h0 : ¬ (getT l d.k).kind = 0 := by
      have := kind_of hl d.k hk (by rw [hs']; exact hx.1) (by rw [hs']; exact hx.2)
      omega
    rw [dTake_go d hb h0]
    exact ⟨rfl, rfl, Nat.lt_succ_self _, next_lt hl d.k hk h0, trivial⟩
  · rw [if_neg hs, show isM l d.k x = false by simpa using hs, dFail_no _ _ _ (dTake_b d hb), dNow_k l d hb]
    exact ⟨rfl, rfl, rfl⟩
theorem name_kind (hl : TL l z) (k : Nat) (hk : k < l.length) (h : nameB (getT l k).s = true) : (getT l k).kind = 1 := by
  have hg := getT_get k hk
  have h' := h
  unfold nameB at h'
  simp only [Bool.and_eq_true, decide_eq_true_eq, Bool.not_eq_true'] at h'
  obtain ⟨⟨⟨⟨h1, _⟩, h2⟩, _⟩, h3⟩ := h'
  have hw : isWrd (byN (getT l k).s 0) = true := by
    unfold wordB at h3
    rw [List.all_eq_true] at h3
    exact h3 0 (by rw [List.mem_range]; omega)
  rcases kind_of hl k hk (fun e => by rw [e] at h1; exact absurd h1 (by decide)) h2 with h | h
  · exact h
  · have := hl.k3 k _ hg h
    rw [this] at hw; cases hw
theorem ag_name (hl : TL l z) (d : DS) (hb : d.bad = false) (hk : d.k < l.length) : Ag (nameM l d.k) (dName l d) (fun x => x = (dNow l d).s) l d.k := by
  unfold nameM dName
  rw [dNow_k l d hb]
  by_cases hs : nameB (getT l d.k).s = true
  · have hk1 := name_kind hl d.k hk hs
    rw [if_pos hs, hs, hk1]
    simp only [decide_true, Bool.and_true]
    rw [dFail_so, dTake_go d hb (by omega)]
    exact ⟨rfl, rfl, Nat.lt_succ_self _, next_lt hl d.k hk (by omega), rfl⟩
  · rw [if_neg hs, show nameB (getT l d.k).s = false by simpa using hs, Bool.and_false, dFail_no _ _ _ (dTake_b d hb)]
    exact ⟨rfl, rfl, rfl⟩
def portM (l : List Tok) (k : Nat) : Rs Nat := (numM l k).bind fun t k1 => bareM t k1 1 511 5
theorem ag_port (hl : TL l z) (d : DS) (hb : d.bad = false) (hk : d.k < l.length) : Ag (portM l d.k) (dPort l d) (fun n => (n : Int) = dPortV l d) l d.k := by
  have hV : ∀ (h : (dPort l d).bad = false), (((getT l d.k).n : Nat) : Int) = dPortV l d := fun h => by unfold dPortV; rw [if_neg (by rw [h]; simp), dNow_k l d hb]
  revert hV
  unfold portM numM dPort
  rw [dNow_k l d hb]
  by_cases h2 : (getT l d.k).kind = 2
  · rw [if_pos h2, dTake_go d hb (by omega)]
    simp only [h2, decide_true]
    rw [dFail_so]
    simp only [Rs.bind, bareM, bareE]
    by_cases hw : (getT l d.k).w = 0
    · simp only [hw, decide_true, not_true_eq_false, if_false]
      rw [dFail_so]
      by_cases hn : 1 ≤ (getT l d.k).n ∧ (getT l d.k).n ≤ 511
      · rw [if_pos hn, if_pos rfl, decide_eq_true hn, dFail_so]
        exact fun hV => ⟨rfl, rfl, Nat.lt_succ_self _, next_lt hl d.k hk (by omega), hV rfl⟩
      · rw [if_neg hn, if_neg (by decide), decide_eq_false hn, dFail_no _ _ _ rfl]
        exact fun _ => ⟨rfl, rfl, rfl⟩
    · simp only [hw, decide_false, not_false_eq_true, if_true]
      rw [if_neg (by decide), dFail_no _ _ _ rfl, dFail_bad _ _ _ _ rfl]
      exact fun _ => ⟨rfl, rfl, rfl⟩
  · rw [if_neg h2, decide_eq_false h2, dFail_no _ _ _ (dTake_b d hb), dFail_bad (decide ((getT l d.k).w = 0)) _ _ _ rfl, dFail_bad _ _ _ _ rfl]
    exact fun _ => ⟨rfl, rfl, rfl⟩
end
end Go.Proofs.YtkffjjlmoojffaaGreatDoor
