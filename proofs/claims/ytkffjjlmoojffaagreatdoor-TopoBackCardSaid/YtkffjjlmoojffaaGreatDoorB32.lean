/-
  WHAT IS PROVED HERE: a part of the proof of the claim's theorem: NetMy.
-/
import Derived.Test.YtkffjjlmoojffaaGreatDoorB31
set_option linter.all false
namespace Go.Proofs.YtkffjjlmoojffaaGreatDoor
def inB (done : List ByteArray) (x : ByteArray) : Bool := done.any fun y => decide (y = x)
theorem inB_not {done : List ByteArray} {x : ByteArray} (h : ¬ x ∈ done) : inB done x = false := by
  unfold inB
  rw [List.any_eq_false]
  intro y hy e
  rw [of_decide_eq_true e] at hy
  exact h hy
def nmsMay : List ByteArray → List ByteArray → Bool
  | _, [] => true
  | done, x :: r => nameB x && !inB done x && nmsMay (done ++ [x]) r
def psMay : Int → List Int → Bool
  | _, [] => true
  | m, p :: r => decide (m ≤ p) && decide (p ≤ 511) && psMay (p + 1) r
def endsMay (n : Net') : List End' → List End' → Bool
  | _, [] => true
  | done, e :: r => thereF n e && !decide (e ∈ done) && endsMay n (done ++ [e]) r
def portsMay (ports : List (List Int)) : Bool := ports.all fun ps => decide (ps.length ≤ 8) && psMay 1 ps
def netMay (n : Net') : Bool := decide (n.names.length ≤ 8) && nmsMay [] n.names && decide (n.ports.length = n.names.length) && portsMay n.ports && endsMay n [] (flat n.links)
theorem nmsMay_add : ∀ (l done : List ByteArray) (x : ByteArray), nmsMay done (l ++ [x]) = (nmsMay done l && (nameB x && !inB (done ++ l) x))
  | [], done, x => by simp [nmsMay]
  | y :: l, done, x => by
    rw [List.cons_append, nmsMay, nmsMay, nmsMay_add l (done ++ [y]) x, List.append_assoc, List.singleton_append]
    cases (nameB y && !inB done y) <;> simp
theorem endsMay_add (n : Net') : ∀ (l done : List End') (x : End'), endsMay n done (l ++ [x]) = (endsMay n done l && (thereF n x && !decide (x ∈ done ++ l)))
  | [], done, x => by simp [endsMay]
  | y :: l, done, x => by
    rw [List.cons_append, endsMay, endsMay, endsMay_add n l (done ++ [y]) x, List.append_assoc, List.singleton_append]
    cases (thereF n y && !decide (y ∈ done)) <;> simp
theorem psMay_of : ∀ (l : List Int) (m : Int), l.Pairwise (· < ·) → (∀ p ∈ l, m ≤ p ∧ p ≤ 511) → psMay m l = true
  | [], _, _, _ => rfl
  | p :: l, m, h, hb => by
    rw [List.pairwise_cons] at h
    have hp := hb p (List.mem_cons_self ..)
    rw [psMay, decide_eq_true hp.1, decide_eq_true hp.2, Bool.true_and, Bool.true_and]
    exact psMay_of l (p + 1) h.2 fun q hq => ⟨by have := h.1 q hq; omega, (hb q (List.mem_cons_of_mem _ hq)).2⟩
theorem findF_not {names : List ByteArray} {x : ByteArray} (h : findF names x < 0) : ¬ x ∈ names := by
  unfold findF at h
  intro hx
  cases hf : names.findIdx? fun y => decide (y = x) with
  | none =>
    rw [List.findIdx?_eq_none_iff] at hf
    have := hf x hx
    simp at this
  | some i => rw [hf] at h; simp only at h; omega
section
variable {l : List Tok}
theorem newPortM_is {k : Nat} {out : List Int} {p : Int} {k' : Nat} (h : newPortM l k out = .ok p k') : out.length < 8 ∧ 1 ≤ p ∧ p ≤ 511 ∧ ¬ p ∈ out := by
  unfold newPortM at h
  obtain ⟨t, k1, h1, h⟩ := Rs.bind_ok_of h
  split at h
  · cases h
  · rename_i h8
    obtain ⟨n, k2, h2, h⟩ := Rs.bind_ok_of h
    split at h
    · cases h
    · rename_i hm
      cases h
      have h3 : portM l k = .ok n k' := by unfold portM; rw [h1]; exact h2
      have := portM_range h3
      exact ⟨by simpa using h8, by omega, by omega, hm⟩
theorem portsM_is : ∀ (f k : Nat) (out qs : List Int) (k' : Nat), PsOk out → out.length ≤ 8 → portsM l f k out = .ok qs k' → PsOk qs ∧ qs.length ≤ 8
  | 0, k, out, qs, k', h1, h2, h => by unfold portsM at h; cases h; exact ⟨h1, h2⟩
  | f + 1, k, out, qs, k', h1, h2, h => by
    unfold portsM at h
    split at h
    · cases h; exact ⟨h1, h2⟩
    · obtain ⟨p, k1, e1, h⟩ := Rs.bind_ok_of h
      obtain ⟨u, k2, e2, h⟩ := Rs.bind_ok_of h
      have hp := newPortM_is e1
      exact portsM_is f k2 _ qs k' (h1.add hp.2.1 hp.2.2.1 hp.2.2.2) (by rw [List.length_append, List.length_singleton]; omega) h
theorem sortF_may {qs : List Int} (h : PsOk qs) : psMay 1 (sortF qs) = true := by
  rw [sortF_K qs h]
  obtain ⟨h1, h2⟩ := sortK_rise qs 511
  exact psMay_of _ _ h1 fun p hp => ((h2 p).1 hp).2
theorem sortF_len (qs : List Int) : (sortF qs).length = qs.length := List.length_mergeSort qs
def Sw (n : Net') : Prop := n.names.length ≤ 8 ∧ nmsMay [] n.names = true ∧ n.ports.length = n.names.length ∧ portsMay n.ports = true
theorem nodeM_may {k : Nat} {n n' : Net'} {k' : Nat} (hn : Sw n) (h : nodeM l k n = .ok n' k') : Sw n' ∧ n'.links = n.links := by
  unfold nodeM at h
  split at h
  · cases h
  · rename_i h8
    obtain ⟨u, k1, -, h⟩ := Rs.bind_ok_of h
    obtain ⟨x, k2, hx, h⟩ := Rs.bind_ok_of h
    split at h
    · cases h
    · rename_i hf
      obtain ⟨u, k3, -, h⟩ := Rs.bind_ok_of h
      obtain ⟨ps, k4, hp, h⟩ := Rs.bind_ok_of h
      cases h
      have hp := portsM_is _ _ _ _ _ ⟨fun p h => by (cases h), List.nodup_nil⟩ (Nat.zero_le _) hp
      have hxn : nameB x = true := by
        unfold nameM at hx
        split at hx
        · cases hx; assumption
        · cases hx
      have hnx := findF_not (show findF n.names x < 0 by simpa using hf)
      obtain ⟨a1, a2, a3, a4⟩ := hn
      refine ⟨⟨by rw [List.length_append, List.length_singleton]; show n.names.length + 1 ≤ 8; omega, ?_, by simp [a3], ?_⟩, rfl⟩
      · show nmsMay [] (n.names ++ [x]) = true
        rw [nmsMay_add, a2, hxn, List.nil_append, inB_not hnx]; rfl
      · show portsMay (n.ports ++ [sortF ps]) = true
        unfold portsMay at a4 ⊢
        rw [List.all_append, a4]
        simp [sortF_len, hp.2, sortF_may hp.1]
theorem nodesM_may : ∀ (f k : Nat) (n n' : Net') (k' : Nat), Sw n → nodesM l f k n = .ok n' k' → Sw n' ∧ n'.links = n.links
  | 0, k, n, n', k', hn, h => by unfold nodesM at h; cases h; exact ⟨hn, rfl⟩
  | f + 1, k, n, n', k', hn, h => by
    unfold nodesM at h
    split at h
    · obtain ⟨m, k1, h1, h⟩ := Rs.bind_ok_of h
      have a := nodeM_may hn h1
      have b := nodesM_may f k1 m n' k' a.1 h
      exact ⟨b.1, b.2.trans a.2⟩
    · cases h; exact ⟨hn, rfl⟩
theorem endM_is {k : Nat} {n : Net'} {ls : List End'} {e : End'} {k' : Nat} (h : endM l k n ls = .ok e k') : thereF n e = true ∧ ¬ e ∈ ls := by
  unfold endM at h
  obtain ⟨x, k1, -, h⟩ := Rs.bind_ok_of h
  split at h
  · cases h
  · obtain ⟨u, k2, -, h⟩ := Rs.bind_ok_of h
    obtain ⟨t, k3, -, h⟩ := Rs.bind_ok_of h
    obtain ⟨p, k4, -, h⟩ := Rs.bind_ok_of h
    split at h
    · cases h
    · rename_i ht
      split at h
      · cases h
      · rename_i hm
        cases h
        exact ⟨by simpa using ht, hm⟩
theorem thereF_names {n m : Net'} (h1 : m.names = n.names) (h2 : m.ports = n.ports) (e : End') : thereF m e = thereF n e := by unfold thereF; rw [h1, h2]
theorem endsMay_names {n m : Net'} (h1 : m.names = n.names) (h2 : m.ports = n.ports) : ∀ (l done : List End'), endsMay m done l = endsMay n done l
  | [], _ => rfl
  | e :: l, done => by rw [endsMay, endsMay, thereF_names h1 h2, endsMay_names h1 h2 l]
theorem linkM_may {k : Nat} {n : Net'} {x : Net' × List End'} {k' : Nat} (hn : endsMay n [] (flat n.links) = true) (h : linkM l k n (flat n.links) = .ok x k') : endsMay x.1 [] (flat x.1.links) = true ∧ x.2 = flat x.1.links ∧ x.1.names = n.names ∧ x.1.ports = n.ports := by
  unfold linkM at h
  obtain ⟨u, k1, -, h⟩ := Rs.bind_ok_of h
  obtain ⟨a, k2, ha, h⟩ := Rs.bind_ok_of h
  obtain ⟨b, k3, hb, h⟩ := Rs.bind_ok_of h
  obtain ⟨u, k4, -, h⟩ := Rs.bind_ok_of h
  cases h
  have ha := endM_is ha
  have hb := endM_is hb
  refine ⟨?_, (flat_add _ _ _).symm, rfl, rfl⟩
  show endsMay ⟨n.names, n.ports, n.links ++ [(a, b)]⟩ [] (flat (n.links ++ [(a, b)])) = true
  rw [endsMay_names (n := n) (m := ⟨n.names, n.ports, n.links ++ [(a, b)]⟩) rfl rfl, flat_add, show flat n.links ++ [a, b] = (flat n.links ++ [a]) ++ [b] by simp, endsMay_add, endsMay_add, hn, ha.1, hb.1]
  rw [List.nil_append, List.nil_append, decide_eq_false ha.2, decide_eq_false hb.2]
  rfl
theorem linksM_may : ∀ (f k : Nat) (n n' : Net') (k' : Nat), endsMay n [] (flat n.links) = true → linksM l f k n (flat n.links) = .ok n' k' → endsMay n' [] (flat n'.links) = true ∧ n'.names = n.names ∧ n'.ports = n.ports
  | 0, k, n, n', k', hn, h => by unfold linksM at h; cases h; exact ⟨hn, rfl, rfl⟩
  | f + 1, k, n, n', k', hn, h => by
    unfold linksM at h
    split at h
    · cases h; exact ⟨hn, rfl, rfl⟩
    · obtain ⟨x, k1, h1, h⟩ := Rs.bind_ok_of h
      obtain ⟨a1, a2, a3, a4⟩ := linkM_may hn h1
      rw [a2] at h
      obtain ⟨b1, b2, b3⟩ := linksM_may f k1 x.1 n' k' a1 h
      exact ⟨b1, b2.trans a3, b3.trans a4⟩
theorem allM_may {n : Net'} {k : Nat} (h : allM l = .ok n k) : netMay n = true := by
  unfold allM at h
  obtain ⟨m, k1, h1, h⟩ := Rs.bind_ok_of h
  obtain ⟨⟨s1, s2, s3, s4⟩, hl⟩ := nodesM_may _ _ _ _ _ (show Sw ⟨[], [], []⟩ from ⟨Nat.zero_le _, rfl, rfl, rfl⟩) h1
  have hl : m.links = [] := hl
  have hf : flat m.links = [] := by rw [hl]; rfl
  rw [← hf] at h
  obtain ⟨b1, b2, b3⟩ := linksM_may _ _ _ _ _ (by rw [hf]; rfl) h
  unfold netMay
  rw [b1, b2, b3, decide_eq_true s1, s2, decide_eq_true s3, s4]
  rfl
end
end Go.Proofs.YtkffjjlmoojffaaGreatDoor
