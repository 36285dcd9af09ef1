/-
  WHAT IS PROVED HERE: a part of the proof of the claim's theorem: NetW.
-/
import Derived.Test.YtkffjjlmoojffaaGreatDoorRows
import Derived.Test.YtkffjjlmoojffaaGreatDoorB29
set_option linter.all false
namespace Go.Proofs.YtkffjjlmoojffaaGreatDoor
open Go.RowKit
theorem Rs.bind_ok_of {α β : Type} {r : Rs α} {f : α → Nat → Rs β} {b : β} {k : Nat} (h : r.bind f = .ok b k) : ∃ a k', r = .ok a k' ∧ f a k' = .ok b k := by
  cases r with
  | ok a k' => exact ⟨a, k', rfl, h⟩
  | bad p e => cases h
section
variable {l : List Tok} {s : ByteArray} {k : Nat} {n : Net'}
theorem nameM_eq {x : ByteArray} {k' : Nat} (e : nameM l k = .ok x k') : k' = k + 1 := by
  unfold nameM at e
  split at e
  · cases e; rfl
  · cases e
theorem numM_eq {x : Tok} {k' : Nat} (e : numM l k = .ok x k') : k' = k + 1 := by
  unfold numM at e
  split at e
  · cases e; rfl
  · cases e
theorem bareM_eq {t : Tok} {a b x k' : Nat} {e0 : Int} (e : bareM t k a b e0 = .ok x k') : k' = k := by
  unfold bareM at e
  split at e
  · cases e; rfl
  · cases e
theorem endM_ge {ls : List End'} {a : End'} {k' : Nat} (e : endM l k n ls = .ok a k') : k ≤ k' := by
  unfold endM at e
  obtain ⟨x, k1, h1, e⟩ := Rs.bind_ok_of e
  split at e
  · cases e
  · obtain ⟨u, k2, h2, e⟩ := Rs.bind_ok_of e
    obtain ⟨t, k3, h3, e⟩ := Rs.bind_ok_of e
    obtain ⟨p, k4, h4, e⟩ := Rs.bind_ok_of e
    have := nameM_eq h1; have := wantM_eq h2; have := numM_eq h3; have := bareM_eq h4
    split at e
    · cases e
    · split at e
      · cases e
      · cases e; omega
theorem portsM_ok (hl : TL l s.size) : ∀ (f k : Nat) (ps qs : List Int) (k' : Nat), k < l.length → portsM l f k ps = .ok qs k' → k' < l.length ∧ k ≤ k'
  | 0, k, ps, qs, k', hk, e => by unfold portsM at e; cases e; exact ⟨hk, Nat.le_refl _⟩
  | f + 1, k, ps, qs, k', hk, e => by
    unfold portsM at e
    split at e
    · rename_i hs
      cases e
      exact ⟨want_next hl hk wShut w_ok.2.2.2.1 (by simpa [isM] using hs), Nat.le_succ _⟩
    · obtain ⟨p, k1, h1, e⟩ := Rs.bind_ok_of e
      obtain ⟨u, k2, h2, e⟩ := Rs.bind_ok_of e
      obtain ⟨a1, _, a3⟩ := newPortM_ok hl hk h1
      have a4 := wantM_lt hl a1 wSemi w_ok.2.2.2.2.1 h2
      have a5 := wantM_eq h2
      have := portsM_ok hl f k2 _ qs k' a4 e
      exact ⟨this.1, by omega⟩
theorem nodeM_ok (hl : TL l s.size) (hk : k < l.length) {n' : Net'} {k' : Nat} (e : nodeM l k n = .ok n' k') : k' < l.length ∧ k < k' ∧ n'.names.length = n.names.length + 1 ∧ n'.ports.length = n.ports.length + 1 ∧ n'.links = n.links := by
  unfold nodeM at e
  split at e
  · cases e
  · obtain ⟨u, k1, h1, e⟩ := Rs.bind_ok_of e
    obtain ⟨x, k2, h2, e⟩ := Rs.bind_ok_of e
    have a1 := wantM_lt hl hk wSwitch w_ok.1 h1
    have a2 := nameM_lt hl a1 h2
    have b1 := wantM_eq h1
    have b2 := nameM_eq h2
    split at e
    · cases e
    · obtain ⟨u3, k3, h3, e⟩ := Rs.bind_ok_of e
      obtain ⟨ps, k4, h4, e⟩ := Rs.bind_ok_of e
      have a3 := wantM_lt hl a2 wOpen w_ok.2.2.1 h3
      have b3 := wantM_eq h3
      obtain ⟨a4, b4⟩ := portsM_ok hl _ _ _ _ _ a3 h4
      cases e
      exact ⟨a4, by omega, by simp, by simp, rfl⟩
theorem linkM_ok (hl : TL l s.size) (hk : k < l.length) {ls : List End'} {x : Net' × List End'} {k' : Nat} (e : linkM l k n ls = .ok x k') : k' < l.length ∧ k < k' ∧ x.1.names = n.names ∧ x.1.ports = n.ports ∧ x.1.links.length = n.links.length + 1 ∧ x.2.length = ls.length + 2 := by
  unfold linkM at e
  obtain ⟨u, k1, h1, e⟩ := Rs.bind_ok_of e
  obtain ⟨a, k2, h2, e⟩ := Rs.bind_ok_of e
  obtain ⟨b, k3, h3, e⟩ := Rs.bind_ok_of e
  obtain ⟨u4, k4, h4, e⟩ := Rs.bind_ok_of e
  have a1 := wantM_lt hl hk wLink w_ok.2.1 h1
  have a2 := endM_lt hl a1 h2
  have a3 := endM_lt hl a2 h3
  have a4 := wantM_lt hl a3 wSemi w_ok.2.2.2.2.1 h4
  have b1 := wantM_eq h1
  have b2 := endM_ge h2
  have b3 := endM_ge h3
  have b4 := wantM_eq h4
  cases e
  exact ⟨a4, by omega, rfl, rfl, by simp, by simp⟩
end
end Go.Proofs.YtkffjjlmoojffaaGreatDoor
