/-
  WHAT IS PROVED HERE: a part of the proof of the claim's theorem: NtL.
-/
import Derived.Test.YtkffjjlmoojffaaGreatDoorB43
import Derived.Test.YtkffjjlmoojffaaGreatDoorB44
set_option linter.all false
namespace Go.Proofs.YtkffjjlmoojffaaGreatDoor
open Go.RowKit
theorem flat_bound {α : Type} (f : α → List UInt8) (b : Nat) : ∀ l : List α, (∀ x ∈ l, (f x).length ≤ b) → (l.flatMap f).length ≤ b * l.length
  | [], _ => Nat.zero_le _
  | x :: l, h => by
    have h1 := h x (List.mem_cons_self ..)
    have h2 := flat_bound f b l fun y hy => h y (List.mem_cons_of_mem _ hy)
    rw [List.flatMap_cons, List.length_append, List.length_cons, Nat.mul_add]
    omega
theorem text_size {n : Net'} (hm : netMay n = true) (hz : ∀ x ∈ n.names, x.size ≤ 40) (hl : n.links.length ≤ 60) : (txt (netP n)).size ≤ 65536 := by
  have mm := mayN hm
  rw [net_txt]
  show (textL n).toArray.size ≤ 65536
  have h1 : (swsL (n.names.zip n.ports)).length ≤ 300 * (n.names.zip n.ports).length := flat_bound swL 300 _ fun x hx => by
    obtain ⟨i, hi⟩ := List.mem_iff_getElem?.1 hx
    rw [List.getElem?_zip_eq_some] at hi
    obtain ⟨h8, _, hin⟩ := portsMay_at mm.ps hi.2
    have a := headB_size (hz x.1 (List.mem_of_getElem? hi.1))
    have b : (portsL x.2).length ≤ 23 * x.2.length := flat_bound _ 23 _ fun p hp => by rw [toList_size]; exact portB_size (hin p hp).1 (hin p hp).2
    unfold swL
    rw [List.length_append, List.length_append, toList_size]
    show _ + _ + 3 ≤ 300
    omega
  have h2 : (linksL n n.links).length ≤ 132 * n.links.length := flat_bound _ 132 _ fun x hx => by
    obtain ⟨e1, e2⟩ := mm.ends x hx
    obtain ⟨_, _, u3, u4⟩ := thereF_in mm e1
    obtain ⟨_, _, r3, r4⟩ := thereF_in mm e2
    rw [toList_size]
    exact linkB_size (endB_size hz u3 u4) (endB_size hz r3 r4)
  have h3 : (n.names.zip n.ports).length ≤ 8 := by rw [List.length_zip]; have := mm.a; omega
  unfold textL
  rw [List.size_toArray, List.length_append]
  omega
theorem readM_bad {s : ByteArray} {p : Nat} {E : Int} (h : readM s = .bad p E) : ¬ E = 0 := by
  unfold readM at h
  split at h
  · rename_i h0
    have hA := ag_all (lexR_tl s h0)
    rw [h] at hA
    obtain ⟨a1, a2, a3⟩ := hA
    have := (fo_all (lexR_tl s h0) a1).2
    rw [a3] at this
    exact this
  · rename_i h0
    cases h
    exact h0
theorem ends_nodup (n : Net') : ∀ (l done : List End'), endsMay n done l = true → l.Nodup ∧ ∀ e ∈ l, ¬ e ∈ done
  | [], _, _ => ⟨List.nodup_nil, fun e h => by cases h⟩
  | x :: l, done, h => by
    rw [endsMay, Bool.and_eq_true, Bool.and_eq_true] at h
    obtain ⟨h1, h2⟩ := ends_nodup n l _ h.2
    have hx : ¬ x ∈ done := by simpa using h.1.2
    refine ⟨List.nodup_cons.2 ⟨fun hm => h2 x hm (List.mem_append_right _ (List.mem_cons_self ..)), h1⟩, fun e he => ?_⟩
    rcases List.mem_cons.1 he with rfl | he
    · exact hx
    · exact fun hd => h2 e he (List.mem_append_left _ hd)
theorem next_back : ∀ (links : List (End' × End')) (e t : End'), (flat links).Nodup → nextF links e = some t → t ∈ flat links ∧ nextF links t = some e ∧ ¬ t = e
  | [], e, t, _, h => by cases h
  | (a, b) :: r, e, t, hn, h => by
    have ef : flat ((a, b) :: r) = a :: b :: flat r := by simp [flat]
    rw [ef] at hn ⊢
    rw [List.nodup_cons, List.nodup_cons] at hn
    obtain ⟨ha, hb, hr⟩ := hn
    have hab : ¬ a = b := fun e => ha (by rw [e]; exact List.mem_cons_self ..)
    unfold nextF at h
    by_cases h1 : a = e
    · rw [if_pos h1] at h
      cases h
      refine ⟨List.mem_cons_of_mem _ (List.mem_cons_self ..), ?_, fun x => hab (h1.trans x.symm)⟩
      unfold nextF
      rw [if_neg hab, if_pos rfl, h1]
    · rw [if_neg h1] at h
      by_cases h2 : b = e
      · rw [if_pos h2] at h
        cases h
        refine ⟨List.mem_cons_self .., ?_, fun x => h1 x⟩
        unfold nextF
        rw [if_pos rfl, h2]
      · rw [if_neg h2] at h
        obtain ⟨x1, x2, x3⟩ := next_back r e t hr h
        refine ⟨List.mem_cons_of_mem _ (List.mem_cons_of_mem _ x1), ?_, x3⟩
        unfold nextF
        rw [if_neg (fun q => ha (by rw [q]; exact List.mem_cons_of_mem _ x1)), if_neg (fun q => hb (by rw [q]; exact x1)), x2]
theorem next_law {n : Net'} (hm : netMay n = true) {e : End'} (he : thereF n e = true) :
    ∃ (t : End') (L : Bool), nextV (thereF n e) n.links e = (t, true, L) ∧ (L = true → nextV (thereF n t) n.links t = (e, true, true) ∧ ¬ t = e) := by
  rw [he]
  unfold nextV
  rw [if_pos rfl]
  cases h : nextF n.links e with
  | none => exact ⟨⟨0, 0⟩, false, rfl, fun x => by cases x⟩
  | some t =>
    have h5 := (netMay_names hm).2
    obtain ⟨x1, x2, x3⟩ := next_back n.links e t (ends_nodup n _ _ h5).1 h
    refine ⟨t, true, rfl, fun _ => ⟨?_, x3⟩⟩
    rw [endsMay_there n _ _ h5 t x1, if_pos rfl, x2]
theorem there_port {n : Net'} (hm : netMay n = true) {i : Nat} {ps : List Int} (hi : n.ports[i]? = some ps) {p : Int} (hp : p ∈ ps) : thereF n ⟨(i : Int), p⟩ = true := by
  have mm := mayN hm
  have hlt := (List.getElem?_eq_some_iff.1 hi).1
  have := mm.p
  unfold thereF
  simp only [Bool.and_eq_true, decide_eq_true_eq]
  refine ⟨⟨⟨by omega, by omega⟩, by omega⟩, ?_⟩
  rw [show ((i : Int)).toNat = i by omega, hi]
  exact hp
theorem great_not {n : Net'} (h : greatN n = false) : (∀ x ∈ n.names, x.size ≤ 40) ∧ n.names.length ≤ 12 ∧ n.ports.length ≤ 12 ∧ n.links.length ≤ 60 := by
  unfold greatN at h
  simp only [Bool.or_eq_false_iff, decide_eq_false_iff_not, List.any_eq_false] at h
  obtain ⟨⟨⟨⟨h1, h2⟩, h3⟩, h4⟩, h5⟩ := h
  exact ⟨fun x hx => by have := h1 x hx; simp only [decide_eq_true_eq] at this; omega, by omega, by omega, by omega⟩
theorem own_cap {α : Type} {w : World} {base : Nat} {e : TypeId} {C : Nat} {f : α → List Value} {v : Value} {l : List α} (h : Own w base e C f v l) : ∀ p m c, v = .slice p m c → m ≤ c := by
  intro p m c hv
  rcases h.2 with ⟨h1, h0⟩ | ⟨g, cap, cur, h1, _, _, h3, _⟩
  · rw [h1] at hv; cases hv; exact Nat.le_refl _
  · rw [h1] at hv; cases hv; exact h3
theorem NI.netO {base : Nat} {W : World} {sw po li : Value} {pvs : List Sl3} {n : Net'} (h : NI base W sw po li pvs n) (b1 : n.names.length ≤ 281474976710656) (b2 : n.ports.length ≤ 281474976710656) (b3 : n.links.length ≤ 281474976710656) : NetO W sw po li pvs n :=
  h.netAt.any (own_cap h.sw) b1 b2 b3
end Go.Proofs.YtkffjjlmoojffaaGreatDoor
