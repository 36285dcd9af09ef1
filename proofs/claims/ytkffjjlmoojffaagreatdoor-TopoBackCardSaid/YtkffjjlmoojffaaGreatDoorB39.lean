/-
  WHAT IS PROVED HERE: a part of the proof of the claim's theorem: NtJ.
-/
import Derived.Test.YtkffjjlmoojffaaGreatDoorB36
import Derived.Test.YtkffjjlmoojffaaGreatDoorB38
set_option linter.all false
namespace Go.Proofs.YtkffjjlmoojffaaGreatDoor
def dig3 (p : Nat) : List UInt8 := if p < 10 then [UInt8.ofNat (48 + p)] else if p < 100 then [UInt8.ofNat (48 + p / 10), UInt8.ofNat (48 + p % 10)] else [UInt8.ofNat (48 + p / 100), UInt8.ofNat (48 + p / 10 % 10), UInt8.ofNat (48 + p % 10)]
theorem dec3 (p : Nat) (h : p < 1000) : Lib.decDigits p = dig3 p := by
  unfold dig3
  by_cases h1 : p < 10
  · rw [if_pos h1, Lib.decDigits_one h1]
  · rw [if_neg h1]
    by_cases h2 : p < 100
    · rw [if_pos h2, Lib.decDigits_two h1 h2]
    · rw [if_neg h2, Lib.decDigits, dif_neg h1, Lib.decDigits_two (by omega) (by omega)]
      simp [Nat.div_div_eq_div_mul]
def numOkB (w : ByteArray) (v : Nat) : Bool := decide (1 ≤ w.size) && isDig (byN w 0) && ((List.range w.size).all fun j => isWrd (byN w j)) && plainNum w && decide (valOf 10 w.data.toList = v)
theorem num_all : ∀ p : Nat, p < 512 → numOkB ⟨(dig3 p).toArray⟩ p = true := by decide +kernel
theorem num_ok {p : Int} (h0 : 1 ≤ p) (h1 : p ≤ 511) : (Pc.num (itoaB p)).ok ∧ (valOf 10 (itoaB p).data.toList : Int) = p := by
  obtain ⟨k, rfl⟩ : ∃ k : Nat, p = (k : Int) := ⟨p.toNat, by omega⟩
  have e : itoaB (k : Int) = ⟨(dig3 k).toArray⟩ := by
    unfold itoaB Lib.itoa
    rw [if_neg (by omega), show ((k : Int)).toNat = k by omega, dec3 k (by omega)]
  have h := num_all k (by omega)
  unfold numOkB at h
  simp only [Bool.and_eq_true, decide_eq_true_eq, List.all_eq_true, List.mem_range] at h
  obtain ⟨⟨⟨⟨a1, a2⟩, a3⟩, a4⟩, a5⟩ := h
  rw [e]
  exact ⟨⟨a1, a2, a3, a4⟩, by show ((valOf 10 (dig3 k) : Nat) : Int) = k; exact congrArg _ a5⟩
theorem word_ok {x : ByteArray} (h : nameB x = true) : (Pc.word x).ok := by
  unfold nameB at h
  simp only [Bool.and_eq_true, decide_eq_true_eq, Bool.not_eq_true'] at h
  obtain ⟨⟨⟨⟨h1, h1'⟩, h2⟩, _⟩, h3⟩ := h
  refine ⟨h1, h1', h2, fun j hj => ?_⟩
  unfold wordB at h3
  rw [List.all_eq_true] at h3
  exact h3 j (List.mem_range.2 hj)
def portP (p : Int) : List Pc := [.blk 32, .num (itoaB p), .mk 59]
def swP (x : ByteArray × List Int) : List Pc := [.word wSwitch, .blk 32, .word x.1, .blk 32, .mk 123] ++ x.2.flatMap portP ++ [.blk 32, .mk 125, .blk 10]
def nmOf (n : Net') (e : End') : ByteArray := (n.names[e.sw.toNat]?).getD ByteArray.empty
def lkP (n : Net') (x : End' × End') : List Pc := [.word wLink, .blk 32, .word (nmOf n x.1), .mk 58, .num (itoaB x.1.po), .blk 32, .word (nmOf n x.2), .mk 58, .num (itoaB x.2.po), .mk 59, .blk 10]
def netP (n : Net') : List Pc := (n.names.zip n.ports).flatMap swP ++ n.links.flatMap (lkP n)
theorem txtL : ∀ ps : List Pc, (txt ps).data.toList = ps.flatMap fun p => p.b.data.toList
  | [] => rfl
  | p :: r => by
    show (p.b ++ txt r).data.toList = _
    rw [List.flatMap_cons, ← txtL r]
    simp
theorem sw_txt (x : ByteArray × List Int) : ((swP x).flatMap fun p => p.b.data.toList) = swL x := by
  unfold swP swL portsL headB footB
  rw [List.flatMap_append, List.flatMap_append, List.flatMap_assoc]
  have e : (fun y => (portP y).flatMap fun p => p.b.data.toList) = fun p => (portB p).data.toList := by
    funext p
    unfold portP portB
    simp [Pc.b]
  rw [e]
  simp [Pc.b]
theorem lk_txt (n : Net') (x : End' × End') : ((lkP n x).flatMap fun p => p.b.data.toList) = (linkB n x).data.toList := by
  unfold lkP linkB endB nmOf
  simp [Pc.b]
theorem net_txt (n : Net') : txt (netP n) = ⟨(textL n).toArray⟩ := by
  have h : (txt (netP n)).data.toList = textL n := by
    rw [txtL]
    unfold netP textL swsL linksL
    rw [List.flatMap_append, List.flatMap_assoc, List.flatMap_assoc]
    congr 1
    · congr 1; funext x; exact sw_txt x
    · congr 1; funext x; exact lk_txt n x
  apply ByteArray.ext
  rw [← h]
def lastOk (a : List Pc) : Prop := ∀ c, a.getLast? = some c → c.isW = false
theorem good_app : ∀ (a b : List Pc), good a → good b → lastOk a → good (a ++ b)
  | [], b, _, hb, _ => hb
  | [p], b, ha, hb, hl => ⟨ha.1, fun h => (by have := hl p rfl; rw [this] at h; cases h), hb⟩
  | p :: q :: r, b, ha, hb, hl => ⟨ha.1, fun h => ha.2.1 h, good_app (q :: r) b ha.2.2 hb fun c hc => hl c (by rw [List.getLast?_cons_cons]; exact hc)⟩
theorem last_app (a b : List Pc) (ha : lastOk a) (hb : lastOk b) : lastOk (a ++ b) := by
  intro c hc
  cases b with
  | nil => rw [List.append_nil] at hc; exact ha c hc
  | cons x r =>
    refine hb c ?_
    rw [List.getLast?_append] at hc
    cases h : (x :: r).getLast? with
    | none => simp at h
    | some y => rw [h] at hc; simpa using hc
theorem good_flat {α : Type} (f : α → List Pc) : ∀ l : List α, (∀ x ∈ l, good (f x) ∧ lastOk (f x)) → good (l.flatMap f) ∧ lastOk (l.flatMap f)
  | [], _ => ⟨trivial, fun c h => by cases h⟩
  | x :: l, h => by
    obtain ⟨h1, h2⟩ := h x (List.mem_cons_self ..)
    obtain ⟨h3, h4⟩ := good_flat f l fun y hy => h y (List.mem_cons_of_mem _ hy)
    rw [List.flatMap_cons]
    exact ⟨good_app _ _ h1 h3 h2, last_app _ _ h2 h4⟩
theorem blank32 : (Pc.blk 32).ok := by show isBlank 32 = true; decide
theorem blank10 : (Pc.blk 10).ok := by show isBlank 10 = true; decide
theorem wsw_name : nameB wSwitch = true := by decide +kernel
theorem wlk_name : nameB wLink = true := by decide +kernel
theorem port_good {p : Int} (h0 : 1 ≤ p) (h1 : p ≤ 511) : good (portP p) ∧ lastOk (portP p) := by
  refine ⟨⟨blank32, fun h => (by cases h), (num_ok h0 h1).1, fun _ => rfl, Or.inl rfl, fun h => (by cases h), trivial⟩, fun c hc => ?_⟩
  cases hc; rfl
theorem sw_good {x : ByteArray × List Int} (hx : nameB x.1 = true) (hp : ∀ p ∈ x.2, 1 ≤ p ∧ p ≤ 511) : good (swP x) ∧ lastOk (swP x) := by
  have h1 : good [Pc.word wSwitch, .blk 32, .word x.1, .blk 32, .mk 123] := ⟨word_ok wsw_name, fun _ => rfl, blank32, fun h => (by cases h), word_ok hx, fun _ => rfl, blank32, fun h => (by cases h), Or.inr (Or.inr (Or.inl rfl)), fun h => (by cases h), trivial⟩
  have l1 : lastOk [Pc.word wSwitch, .blk 32, .word x.1, .blk 32, .mk 123] := fun c hc => by cases hc; rfl
  have h3 : good [Pc.blk 32, .mk 125, .blk 10] := ⟨blank32, fun h => (by cases h), Or.inr (Or.inr (Or.inr rfl)), fun h => (by cases h), blank10, fun h => (by cases h), trivial⟩
  have l3 : lastOk [Pc.blk 32, .mk 125, .blk 10] := fun c hc => by cases hc; rfl
  obtain ⟨h2, l2⟩ := good_flat portP x.2 fun p hm => port_good (hp p hm).1 (hp p hm).2
  exact ⟨good_app _ _ (good_app _ _ h1 h2 l1) h3 (last_app _ _ l1 l2), last_app _ _ (last_app _ _ l1 l2) l3⟩
theorem lk_good {n : Net'} {x : End' × End'} (h1 : nameB (nmOf n x.1) = true) (h2 : nameB (nmOf n x.2) = true) (p1 : 1 ≤ x.1.po) (p2 : x.1.po ≤ 511) (p3 : 1 ≤ x.2.po) (p4 : x.2.po ≤ 511) : good (lkP n x) ∧ lastOk (lkP n x) := by
  refine ⟨⟨word_ok wlk_name, fun _ => rfl, blank32, fun h => (by cases h), word_ok h1, fun _ => rfl, Or.inr (Or.inl rfl), fun h => (by cases h), (num_ok p1 p2).1, fun _ => rfl, blank32, fun h => (by cases h), word_ok h2, fun _ => rfl, Or.inr (Or.inl rfl), fun h => (by cases h), (num_ok p3 p4).1, fun _ => rfl, Or.inl rfl, fun h => (by cases h), blank10, fun h => (by cases h), trivial⟩, fun c hc => ?_⟩
  cases hc; rfl
theorem nmsMay_all : ∀ (l done : List ByteArray), nmsMay done l = true → ∀ x ∈ l, nameB x = true
  | [], _, _, x, h => by cases h
  | y :: l, done, hm, x, h => by
    rw [nmsMay, Bool.and_eq_true, Bool.and_eq_true] at hm
    rcases List.mem_cons.1 h with rfl | h
    · exact hm.1.1
    · exact nmsMay_all l _ hm.2 x h
theorem netMay_names {n : Net'} (h : netMay n = true) : nmsMay [] n.names = true ∧ endsMay n [] (flat n.links) = true := by
  unfold netMay at h
  simp only [Bool.and_eq_true, decide_eq_true_eq] at h
  exact ⟨h.1.1.1.2, h.2⟩
theorem nmOf_name {n : Net'} (h : netMay n = true) {e : End'} (he : thereF n e = true) : nameB (nmOf n e) = true := by
  obtain ⟨h1, h2, _, _⟩ := thereF_in (mayN h) he
  obtain ⟨x, hx⟩ : ∃ x, n.names[e.sw.toNat]? = some x := ⟨_, List.getElem?_eq_getElem (by omega)⟩
  unfold nmOf
  rw [hx]
  exact nmsMay_all _ _ (netMay_names h).1 x (List.mem_of_getElem? hx)
theorem net_good {n : Net'} (h : netMay n = true) : good (netP n) := by
  have hm := mayN h
  obtain ⟨h1, l1⟩ := good_flat swP (n.names.zip n.ports) fun x hx => by
    obtain ⟨i, hi⟩ := List.mem_iff_getElem?.1 hx
    rw [List.getElem?_zip_eq_some] at hi
    exact sw_good (nmsMay_all _ _ (netMay_names h).1 x.1 (List.mem_of_getElem? hi.1)) (portsMay_at hm.ps hi.2).2.2
  obtain ⟨h2, _⟩ := good_flat (lkP n) n.links fun x hx => by
    obtain ⟨e1, e2⟩ := hm.ends x hx
    obtain ⟨_, _, u3, u4⟩ := thereF_in hm e1
    obtain ⟨_, _, r3, r4⟩ := thereF_in hm e2
    exact lk_good (nmOf_name h e1) (nmOf_name h e2) u3 u4 r3 r4
  exact good_app _ _ h1 h2 l1
end Go.Proofs.YtkffjjlmoojffaaGreatDoor
