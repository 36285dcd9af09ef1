/-
  WHAT IS PROVED HERE: a part of the proof of the claim's theorem: NetMy; NetLx.
-/
import Derived.Test.YtkffjjlmoojffaaGreatDoorM38
import Derived.Test.YtkffjjlmoojffaaGreatDoorRows
import Derived.Test.YtkffjjlmoojffaaGreatDoorM42
set_option linter.all false
namespace Go.Proofs.YtkffjjlmoojffaaGreatDoor
def inB (done : List ByteArray) (x : ByteArray) : Bool := done.any fun y => decide (y = x)
theorem inB_not {done : List ByteArray} {x : ByteArray} (h : ¬ x ∈ done) : inB done x = false := by
  unfold inB
  rw [List.any_eq_false]
  intro y hy e
  rw [of_decide_eq_true e] at hy
  exact h hy
def nmsMay : List ByteArray → List ByteArray → Bool
  | _, [] => true
  | done, x :: r => nameB x && !inB done x && nmsMay (done ++ [x]) r
def psMay : Int → List Int → Bool
  | _, [] => true
  | m, p :: r => decide (m ≤ p) && decide (p ≤ 511) && psMay (p + 1) r
def endsMay (n : Net') : List End' → List End' → Bool
  | _, [] => true
  | done, e :: r => thereF n e && !decide (e ∈ done) && endsMay n (done ++ [e]) r
def portsMay (ports : List (List Int)) : Bool := ports.all fun ps => decide (ps.length ≤ 8) && psMay 1 ps
def netMay (n : Net') : Bool := decide (n.names.length ≤ 8) && nmsMay [] n.names && decide (n.ports.length = n.names.length) && portsMay n.ports && endsMay n [] (flat n.links)
theorem nmsMay_add : ∀ (l done : List ByteArray) (x : ByteArray), nmsMay done (l ++ [x]) = (nmsMay done l && (nameB x && !inB (done ++ l) x))
  | [], done, x => by simp [nmsMay]
  | y :: l, done, x => by
    rw [List.cons_append, nmsMay, nmsMay, nmsMay_add l (done ++ [y]) x, List.append_assoc, List.singleton_append]
    cases (nameB y && !inB done y) <;> simp
theorem endsMay_add (n : Net') : ∀ (l done : List End') (x : End'), endsMay n done (l ++ [x]) = (endsMay n done l && (thereF n x && !decide (x ∈ done ++ l)))
  | [], done, x => by simp [endsMay]
  | y :: l, done, x => by
    rw [List.cons_append, endsMay, endsMay, endsMay_add n l (done ++ [y]) x, List.append_assoc, List.singleton_append]
    cases (thereF n y && !decide (y ∈ done)) <;> simp
theorem psMay_of : ∀ (l : List Int) (m : Int), l.Pairwise (· < ·) → (∀ p ∈ l, m ≤ p ∧ p ≤ 511) → psMay m l = true
  | [], _, _, _ => rfl
  | p :: l, m, h, hb => by
    rw [List.pairwise_cons] at h
    have hp := hb p (List.mem_cons_self ..)
    rw [psMay, decide_eq_true hp.1, decide_eq_true hp.2, Bool.true_and, Bool.true_and]
    exact psMay_of l (p + 1) h.2 fun q hq => ⟨by have := h.1 q hq; omega, (hb q (List.mem_cons_of_mem _ hq)).2⟩
theorem findF_not {names : List ByteArray} {x : ByteArray} (h : findF names x < 0) : ¬ x ∈ names := by
  unfold findF at h
  intro hx
  cases hf : names.findIdx? fun y => decide (y = x) with
  | none =>
    rw [List.findIdx?_eq_none_iff] at hf
    have := hf x hx
    simp at this
  | some i => rw [hf] at h; simp only at h; omega
section
variable {l : List Tok}
theorem newPortM_is {k : Nat} {out : List Int} {p : Int} {k' : Nat} (h : newPortM l k out = .ok p k') : out.length < 8 ∧ 1 ≤ p ∧ p ≤ 511 ∧ ¬ p ∈ out := by
  unfold newPortM at h
  obtain ⟨t, k1, h1, h⟩ := Rs.bind_ok_of h
  split at h
  · cases h
  · rename_i h8
    obtain ⟨n, k2, h2, h⟩ := Rs.bind_ok_of h
    split at h
    · cases h
    · rename_i hm
      cases h
      have h3 : portM l k = .ok n k' := by unfold portM; rw [h1]; exact h2
      have := portM_range h3
      exact ⟨by simpa using h8, by omega, by omega, hm⟩
theorem portsM_is : ∀ (f k : Nat) (out qs : List Int) (k' : Nat), PsOk out → out.length ≤ 8 → portsM l f k out = .ok qs k' → PsOk qs ∧ qs.length ≤ 8
  | 0, k, out, qs, k', h1, h2, h => by unfold portsM at h; cases h; exact ⟨h1, h2⟩
  | f + 1, k, out, qs, k', h1, h2, h => by
    unfold portsM at h
    split at h
    · cases h; exact ⟨h1, h2⟩
    · obtain ⟨p, k1, e1, h⟩ := Rs.bind_ok_of h
      obtain ⟨u, k2, e2, h⟩ := Rs.bind_ok_of h
      have hp := newPortM_is e1
      exact portsM_is f k2 _ qs k' (h1.add hp.2.1 hp.2.2.1 hp.2.2.2) (by rw [List.length_append, List.length_singleton]; omega) h
theorem sortF_may {qs : List Int} (h : PsOk qs) : psMay 1 (sortF qs) = true := by
  rw [sortF_K qs h]
  obtain ⟨h1, h2⟩ := sortK_rise qs 511
  exact psMay_of _ _ h1 fun p hp => ((h2 p).1 hp).2
theorem sortF_len (qs : List Int) : (sortF qs).length = qs.length := List.length_mergeSort qs
def Sw (n : Net') : Prop := n.names.length ≤ 8 ∧ nmsMay [] n.names = true ∧ n.ports.length = n.names.length ∧ portsMay n.ports = true
theorem nodeM_may {k : Nat} {n n' : Net'} {k' : Nat} (hn : Sw n) (h : nodeM l k n = .ok n' k') : Sw n' ∧ n'.links = n.links := by
  unfold nodeM at h
  split at h
  · cases h
  · rename_i h8
    obtain ⟨u, k1, -, h⟩ := Rs.bind_ok_of h
    obtain ⟨x, k2, hx, h⟩ := Rs.bind_ok_of h
    split at h
    · cases h
    · rename_i hf
      obtain ⟨u, k3, -, h⟩ := Rs.bind_ok_of h
      obtain ⟨ps, k4, hp, h⟩ := Rs.bind_ok_of h
      cases h
      have hp := portsM_is _ _ _ _ _ ⟨fun p h => by (cases h), List.nodup_nil⟩ (Nat.zero_le _) hp
      have hxn : nameB x = true := by
        unfold nameM at hx
        split at hx
        · cases hx; assumption
        · cases hx
      have hnx := findF_not (show findF n.names x < 0 by simpa using hf)
      obtain ⟨a1, a2, a3, a4⟩ := hn
      refine ⟨⟨by rw [List.length_append, List.length_singleton]; show n.names.length + 1 ≤ 8; omega, ?_, by simp [a3], ?_⟩, rfl⟩
      · show nmsMay [] (n.names ++ [x]) = true
        rw [nmsMay_add, a2, hxn, List.nil_append, inB_not hnx]; rfl
      · show portsMay (n.ports ++ [sortF ps]) = true
        unfold portsMay at a4 ⊢
        rw [List.all_append, a4]
        simp [sortF_len, hp.2, sortF_may hp.1]
theorem nodesM_may : ∀ (f k : Nat) (n n' : Net') (k' : Nat), Sw n → nodesM l f k n = .ok n' k' → Sw n' ∧ n'.links = n.links
  | 0, k, n, n', k', hn, h => by unfold nodesM at h; cases h; exact ⟨hn, rfl⟩
  | f + 1, k, n, n', k', hn, h => by
    unfold nodesM at h
    split at h
    · obtain ⟨m, k1, h1, h⟩ := Rs.bind_ok_of h
      have a := nodeM_may hn h1
      have b := nodesM_may f k1 m n' k' a.1 h
      exact ⟨b.1, b.2.trans a.2⟩
    · cases h; exact ⟨hn, rfl⟩
theorem endM_is {k : Nat} {n : Net'} {ls : List End'} {e : End'} {k' : Nat} (h : endM l k n ls = .ok e k') : thereF n e = true ∧ ¬ e ∈ ls := by
  unfold endM at h
  obtain ⟨x, k1, -, h⟩ := Rs.bind_ok_of h
  split at h
  · cases h
  · obtain ⟨u, k2, -, h⟩ := Rs.bind_ok_of h
    obtain ⟨t, k3, -, h⟩ := Rs.bind_ok_of h
    obtain ⟨p, k4, -, h⟩ := Rs.bind_ok_of h
    split at h
    · cases h
    · rename_i ht
      split at h
      · cases h
      · rename_i hm
        cases h
        exact ⟨by simpa using ht, hm⟩
theorem thereF_names {n m : Net'} (h1 : m.names = n.names) (h2 : m.ports = n.ports) (e : End') : thereF m e = thereF n e := by unfold thereF; rw [h1, h2]
theorem endsMay_names {n m : Net'} (h1 : m.names = n.names) (h2 : m.ports = n.ports) : ∀ (l done : List End'), endsMay m done l = endsMay n done l
  | [], _ => rfl
  | e :: l, done => by rw [endsMay, endsMay, thereF_names h1 h2, endsMay_names h1 h2 l]
theorem linkM_may {k : Nat} {n : Net'} {x : Net' × List End'} {k' : Nat} (hn : endsMay n [] (flat n.links) = true) (h : linkM l k n (flat n.links) = .ok x k') : endsMay x.1 [] (flat x.1.links) = true ∧ x.2 = flat x.1.links ∧ x.1.names = n.names ∧ x.1.ports = n.ports := by
  unfold linkM at h
  obtain ⟨u, k1, -, h⟩ := Rs.bind_ok_of h
  obtain ⟨a, k2, ha, h⟩ := Rs.bind_ok_of h
  obtain ⟨b, k3, hb, h⟩ := Rs.bind_ok_of h
  obtain ⟨u, k4, -, h⟩ := Rs.bind_ok_of h
  cases h
  have ha := endM_is ha
  have hb := endM_is hb
  refine ⟨?_, (flat_add _ _ _).symm, rfl, rfl⟩
  show endsMay ⟨n.names, n.ports, n.links ++ [(a, b)]⟩ [] (flat (n.links ++ [(a, b)])) = true
  rw [endsMay_names (n := n) (m := ⟨n.names, n.ports, n.links ++ [(a, b)]⟩) rfl rfl, flat_add, show flat n.links ++ [a, b] = (flat n.links ++ [a]) ++ [b] by simp, endsMay_add, endsMay_add, hn, ha.1, hb.1]
  rw [List.nil_append, List.nil_append, decide_eq_false ha.2, decide_eq_false hb.2]
  rfl
theorem linksM_may : ∀ (f k : Nat) (n n' : Net') (k' : Nat), endsMay n [] (flat n.links) = true → linksM l f k n (flat n.links) = .ok n' k' → endsMay n' [] (flat n'.links) = true ∧ n'.names = n.names ∧ n'.ports = n.ports
  | 0, k, n, n', k', hn, h => by unfold linksM at h; cases h; exact ⟨hn, rfl, rfl⟩
  | f + 1, k, n, n', k', hn, h => by
    unfold linksM at h
    split at h
    · cases h; exact ⟨hn, rfl, rfl⟩
    · obtain ⟨x, k1, h1, h⟩ := Rs.bind_ok_of h
      obtain ⟨a1, a2, a3, a4⟩ := linkM_may hn h1
      rw [a2] at h
      obtain ⟨b1, b2, b3⟩ := linksM_may f k1 x.1 n' k' a1 h
      exact ⟨b1, b2.trans a3, b3.trans a4⟩
theorem allM_may {n : Net'} {k : Nat} (h : allM l = .ok n k) : netMay n = true := by
  unfold allM at h
  obtain ⟨m, k1, h1, h⟩ := Rs.bind_ok_of h
  obtain ⟨⟨s1, s2, s3, s4⟩, hl⟩ := nodesM_may _ _ _ _ _ (show Sw ⟨[], [], []⟩ from ⟨Nat.zero_le _, rfl, rfl, rfl⟩) h1
  have hl : m.links = [] := hl
  have hf : flat m.links = [] := by rw [hl]; rfl
  rw [← hf] at h
  obtain ⟨b1, b2, b3⟩ := linksM_may _ _ _ _ _ (by rw [hf]; rfl) h
  unfold netMay
  rw [b1, b2, b3, decide_eq_true s1, s2, decide_eq_true s3, s4]
  rfl
end
end Go.Proofs.YtkffjjlmoojffaaGreatDoor
namespace Go.Proofs.YtkffjjlmoojffaaGreatDoor
open Go.RowKit
theorem linksM_len {l : List Tok} {s : ByteArray} (hl : TL l s.size) : ∀ (f k : Nat) (n : Net') (ls : List End') (n' : Net') (k' : Nat), k < l.length → linksM l f k n ls = .ok n' k' → n'.links.length ≤ n.links.length + (l.length - k)
  | 0, k, n, ls, n', k', _, h => by unfold linksM at h; cases h; omega
  | f + 1, k, n, ls, n', k', hk, h => by
    unfold linksM at h
    split at h
    · cases h; omega
    · obtain ⟨x, k1, h1, h⟩ := Rs.bind_ok_of h
      obtain ⟨a1, a2, a3, a4, a5, a6⟩ := linkM_ok hl hk h1
      have := linksM_len hl f k1 x.1 x.2 n' k' a1 h
      omega
theorem nodesM_ok {l : List Tok} {s : ByteArray} (hl : TL l s.size) : ∀ (f k : Nat) (n n' : Net') (k' : Nat), k < l.length → nodesM l f k n = .ok n' k' → k' < l.length ∧ n'.links = n.links
  | 0, k, n, n', k', hk, h => by unfold nodesM at h; cases h; exact ⟨hk, rfl⟩
  | f + 1, k, n, n', k', hk, h => by
    unfold nodesM at h
    split at h
    · obtain ⟨m, k1, h1, h⟩ := Rs.bind_ok_of h
      obtain ⟨a1, a2, a3, a4, a5⟩ := nodeM_ok hl hk h1
      have := nodesM_ok hl f k1 m n' k' a1 h
      exact ⟨this.1, this.2.trans a5⟩
    · cases h; exact ⟨hk, rfl⟩
theorem readM_len {s : ByteArray} (hs : s.size ≤ 2000) {n : Net'} {k : Nat} (h : readM s = .ok n k) : n.names.length ≤ 8 ∧ n.ports.length ≤ 8 ∧ n.links.length ≤ 2001 ∧ netMay n = true := by
  unfold readM at h
  split at h
  · rename_i h0
    have hT := lexR_tl s h0
    have hm := allM_may h
    have hm' := hm
    unfold netMay at hm'
    simp only [Bool.and_eq_true, decide_eq_true_eq] at hm'
    obtain ⟨⟨⟨⟨a1, _⟩, a3⟩, _⟩, _⟩ := hm'
    have hlen := lexR_len s
    unfold allM at h
    obtain ⟨m, k1, h1, h⟩ := Rs.bind_ok_of h
    obtain ⟨b1, b2⟩ := nodesM_ok hT _ _ _ _ _ hT.pos h1
    have := linksM_len hT _ _ _ _ _ _ b1 h
    have b3 : m.links = [] := b2
    rw [b3, List.length_nil] at this
    exact ⟨a1, by omega, by omega, hm⟩
  · cases h
def netOf (r : Rs Net') : Net' := match r with
  | .ok n _ => n
  | .bad _ _ => net0
theorem tread_form {w : World} {s : ByteArray} (r : Rs Net') : ∃ a b c : Int, ∀ w e w', TRead w s r e w' → ∃ p1 c1 p2 c2 p3 c3 pvs, e = .returned (.tuple #[.agg #[.slice p1 (netOf r).names.length c1, .slice p2 pvs.length c2, .slice p3 (netOf r).links.length c3], fv a b c]) ∧ Below w.heap.size w w' ∧ NetAt w' (.slice p1 (netOf r).names.length c1) (.slice p2 pvs.length c2) (.slice p3 (netOf r).links.length c3) pvs (netOf r) := by
  cases r with
  | ok n k =>
    refine ⟨0, 0, 0, ?_⟩
    rintro w e w' ⟨h1, sw, po, li, pvs, rfl, h2⟩
    have hh := h2
    obtain ⟨p1, c1, rfl⟩ := own_sl3 h2.sw
    obtain ⟨p2, c2, rfl⟩ := own_sl3 h2.po
    obtain ⟨p3, c3, rfl⟩ := own_sl3 h2.li
    exact ⟨p1, c1, p2, c2, p3, c3, pvs, rfl, h1, hh.netAt⟩
  | bad p E =>
    refine ⟨E, (lineOf s p : Nat), (colOf s p : Nat), ?_⟩
    rintro w e w' ⟨h1, rfl⟩
    exact ⟨none, 0, none, 0, none, 0, [], rfl, h1, (NI.nil 0 w').netAt⟩
set_option maxHeartbeats 4000000 in
theorem treads_walk (s : ByteArray) (_hs : s.size < 140737488355328) : PureS 3 #[.string s] (.bool true) := by
  intro w hStd0
  have hK := Lib.hid known13
  have hStd := Lib.hid hStd0
  by_cases hbig : 2000 < s.size
  · clear hStd0 _hs
    have hg : decide ((2000 : Int) < (s.size : Int)) = true := decide_eq_true (by omega)
    have hg2 : (2000 : Int) < (s.size : Int) := by omega
    go_enter Tryz.func3, Tryz.ntmps3
    go_wp2_with fail
    refine (hK.out w hStd.out).mono ?_
    rintro e w' ⟨rfl, x, rfl⟩
    go_wp2
    go_ret
    exact ⟨rfl, x, rfl⟩
  · have hsz : s.size ≤ 2000 := by omega
    obtain ⟨a, b, c, hform⟩ := tread_form (w := w) (s := s) (readM s)
    have hA := (tp_read s hsz w hStd0).mono (hform w)
    have hB := fun w => (dc_tread hsz w).mono (hform w)
    have hb : (netOf (readM s)).names.length ≤ 1048576 ∧ (netOf (readM s)).ports.length ≤ 1048576 ∧ (netOf (readM s)).links.length ≤ 1048576 := by
      cases hr : readM s with
      | ok n k =>
        obtain ⟨h1, h2, h3, _⟩ := readM_len hsz hr
        exact ⟨by show n.names.length ≤ _; omega, by show n.ports.length ≤ _; omega, by show n.links.length ≤ _; omega⟩
      | bad p E => exact ⟨Nat.zero_le _, Nat.zero_le _, Nat.zero_le _⟩
    clear hform
    generalize netOf (readM s) = n at hA hB hb
    have hA' := Lib.hid hA
    have hB' := Lib.hid hB
    have hb' := Lib.hid hb
    have q1 := eql_fv3 a b c
    have hg : decide ((2000 : Int) < (s.size : Int)) = false := decide_eq_false (by omega)
    have hg2 : ¬ (2000 : Int) < (s.size : Int) := by omega
    clear hA hB hb hStd0 hbig hsz _hs
    go_enter Tryz.func3, Tryz.ntmps3
    go_wp2_with fail
    refine hA'.out.mono ?_
    rintro e W1 ⟨p1, c1, p2, c2, p3, c3, pvs, rfl, hB1, hN1⟩
    clear hA'
    go_upto_region 4 with (fail)
    obtain ⟨W2, hW2, hB2, hz2, ca, cb, fa, fb⟩ := box2 W1 #[.slice p1 n.names.length c1, .slice p2 pvs.length c2, .slice p3 n.links.length c3] #[.int .i64 a, .int .i64 b, .int .i64 c] 27 32
    rw [← hW2]
    clear hW2
    have hC := Lib.hid (hB'.out W2)
    clear hB'
    go_wp2_with fail
    refine hC.out.mono ?_
    rintro e W3 ⟨r1, d1, r2, d2, r3, d3, pvs2, rfl, hB3, hN3⟩
    clear hC
    go_upto_region 5 with (fail)
    obtain ⟨W4, hW4, hB4, hz4, da, db, ga, gb⟩ := box2 W3 #[.slice r1 n.names.length d1, .slice r2 pvs2.length d2, .slice r3 n.links.length d3] #[.int .i64 a, .int .i64 b, .int .i64 c] 27 32
    rw [← hW4]
    clear hW4
    have up : ∀ (b i : Nat) (v : Value), b < W2.heap.size → (∀ y, (Go.Proofs.YtkffjjlmoojffaaGreatDoor.plus W2 y).cell? ⟨b, i, none⟩ = some v) → ∀ y, (Go.Proofs.YtkffjjlmoojffaaGreatDoor.plus W4 y).cell? ⟨b, i, none⟩ = some v := fun b i v hb h y => by
      have h2 := h ⟨#[], W2.drawn⟩
      rw [plus_self] at h2
      have h3 := (hB3.cell (p := ⟨b, i, none⟩) hb).trans h2
      have h4 := (hB4.cell (p := ⟨b, i, none⟩) (Nat.lt_of_lt_of_le hb hB3.size)).trans h3
      exact plus_cell (Nat.lt_of_lt_of_le hb (Nat.le_trans hB3.size hB4.size)) h4 y
    have x0 := up _ 0 _ (by omega) (ca 0 _ rfl)
    have x1 := up _ 1 _ (by omega) (ca 1 _ rfl)
    have x2 := up _ 2 _ (by omega) (ca 2 _ rfl)
    have y0 := up _ 0 _ (by omega) (cb 0 _ rfl)
    have y1 := up _ 1 _ (by omega) (cb 1 _ rfl)
    have y2 := up _ 2 _ (by omega) (cb 2 _ rfl)
    have u0 := da 0 _ rfl
    have u1 := da 1 _ rfl
    have u2 := da 2 _ rfl
    have z0 := db 0 _ rfl
    have z1 := db 1 _ rfl
    have z2 := db 2 _ rfl
    have hB24 := hB3.trans (hB4.mono hB3.size)
    have hB14 := hB2.trans (hB24.mono hB2.size)
    have hS := Lib.hid (dc_same _ _ _ _ _ _ pvs pvs2 n (hN1.below hB14) (hN3.below hB4) hb'.out.1 hb'.out.2.1 hb'.out.2.2)
    have hfin := Lib.hid (hB1.trans (hB14.mono hB1.size))
    have xx0 := x0 ⟨#[], W4.drawn⟩
    have xx1 := x1 ⟨#[], W4.drawn⟩
    have xx2 := x2 ⟨#[], W4.drawn⟩
    have uu0 := u0 ⟨#[], W4.drawn⟩
    have uu1 := u1 ⟨#[], W4.drawn⟩
    have uu2 := u2 ⟨#[], W4.drawn⟩
    rw [plus_self] at xx0 xx1 xx2 uu0 uu1 uu2
    have hSt4 := Lib.hid (hStd.out.below hfin.out)
    clear hN1 hN3 hB1 hB2 hB3 hB4 hB24 hB14 up ca cb fa fb da db ga gb hz2 hz4 hb'
    go_wp2_with fail
    refine hS.out.mono ?_
    rintro e w' ⟨rfl, x, rfl⟩
    clear xx0 xx1 xx2 uu0 uu1 uu2 hS
    go_wp2_with fail
    refine (hK.out.at _ hSt4.out x).mono ?_
    rintro e w' ⟨rfl, x6, rfl⟩
    go_wp2
    go_ret
    exact ⟨rfl, plus_of_below (hfin.out.trans ((below_plus W4 x6).mono hfin.out.size))⟩
end Go.Proofs.YtkffjjlmoojffaaGreatDoor
