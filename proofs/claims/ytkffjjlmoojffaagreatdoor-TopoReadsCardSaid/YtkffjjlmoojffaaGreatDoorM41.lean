/-
  WHAT IS PROVED HERE: a part of the proof of the claim's theorem: NetKn; NetSm.
-/
import Derived.Test.YtkffjjlmoojffaaGreatDoorM38
import Derived.Test.YtkffjjlmoojffaaGreatDoorRows
import Derived.Test.YtkffjjlmoojffaaGreatDoorM28
set_option linter.all false
namespace Go.Proofs.YtkffjjlmoojffaaGreatDoor
def wEndF (s : ByteArray) : Nat → Nat → Nat
  | 0, a => a
  | f + 1, a => if a < s.size then (if (isLet (byN s a) || isDig (byN s a)) = true then wEndF s f (a + 1) else a) else a
theorem wEndF_eq (s : ByteArray) : ∀ (f a : Nat), s.size - a ≤ f → wEnd s a = wEndF s f a
  | 0, a, h => wEnd_past (by omega)
  | f + 1, a, h => by
    unfold wEndF
    by_cases h1 : a < s.size
    · rw [if_pos h1]
      by_cases hb : (isLet (byN s a) || isDig (byN s a)) = true
      · rw [if_pos hb, wEnd_go h1 hb]; exact wEndF_eq s f (a + 1) (by omega)
      · rw [if_neg hb]; exact wEnd_stop h1 (by simpa using hb)
    · rw [if_neg h1]; exact wEnd_past h1
def skipF (s : ByteArray) : Nat → Nat → Nat
  | 0, k => skipN s k
  | f + 1, k => if k < s.size then (if isBlank (byN s k) = true then skipF s f (k + 1) else if isRem s k = true then skipN s k else k) else k
theorem skipF_eq (s : ByteArray) : ∀ (f k : Nat), skipN s k = skipF s f k
  | 0, k => rfl
  | f + 1, k => by
    unfold skipF
    by_cases h1 : k < s.size
    · rw [if_pos h1]
      by_cases hb : isBlank (byN s k) = true
      · rw [if_pos hb, skip_blank h1 hb]; exact skipF_eq s f (k + 1)
      · rw [if_neg hb]
        by_cases hr : isRem s k = true
        · rw [if_pos hr]
        · rw [if_neg hr]; exact skip_stop h1 (by simpa using hb) (by simpa using hr)
    · rw [if_neg h1]; exact skip_end h1
def plainNum (s : ByteArray) : Bool := (wAt s).isNone && !Lib.hasPrefix s.data.toList [48, 120] && !s.data.toList.isEmpty && s.data.toList.all (fun c => decide (digV (c.toNat : Int) 10 < 10)) && decide (valOf 10 s.data.toList < 340282366920938463463374607431768211456)
noncomputable def numP (s : ByteArray) : Int × Nat × Int := if plainNum s = true then (0, valOf 10 s.data.toList, 0) else numR s
theorem numP_eq (s : ByteArray) : numR s = numP s := by
  unfold numP
  by_cases h : plainNum s = true
  · rw [if_pos h]
    unfold plainNum at h
    simp only [Bool.and_eq_true, Option.isNone_iff_eq_none, Bool.not_eq_true', List.isEmpty_eq_false_iff, List.all_eq_true, decide_eq_true_eq] at h
    obtain ⟨⟨⟨⟨h1, h2⟩, h3⟩, h4⟩, h5⟩ := h
    have hp : parseS s = (valOf 10 s.data.toList, 0) := by
      unfold parseS
      rw [if_neg (by rw [h2]; decide)]
      exact parseR_ok 10 _ h3 (fun c hc => h4 c hc) (by
        have : (2 : Nat) ^ 128 = 340282366920938463463374607431768211456 := by decide
        omega)
    unfold numR
    rw [h1]
    simp only
    rw [hp, if_pos rfl]
  · rw [if_neg h]
noncomputable def oneP (s : ByteArray) (a : Nat) : Tok × Int :=
  if (isLet (byN s a) || isDig (byN s a)) = true then
    (if isDig (byN s a) = true then (⟨2, s.extract a (wEndF s s.size a), (numP (s.extract a (wEndF s s.size a))).1, (numP (s.extract a (wEndF s s.size a))).2.1, a⟩, (numP (s.extract a (wEndF s s.size a))).2.2)
     else (⟨1, s.extract a (wEndF s s.size a), 0, 0, a⟩, if 16 < wEndF s s.size a - a then 3 else 0))
  else if markN s a = 0 then (⟨0, ByteArray.empty, 0, 0, a⟩, 4) else (⟨3, s.extract a (a + markN s a), 0, 0, a⟩, 0)
theorem oneP_eq (s : ByteArray) (a : Nat) : oneR s a = oneP s a := by
  unfold oneR oneP
  rw [← wEndF_eq s s.size a (by omega), ← numP_eq]
noncomputable def lexP (s : ByteArray) : Nat → Nat → List Tok → List Tok × Nat × Int
  | 0, _, acc => (acc ++ [endTok s], 0, 0)
  | f + 1, a, acc => if a < s.size then (if (oneP s a).2 = 0 then lexP s f (skipF s s.size (a + (oneP s a).1.s.size)) (acc ++ [(oneP s a).1]) else ([], a, (oneP s a).2)) else (acc ++ [endTok s], 0, 0)
theorem lexP_eq (s : ByteArray) : ∀ (f a : Nat) (acc : List Tok), lexN s f a acc = lexP s f a acc
  | 0, _, _ => rfl
  | f + 1, a, acc => by
    unfold lexP
    by_cases h : a < s.size
    · rw [if_pos h, ← oneP_eq]
      by_cases h0 : (oneR s a).2 = 0
      · rw [lexN_go h h0, if_pos h0, ← skipF_eq]; exact lexP_eq s f _ _
      · rw [lexN_bad h h0, if_neg h0]
    · rw [if_neg h, lexN_end h]
theorem lexR_F (s : ByteArray) (h : s.size ≤ 65536) : lexR s = lexP s s.size (skipF s s.size 0) [] := by
  unfold lexR
  rw [if_neg (by omega), lexP_eq, ← skipF_eq]
def tokB (t u : Tok) : Bool := decide (t.kind = u.kind) && decide (t.s = u.s) && decide (t.w = u.w) && decide (t.n = u.n) && decide (t.at_ = u.at_)
theorem tokB_eq {t u : Tok} (h : tokB t u = true) : t = u := by
  obtain ⟨a, b, c, d, e⟩ := t
  obtain ⟨a2, b2, c2, d2, e2⟩ := u
  unfold tokB at h
  simp only [Bool.and_eq_true, decide_eq_true_eq] at h
  obtain ⟨⟨⟨⟨rfl, rfl⟩, rfl⟩, rfl⟩, rfl⟩ := h
  rfl
def toksB : List Tok → List Tok → Bool
  | [], [] => true
  | t :: l, u :: m => tokB t u && toksB l m
  | _, _ => false
theorem toksB_eq : ∀ {l m : List Tok}, toksB l m = true → l = m
  | [], [], _ => rfl
  | [], _ :: _, h => by cases h
  | _ :: _, [], h => by cases h
  | t :: l, u :: m, h => by
    unfold toksB at h
    rw [Bool.and_eq_true] at h
    rw [tokB_eq h.1, toksB_eq h.2]
theorem lex_is {s : ByteArray} {l : List Tok} (hz : s.size ≤ 65536) (h1 : toksB (lexP s s.size (skipF s s.size 0) []).1 l = true) (h2 : (lexP s s.size (skipF s s.size 0) []).2.2 = 0) : (lexR s).1 = l ∧ (lexR s).2.2 = 0 := by
  rw [lexR_F s hz]
  exact ⟨toksB_eq h1, h2⟩
def netA : ByteArray := ⟨#[115, 119, 105, 116, 99, 104, 32, 97, 32, 123, 32, 49, 59, 32, 50, 59, 32, 125, 32, 115, 119, 105, 116, 99, 104, 32, 98, 32, 123, 32, 49, 59, 32, 125, 32, 108, 105, 110, 107, 32, 97, 58, 50, 32, 98, 58, 49, 59]⟩
def tokA' : List Tok := [⟨1, ⟨#[115, 119, 105, 116, 99, 104]⟩, 0, 0, 0⟩, ⟨1, ⟨#[97]⟩, 0, 0, 7⟩, ⟨3, ⟨#[123]⟩, 0, 0, 9⟩, ⟨2, ⟨#[49]⟩, 0, 1, 11⟩, ⟨3, ⟨#[59]⟩, 0, 0, 12⟩, ⟨2, ⟨#[50]⟩, 0, 2, 14⟩, ⟨3, ⟨#[59]⟩, 0, 0, 15⟩, ⟨3, ⟨#[125]⟩, 0, 0, 17⟩, ⟨1, ⟨#[115, 119, 105, 116, 99, 104]⟩, 0, 0, 19⟩, ⟨1, ⟨#[98]⟩, 0, 0, 26⟩, ⟨3, ⟨#[123]⟩, 0, 0, 28⟩, ⟨2, ⟨#[49]⟩, 0, 1, 30⟩, ⟨3, ⟨#[59]⟩, 0, 0, 31⟩, ⟨3, ⟨#[125]⟩, 0, 0, 33⟩, ⟨1, ⟨#[108, 105, 110, 107]⟩, 0, 0, 35⟩, ⟨1, ⟨#[97]⟩, 0, 0, 40⟩, ⟨3, ⟨#[58]⟩, 0, 0, 41⟩, ⟨2, ⟨#[50]⟩, 0, 2, 42⟩, ⟨1, ⟨#[98]⟩, 0, 0, 44⟩, ⟨3, ⟨#[58]⟩, 0, 0, 45⟩, ⟨2, ⟨#[49]⟩, 0, 1, 46⟩, ⟨3, ⟨#[59]⟩, 0, 0, 47⟩, ⟨0, ByteArray.empty, 0, 0, 48⟩]
theorem lexA : (lexR netA).1 = tokA' ∧ (lexR netA).2.2 = 0 := lex_is (by decide +kernel) (by decide +kernel) (by decide +kernel)
def netB : ByteArray := ⟨#[115, 119, 105, 116, 99, 104, 32, 97, 32, 123, 32, 49, 59, 32, 49, 59, 32, 125]⟩
def tokB' : List Tok := [⟨1, ⟨#[115, 119, 105, 116, 99, 104]⟩, 0, 0, 0⟩, ⟨1, ⟨#[97]⟩, 0, 0, 7⟩, ⟨3, ⟨#[123]⟩, 0, 0, 9⟩, ⟨2, ⟨#[49]⟩, 0, 1, 11⟩, ⟨3, ⟨#[59]⟩, 0, 0, 12⟩, ⟨2, ⟨#[49]⟩, 0, 1, 14⟩, ⟨3, ⟨#[59]⟩, 0, 0, 15⟩, ⟨3, ⟨#[125]⟩, 0, 0, 17⟩, ⟨0, ByteArray.empty, 0, 0, 18⟩]
theorem lexB : (lexR netB).1 = tokB' ∧ (lexR netB).2.2 = 0 := lex_is (by decide +kernel) (by decide +kernel) (by decide +kernel)
theorem all_a : ∃ n k, allM (lexR netA).1 = .ok n k ∧ n = (dAll tokA').1 := by
  have hT := lexR_tl netA lexA.2
  have h := ag_all hT
  rw [lexA.1] at h ⊢
  cases hr : allM tokA' with
  | ok n k => rw [hr] at h; exact ⟨n, k, rfl, h.2.2.2⟩
  | bad p e =>
    rw [hr] at h
    exact absurd h.1 (by rw [show (dAll tokA').2.bad = false by decide +kernel]; decide)
theorem all_b : allM (lexR netB).1 = .bad 14 8 := by
  have hT := lexR_tl netB lexB.2
  have h := ag_all hT
  rw [lexB.1] at h ⊢
  cases hr : allM tokB' with
  | ok n k =>
    rw [hr] at h
    exact absurd h.1 (by rw [show (dAll tokB').2.bad = true by decide +kernel]; decide)
  | bad p e =>
    rw [hr] at h
    have h1 : (dAll tokB').2.p = 14 := by decide +kernel
    have h2 : (dAll tokB').2.e = 8 := by decide +kernel
    obtain ⟨_, a2, a3⟩ := h
    rw [← a2, ← a3, h1, h2]
theorem next_a : thereF (dAll tokA').1 ⟨0, 2⟩ = true ∧ nextV true (dAll tokA').1.links ⟨0, 2⟩ = (⟨1, 1⟩, true, true) ∧ (dAll tokA').1.links.length = 1 ∧ (dAll tokA').1.names.length = 2 ∧ (dAll tokA').1.ports.length = 2 := by decide +kernel
theorem line_b : lineOf netB 14 = 1 ∧ colOf netB 14 = 15 := by decide +kernel
end Go.Proofs.YtkffjjlmoojffaaGreatDoor
namespace Go.Proofs.YtkffjjlmoojffaaGreatDoor
open Go.RowKit
structure NetAt (w : World) (sw po li : Value) (pvs : List Sl3) (n : Net') : Prop where
  sw : Lies w 1 strC sw n.names
  po : PortsAt w po pvs n.ports
  li : Lies w 4 linkC li n.links
theorem NetAt.below {w w' : World} {sw po li : Value} {pvs : List Sl3} {n : Net'} (h : NetAt w sw po li pvs n) (hB : Below w.heap.size w w') : NetAt w' sw po li pvs n := ⟨h.sw.below hB, h.po.below hB, h.li.below hB⟩
theorem NI.netAt {base : Nat} {W : World} {sw po li : Value} {pvs : List Sl3} {n : Net'} (h : NI base W sw po li pvs n) : NetAt W sw po li pvs n :=
  ⟨own_lies h.sw strC_len, ⟨own_lies h.po slC_len, h.len, fun i x ps hx hp => ⟨own_lies (h.each i x ps hx hp).1 intC_len, (h.each i x ps hx hp).2⟩⟩, own_lies h.li linkC_len⟩
theorem neq_link (x : End' × End') (w : World) : (binOp .neq 68 (.agg #[.int .i64 x.1.sw, .int .i64 x.1.po, .int .i64 x.2.sw, .int .i64 x.2.po]) (.agg #[.int .i64 x.1.sw, .int .i64 x.1.po, .int .i64 x.2.sw, .int .i64 x.2.po])).run Tryz.prog w = .ok (.bool false) w := by
  obtain ⟨⟨a, b⟩, c, d⟩ := x
  go_simp
set_option maxHeartbeats 8000000 in
theorem dc_same {w : World} (sa pa la sb pb lb : Value) (va vb : List Sl3) (n : Net') (A : NetAt w sa pa la va n) (B : NetAt w sb pb lb vb n) (hb1 : n.names.length ≤ 1048576) (hb2 : n.ports.length ≤ 1048576) (hb3 : n.links.length ≤ 1048576) :
    Calls Tryz.prog 8 #[.agg #[sa, pa, la], .agg #[sb, pb, lb]] w (Back w (.bool true)) := by
  obtain ⟨p1, c1, rfl, a1⟩ := A.sw
  obtain ⟨p2, c2, rfl, a2⟩ := A.po.row
  obtain ⟨p3, c3, rfl, a3⟩ := A.li
  obtain ⟨q1, d1, rfl, b1⟩ := B.sw
  obtain ⟨q2, d2, rfl, b2⟩ := B.po.row
  obtain ⟨q3, d3, rfl, b3⟩ := B.li
  have la := A.po.len
  have lb := B.po.len
  obtain ⟨n1, hn1⟩ : ∃ n1, n.names.length = n1 := ⟨_, rfl⟩
  obtain ⟨n2, hn2⟩ : ∃ n2, n.ports.length = n2 := ⟨_, rfl⟩
  obtain ⟨n3, hn3⟩ : ∃ n3, n.links.length = n3 := ⟨_, rfl⟩
  rw [la, lb, hn1, hn2, hn3]
  rw [hn1] at hb1
  rw [hn2] at hb2 la lb
  rw [hn3] at hb3
  obtain ⟨W, hW, hBW, hz, ca, cb, fa, fb⟩ := box2 w #[.slice p1 n1 c1, .slice p2 n2 c2, .slice p3 n3 c3] #[.slice q1 n1 d1, .slice q2 n2 d2, .slice q3 n3 d3] 27 27
  have x0 := ca 0 _ rfl
  have x1 := ca 1 _ rfl
  have x2 := ca 2 _ rfl
  have y0 := cb 0 _ rfl
  have y1 := cb 1 _ rfl
  have y2 := cb 2 _ rfl
  have hBW' := Lib.hid hBW
  have up : ∀ (y : Ext) (g i : Nat) (u : Value), g < w.heap.size → w.cell? ⟨g, i, none⟩ = some u → (Go.Proofs.YtkffjjlmoojffaaGreatDoor.plus W y).cell? ⟨g, i, none⟩ = some u := fun y g i u hg hc =>
    ((below_plus W y).cell (p := ⟨g, i, none⟩) (Nat.lt_of_lt_of_le hg hBW.size)).trans ((hBW.cell (p := ⟨g, i, none⟩) hg).trans hc)
  replace up := Lib.hid up
  replace a1 := Lib.hid a1
  replace a2 := Lib.hid a2
  replace a3 := Lib.hid a3
  replace b1 := Lib.hid b1
  replace b2 := Lib.hid b2
  replace b3 := Lib.hid b3
  have ea := Lib.hid A.po.each
  have eb := Lib.hid B.po.each
  have hn1' := Lib.hid hn1
  have hn2' := Lib.hid hn2
  have hn3' := Lib.hid hn3
  have la' := Lib.hid la
  have lb' := Lib.hid lb
  clear A B ca cb fa fb hz hBW hn1 hn2 hn3 la lb
  go_enter Tryz.func8, Tryz.ntmps8
  go_upto_region 1 with (fail)
  rw [← hW, ← plus_self W]
  clear hW
  go_wp2
  go_loopw [5] (fun iv wr => ∃ k : Nat, k ≤ n1 ∧ iv = .int .i64 (k : Int) ∧ ∃ y, wr = Go.Proofs.YtkffjjlmoojffaaGreatDoor.plus W y) (fun iv _ => n1 - (intOf iv).toNat)
  case atStart => exact ⟨0, Nat.zero_le _, rfl, ⟨_, rfl⟩⟩
  case round =>
    obtain ⟨k, hk, rfl, y, rfl⟩ := hrel
    by_cases hlt : k < n1
    · obtain ⟨t, ht⟩ : ∃ t, n.names[k]? = some t := ⟨n.names[k]'(by rw [hn1'.out]; exact hlt), List.getElem?_eq_getElem _⟩
      obtain ⟨g, rfl, hg, hc⟩ := a1.out k t ht
      obtain ⟨g2, rfl, hg2, hc2⟩ := b1.out k t ht
      have m1 := fun y => up.out y g k _ hg (by simpa using hc 0 _ rfl)
      have m2 := fun y => up.out y g2 k _ hg2 (by simpa using hc2 0 _ rfl)
      have k0 : ¬ ((k : Int) < 0) := by omega
      have k1 : (k : Int) < (n1 : Int) := by omega
      have qs : (t.toList == t.toList) = true := by simp
      clear hc hc2 ht
      go_wp2
      try simp only [List.append]
      refine wp_region_own (by kernel_rfl) (by kernel_rfl) ?_
      repeat (go_big_quiet_step (fail))
      refine wpQuiet_nil ?_
      rintro _ ⟨y1, rfl⟩
      go_wp2
      go_roundw
      case rel => exact ⟨k + 1, hlt, congrArg (Value.int .i64) (by omega), _, rfl⟩
      case measure => exact step_lt k n1 hlt
    · have hk' : k = n1 := by omega
      subst hk'
      go_wp2
      go_loopw [6, 7] (fun iv _ wr => ∃ k : Nat, k ≤ n2 ∧ iv = .int .i64 (k : Int) ∧ ∃ y, wr = Go.Proofs.YtkffjjlmoojffaaGreatDoor.plus W y) (fun iv _ _ => n2 - (intOf iv).toNat)
      case atStart => exact ⟨0, Nat.zero_le _, rfl, ⟨_, rfl⟩⟩
      case round =>
        obtain ⟨i, hi, rfl, yi, rfl⟩ := hrel
        by_cases hil : i < n2
        · obtain ⟨ps, hps⟩ : ∃ t, n.ports[i]? = some t := ⟨n.ports[i]'(by rw [hn2'.out]; exact hil), List.getElem?_eq_getElem _⟩
          obtain ⟨s1, hs1⟩ : ∃ t, va[i]? = some t := ⟨va[i]'(by rw [la'.out]; exact hil), List.getElem?_eq_getElem _⟩
          obtain ⟨s2, hs2⟩ : ∃ t, vb[i]? = some t := ⟨vb[i]'(by rw [lb'.out]; exact hil), List.getElem?_eq_getElem _⟩
          obtain ⟨g, rfl, hg, hc⟩ := a2.out i s1 hs1
          obtain ⟨g2, rfl, hg2, hc2⟩ := b2.out i s2 hs2
          have m1 := fun y => up.out y g i _ hg (by simpa using hc 0 _ rfl)
          have m2 := fun y => up.out y g2 i _ hg2 (by simpa using hc2 0 _ rfl)
          obtain ⟨⟨r1, u1, hv1, f1⟩, hpb⟩ := ea.out i s1 ps hs1 hps
          obtain ⟨⟨r2, u2, hv2, f2⟩, _⟩ := eb.out i s2 ps hs2 hps
          obtain ⟨s1p, s1n, s1c⟩ := s1
          obtain ⟨s2p, s2n, s2c⟩ := s2
          obtain ⟨m, hm⟩ : ∃ m, ps.length = m := ⟨_, rfl⟩
          rw [hm] at hv1 hv2 hpb
          unfold Sl3.v at hv1 hv2
          simp only [Value.slice.injEq] at hv1 hv2 m1 m2
          obtain ⟨rfl, rfl, rfl⟩ := hv1
          obtain ⟨rfl, rfl, rfl⟩ := hv2
          have i0 : ¬ ((i : Int) < 0) := by omega
          have i1 : (i : Int) < (n2 : Int) := by omega
          replace f1 := Lib.hid f1
          replace f2 := Lib.hid f2
          have hm' := Lib.hid hm
          clear hc hc2 hs1 hs2 hps hm
          go_wp2
          try simp only [List.append]
          refine wp_region_own (by kernel_rfl) (by kernel_rfl) ?_
          repeat (go_big_quiet_step (fail))
          refine wpQuiet_nil ?_
          rintro _ ⟨y1, rfl⟩
          go_wp2
          go_loopw [7] (fun iv wr => ∃ k : Nat, k ≤ s2n ∧ iv = .int .i64 (k : Int) ∧ ∃ y, wr = Go.Proofs.YtkffjjlmoojffaaGreatDoor.plus W y) (fun iv _ => s2n - (intOf iv).toNat)
          case atStart => exact ⟨0, Nat.zero_le _, rfl, ⟨_, rfl⟩⟩
          case round =>
            obtain ⟨j, hj, rfl, yj, rfl⟩ := hrel
            by_cases hjl : j < s2n
            · obtain ⟨t, ht⟩ : ∃ t, ps[j]? = some t := ⟨ps[j]'(by rw [hm'.out]; exact hjl), List.getElem?_eq_getElem _⟩
              obtain ⟨h1, rfl, hh1, e1⟩ := f1.out j t ht
              obtain ⟨h2, rfl, hh2, e2⟩ := f2.out j t ht
              have o1 := fun y => up.out y h1 j _ hh1 (by simpa using e1 0 _ rfl)
              have o2 := fun y => up.out y h2 j _ hh2 (by simpa using e2 0 _ rfl)
              have j0 : ¬ ((j : Int) < 0) := by omega
              have j1 : (j : Int) < (s2n : Int) := by omega
              clear e1 e2 ht
              go_wp2
              try simp only [List.append]
              refine wp_region_own (by kernel_rfl) (by kernel_rfl) ?_
              repeat (go_big_quiet_step (fail))
              refine wpQuiet_nil ?_
              rintro _ ⟨y1, rfl⟩
              go_wp2
              go_roundw
              case rel => exact ⟨j + 1, hjl, congrArg (Value.int .i64) (by omega), _, rfl⟩
              case measure => exact step_lt j s2n hjl
            · have hj' : j = s2n := by omega
              subst hj'
              go_wp2
              go_roundw
              case rel => exact ⟨i + 1, hil, congrArg (Value.int .i64) (by omega), _, rfl⟩
              case measure => exact step_lt i n2 hil
        · have hi' : i = n2 := by omega
          subst hi'
          go_wp2
          go_loopw [8] (fun iv wr => ∃ k : Nat, k ≤ n3 ∧ iv = .int .i64 (k : Int) ∧ ∃ y, wr = Go.Proofs.YtkffjjlmoojffaaGreatDoor.plus W y) (fun iv _ => n3 - (intOf iv).toNat)
          case atStart => exact ⟨0, Nat.zero_le _, rfl, ⟨_, rfl⟩⟩
          case round =>
            obtain ⟨j, hj, rfl, yj, rfl⟩ := hrel
            by_cases hjl : j < n3
            · obtain ⟨t, ht⟩ : ∃ t, n.links[j]? = some t := ⟨n.links[j]'(by rw [hn3'.out]; exact hjl), List.getElem?_eq_getElem _⟩
              obtain ⟨h1, rfl, hh1, e1⟩ := a3.out j t ht
              obtain ⟨h2, rfl, hh2, e2⟩ := b3.out j t ht
              have r0 := fun y => up.out y h1 (j * 4) _ hh1 (by simpa using e1 0 _ rfl)
              have r1 := fun y => up.out y h1 (j * 4 + 1) _ hh1 (e1 1 _ rfl)
              have r2 := fun y => up.out y h1 (j * 4 + 2) _ hh1 (e1 2 _ rfl)
              have r3 := fun y => up.out y h1 (j * 4 + 3) _ hh1 (e1 3 _ rfl)
              have t0 := fun y => up.out y h2 (j * 4) _ hh2 (by simpa using e2 0 _ rfl)
              have t1 := fun y => up.out y h2 (j * 4 + 1) _ hh2 (e2 1 _ rfl)
              have t2 := fun y => up.out y h2 (j * 4 + 2) _ hh2 (e2 2 _ rfl)
              have t3 := fun y => up.out y h2 (j * 4 + 3) _ hh2 (e2 3 _ rfl)
              have j0 : ¬ ((j : Int) < 0) := by omega
              have j1 : (j : Int) < (n3 : Int) := by omega
              have qn := fun w => neq_link t w
              clear e1 e2 ht
              go_wp2
              try simp only [List.append]
              refine wp_region_own (by kernel_rfl) (by kernel_rfl) ?_
              repeat (go_big_quiet_step (fail))
              refine wpQuiet_nil ?_
              rintro _ ⟨y1, rfl⟩
              go_wp2
              go_roundw
              case rel => exact ⟨j + 1, hjl, congrArg (Value.int .i64) (by omega), _, rfl⟩
              case measure => exact step_lt j n3 hjl
            · have hj' : j = n3 := by omega
              subst hj'
              go_wp2
              go_ret
              exact ⟨rfl, plus_of_below (hBW'.out.trans ((below_plus W _).mono hBW'.out.size))⟩
end Go.Proofs.YtkffjjlmoojffaaGreatDoor
