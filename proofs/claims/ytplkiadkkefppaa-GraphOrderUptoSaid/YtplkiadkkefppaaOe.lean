/-
  WHAT IS PROVED HERE: whom a state goes to (nextF), plain; what the landed Next, and the literal in it, hand back, of any program.
-/
import Derived.Test.YtplkiadkkefppaaRows
import Derived.Test.YtplkiadkkefppaaOa
import Derived.Test.YtplkiadkkefppaaOd
import Derived.Test.YtplkiadkkefppaaWa
import Derived.OneCell
import Derived.OwnWalk
import Derived.Laws.OwnMore
import Derived.Deep.AppendLies
namespace Go.Proofs.Ytplkiadkkefppaa
open Go.RowKit
/-- The state that a target tells, if any. -/
def tgtF (sts : List Sa) (s : ByteArray) : Option Nat := if (stI sts s).2 = true then (if (stI sts s).1 < 0 then none else some (stI sts s).1.toNat) else none
def addF (sts : List Sa) (l : List Nat) (s : ByteArray) : List Nat := match tgtF sts s with | none => l | some n => if l.contains n = true then l else l ++ [n]
def caseF (sts : List Sa) (l : List Nat) (cs : List Ca) : List Nat := cs.foldl (fun l c => addF sts l c.to) l
def nextF (sts : List Sa) (k : Nat) : List Nat := match sts[k]? with | none => [] | some x => caseF sts (if x.to.toList = [] then [] else addF sts [] x.to) x.cases.l
theorem tgt_lt {sts : List Sa} {s : ByteArray} {n : Nat} (h : tgtF sts s = some n) : n < sts.length := by
  unfold tgtF at h
  split at h
  · next h2 =>
    split at h
    · cases h
    · next h3 =>
      obtain rfl := Option.some.inj h
      unfold stI at h2 h3 ⊢
      split at h3
      · omega
      · next q1 =>
        split at h3
        · omega
        · next q2 =>
          split at h3
          · next q3 => rw [if_neg q1, if_neg q2, if_pos q3] at h2; cases h2
          · next q3 =>
            rw [if_neg q1, if_neg q2, if_neg q3]
            have h4 := firstI_ge (fun x : Sa => x.name.toList == s.toList) sts 0
            simp only at h3 ⊢
            unfold saI at h3 ⊢
            omega
  · cases h
/-- Numbers of states, none twice. -/
structure Goes (sts : List Sa) (l : List Nat) : Prop where
  nodup : l.Nodup
  low : ∀ x ∈ l, x < sts.length
theorem Goes.nil (sts : List Sa) : Goes sts [] := ⟨by simp, fun x h => by cases h⟩
theorem Goes.add {sts : List Sa} {l : List Nat} (h : Goes sts l) (s : ByteArray) : Goes sts (addF sts l s) := by
  unfold addF
  split
  · exact h
  · next n hn =>
    split
    · exact h
    · next hc =>
      have hm : n ∉ l := by simpa using hc
      refine ⟨?_, fun x hx => ?_⟩
      · rw [List.nodup_append]
        exact ⟨h.nodup, by simp, fun a ha b hb => by simp at hb; subst hb; exact fun e => hm (e ▸ ha)⟩
      · rcases List.mem_append.1 hx with hx | hx
        · exact h.low x hx
        · simp at hx; subst hx; exact tgt_lt hn
theorem Goes.cases {sts : List Sa} : ∀ (cs : List Ca) {l : List Nat}, Goes sts l → Goes sts (caseF sts l cs)
  | [], _, h => h
  | c :: cs, _, h => Goes.cases cs (h.add c.to)
theorem next_goes (sts : List Sa) (k : Nat) : Goes sts (nextF sts k) := by
  unfold nextF
  split
  · exact Goes.nil sts
  · refine Goes.cases _ ?_
    split
    · exact Goes.nil sts
    · exact (Goes.nil sts).add _
theorem Goes.le {sts : List Sa} {l : List Nat} (h : Goes sts l) : l.length ≤ sts.length := nodup_le sts.length l h.nodup h.low
theorem case_step (sts : List Sa) (l : List Nat) (cs : List Ca) (k : Nat) (c : Ca) (h : cs[k]? = some c) : caseF sts l (cs.take (k + 1)) = addF sts (caseF sts l (cs.take k)) c.to := by
  unfold caseF
  rw [List.take_add_one, h]
  simp
/-- Of two blocks alone may something have turned. -/
structure But2 (W W' : World) (b : Nat) (r : Option Nat) : Prop where
  os : W'.os = W.os
  tape : W'.tape = W.tape
  output : W'.output = W.output
  size : W.heap.size ≤ W'.heap.size
  block : ∀ k, k < W.heap.size → k ≠ b → some k ≠ r → W'.heap[k]? = W.heap[k]?
theorem But2.below {W W' : World} {b : Nat} {r : Option Nat} (h : But2 W W' b r) {B : Nat} (h0 : B ≤ W.heap.size) (h1 : B ≤ b) (h2 : ∀ k, r = some k → B ≤ k) : Below B W W' :=
  ⟨h.os, h.tape, h.output, h.size, fun k hk => h.block k (by omega) (by omega) fun e => by have := h2 k e.symm; omega⟩
theorem But2.of {W W' : World} (b : Nat) (r : Option Nat) (h : Below W.heap.size W W') : But2 W W' b r := ⟨h.os, h.tape, h.output, h.size, fun k hk _ _ => h.block k hk⟩
abbrev Nats (w : World) (base : Nat) (v : Value) (l : List Nat) : Prop := w.ownsRow base 3 1 v l.length ((l.map natC).flatten)
theorem int_info : (Try.prog.info? 3).map (fun i => (i.zero, i.size, i.bytes)) = some (some (.int .i64 0), 1, 8) := by kernel_rfl
theorem own_up {w w' : World} {base : Nat} {e : TypeId} {C : Nat} {v : Value} {n : Nat} {xs : List Value} (h : w.ownsRow base e C v n xs) (hB : Below w.heap.size w w') : w'.ownsRow base e C v n xs := by
  obtain ⟨hl, h2⟩ := h
  refine ⟨hl, ?_⟩
  rcases h2 with h2 | ⟨g, cap, cur, hv, hg, hh, h3, h4, h5, h6⟩
  · exact .inl h2
  · exact .inr ⟨g, cap, cur, hv, hg, (hB.block g (Array.getElem?_eq_some_iff.1 hh).1).trans hh, h3, h4, h5, h6⟩
theorem nats_row {w : World} {base : Nat} {v : Value} {l : List Nat} (h : Nats w base v l) : ∃ p c, v = .slice p l.length c ∧ RowAt w 1 natC p l := by
  by_cases hn : 0 < l.length
  · rcases h.2 with ⟨rfl, h0⟩ | ⟨g, cap, cur, rfl, hg, hh, _⟩
    · omega
    · exact ⟨_, cap, rfl, own_row h (fun y _ => rfl)⟩
  · obtain rfl : l = [] := List.length_eq_zero_iff.1 (by omega)
    rcases h.2 with ⟨rfl, _⟩ | ⟨g, cap, cur, rfl, _⟩
    · exact ⟨none, 0, rfl, fun i x hx => by simp at hx⟩
    · exact ⟨_, cap, rfl, fun i x hx => by simp at hx⟩
theorem nats_sl {w : World} {base : Nat} {v : Value} {l : List Nat} (h : Nats w base v l) : ∃ p n c, v = .slice p n c := by
  obtain ⟨p, c, h, _⟩ := nats_row h
  exact ⟨p, _, c, h⟩
/-- One number, built in place, is appended. -/
theorem nats_one {W : World} {base : Nat} (v : Value) (m : Nat) {l : List Nat} {ops : Array Oper} {rest : List Oper} {o : Oper} {a : Act} {Q : Exit → Act → World → Prop} (hm : l.length = m) (h : W.ownsRow base 3 1 v m ((l.map natC).flatten)) (hbase : base ≤ W.heap.size) (n : Nat) (cs : Array Value) (hc : cs.toList = natC n) (hgd : o.guard = none) (s x : Operand)
    (ho : o.op = .call { callee := .builtin .append, args := #[s, x], argTypes := #[33, 33] }) (hs : a.eval s = v) (hx : a.eval x = .slice (some ⟨W.heap.size, 0, none⟩) 1 1) (hb : l.length ≤ 1048576)
    (k : ∀ v' w', Nats w' base v' (l ++ [n]) → (W.alloc (.cells cs 3)).grownBy w' v.ownBlock → wpList Try.prog ops Q rest (a.put o.dst v') w') : wpList Try.prog ops Q (o :: rest) a (W.alloc (.cells cs 3)) := by
  subst hm
  obtain ⟨i0, hi0, hi1, hi2, hi3⟩ := info_parts int_info
  have h2 := own_up h ((Below.refl _ W).alloc (Nat.le_refl _) (.cells cs 3))
  refine wpList_append_sl hgd s x _ ho base 3 i0 _ 1 8 Try.underlying33 hi0 hi1 hi2 hi3 rfl (by decide) v l.length _ hs h2 _ 1 1 [n] natC hx rfl (fun i y hy => ⟨_, rfl, fun j u hu => ?_⟩) (fun y _ => rfl) (fun y _ u hu => by
      simp only [natC, List.mem_cons, List.not_mem_nil, or_false] at hu
      subst hu; rfl)
    (by simp only [maxLen]; omega) (by omega) (by simp; omega) fun v' w' h3 h4 => k v' w' (by
      show w'.ownsRow base _ 1 v' (l ++ [n]).length (((l ++ [n]).map natC).flatten)
      rw [List.length_append, List.map_append, List.flatten_append]
      exact h3) h4
  obtain ⟨rfl, rfl⟩ : i = 0 ∧ y = n := by
    cases i with
    | zero => exact ⟨rfl, by simpa using hy.symm⟩
    | succ i => simp at hy
  rw [Nat.zero_mul, Addr.add_lit, Addr.add_lit]
  simp only [Nat.zero_add]
  refine (cell_new W cs _ _ j rfl).trans ?_
  rw [← hc] at hu
  simpa using hu
theorem heap_plus (W : World) (x : Ext) {b : Nat} {o : Obj} (h : W.heap[b]? = some o) : (plus W x).heap[b]? = some o := ((below_plus W x).block b (Array.getElem?_eq_some_iff.1 h).1).trans h
theorem not_own {w : World} {base : Nat} {e : TypeId} {C : Nat} {v : Value} {n : Nat} {xs : List Value} (h : w.ownsRow base e C v n xs) {b : Nat} (hb : b < base) : v.ownBlock ≠ some b := fun q => by have := (h.lt b q).1; omega
theorem one_grown {W w' : World} {base bl n : Nat} {v : Value} {l : List Nat} {t : TypeId} {o : Obj} (h : ∀ x, (plus W x).ownsRow base 3 1 v n ((l.map natC).flatten)) (hbl : bl < base) (hl : ∀ x, (plus W x).heap[bl]? = some (.cells #[v] t (0, 0))) (x : Ext) (hg : ((plus W x).alloc o).grownBy w' v.ownBlock) : w'.heap[bl]? = some (.cells #[v] t (0, 0)) := by
  have h1 := (Array.getElem?_eq_some_iff.1 (hl x)).1
  exact (hg.block bl (by simp; omega) (not_own (h x) hbl).symm).trans ((Below.heap_alloc _ _ _ h1).trans (hl x))
/-- A box, and the row that it tells, behind an append. -/
theorem box_grown {W w' : World} {base bl : Nat} {v : Value} {l : List Nat} {t : TypeId} {o : Obj} (h : Nats W base v l) (hbl : bl < base) (hl : W.heap[bl]? = some (.cells #[v] t (0, 0))) (hg : (W.alloc o).grownBy w' v.ownBlock) : w'.heap[bl]? = some (.cells #[v] t (0, 0)) := by
  have h1 := (Array.getElem?_eq_some_iff.1 hl).1
  exact (hg.block bl (by simp; omega) (not_own h hbl).symm).trans ((Below.heap_alloc _ _ _ h1).trans hl)
theorem but2_end {W w2 : World} {x : Ext} {o : Obj} {bl : Nat} {r : Option Nat} (g : ((plus W x).alloc o).grownBy w2 r) (u : Value) : But2 W (w2.setCell ⟨bl, 0, none⟩ u) bl r := by
  have hB : Below W.heap.size W (plus W x) := below_plus W x
  have hs : (plus W x).heap.size + 1 ≤ w2.heap.size := by have := g.size; simpa using this
  refine ⟨g.os.trans hB.os, g.tape.trans hB.tape, g.output.trans hB.output, ?_, fun i hi h1 h2 => ?_⟩
  · have := hB.size; simp; omega
  · have := hB.size
    exact (Below.heap_setCell _ _ _ _ h1).trans ((g.block i (by simp; omega) h2).trans ((Below.heap_alloc _ _ _ (by omega)).trans (hB.block i hi)))
set_option maxRecDepth 100000 in
set_option maxHeartbeats 8000000 in
theorem add_in (p : Pr) (W : World) (hin : p.In W) (hz : p.sz ≤ 1048576) (bp bl base : Nat) (v : Value) (l : List Nat) (s : ByteArray) (hp : ∀ j u, p.cells[j]? = some u → W.cell? ⟨bp, j, none⟩ = some u)
    (hl : W.heap[bl]? = some (.cells #[v] 33 (0, 0))) (hown : Nats W base v l) (hbl : bl < base) (hbase : base ≤ W.heap.size) (hlen : l.length ≤ 1048576) :
    Calls Try.prog 20 #[.string s, .pointer (some ⟨bp, 0, none⟩), .pointer (some ⟨bl, 0, none⟩)] W fun e W' => e = .returned (.tuple #[]) ∧ ∃ v', W'.heap[bl]? = some (.cells #[v'] 33 (0, 0)) ∧ Nats W' base v' (addF p.states.l l s) ∧ But2 W W' bl v.ownBlock := by
  have hS := (o_State p W hin hz s).pure
  obtain ⟨ap, ac, rfl, hrow⟩ := nats_row hown
  have hC : ∀ n : Nat, PureIn Try.prog W 22 #[.slice ap l.length ac, .int .i64 (n : Int)] (.bool (l.contains n)) := fun n => (ints_contains ap ac l n W hrow hlen).pure
  have c0 := fun y => cell_keep (hp 0 _ rfl) y
  have c1 := fun y => cell_keep (hp 1 _ rfl) y
  have c2 := fun y => cell_keep (hp 2 _ rfl) y
  have c3 := fun y => cell_keep (hp 3 _ rfl) y
  have c4 := fun y => cell_keep (hp 4 _ rfl) y
  have c5 := fun y => cell_keep (hp 5 _ rfl) y
  have c6 := fun y => cell_keep (hp 6 _ rfl) y
  have c0' := hp 0 _ rfl
  have c1' := hp 1 _ rfl
  have c2' := hp 2 _ rfl
  have c3' := hp 3 _ rfl
  have c4' := hp 4 _ rfl
  have c5' := hp 5 _ rfl
  have c6' := hp 6 _ rfl
  simp only [Sl.v] at c0 c1 c2 c3 c4 c5 c6 c0' c1' c2' c3' c4' c5' c6'
  have cl := fun y => cell_keep (cell_of_one hl) y
  obtain ⟨N, hN⟩ : ∃ N, addF p.states.l l s = N := ⟨_, rfl⟩
  rw [hN]
  unfold addF tgtF at hN
  obtain ⟨⟨I, B⟩, hR⟩ : ∃ R, stI p.states.l s = R := ⟨_, rfl⟩
  rw [hR] at hS hN
  simp only at hS hN
  obtain ⟨n, hn⟩ : ∃ n, l.length = n := ⟨_, rfl⟩
  have hS' := Lib.hid hS
  have hC' := Lib.hid hC
  have hl' := Lib.hid hl
  have hown' := Lib.hid hown
  have hN' := Lib.hid hN
  have hlen' := Lib.hid hlen
  have hbl' := Lib.hid hbl
  have hbase' := Lib.hid hbase
  rw [hn] at hC' cl hown' hl' ⊢
  have hn' := Lib.hid hn
  clear hS hC hl hown hN hlen hbl hbase hrow hR hp hin hz hn
  go_enter Try.func20, Try.ntmps20
  go_wp2_with fail
  have hS2 := hS'.out ⟨#[], W.drawn⟩
  rw [plus_self] at hS2
  refine hS2.mono ?_
  rintro r w' ⟨rfl, x1, rfl⟩
  clear hS2 hS'
  have hsame : ∀ x, l = N → (∃ v', (plus W x).heap[bl]? = some (.cells #[v'] 33 (0, 0)) ∧ Nats (plus W x) base v' N ∧ But2 W (plus W x) bl (Value.slice ap n ac).ownBlock) := fun x e => by
    subst e
    have hB : Below W.heap.size W (plus W x) := below_plus W x
    refine ⟨_, heap_plus W x hl'.out, ?_, But2.of _ _ hB⟩
    have := own_up hown'.out hB
    rw [← hn'.out] at this ⊢
    exact this
  have hsame' := Lib.hid hsame
  clear hsame
  cases B with
  | false =>
    have e := Lib.hid (show l = N by rw [← hN'.out]; rfl)
    clear hN'
    go_wp2
    go_end0
    exact ⟨rfl, hsame'.out _ e.out⟩
  | true =>
    by_cases q1 : I < 0
    · have e := Lib.hid (show l = N by rw [← hN'.out, if_pos rfl, if_pos q1])
      have q2 : ¬ 0 ≤ I := by omega
      clear hN'
      go_wp2
      go_end0
      exact ⟨rfl, hsame'.out _ e.out⟩
    · obtain ⟨k, rfl⟩ : ∃ k : Nat, I = (k : Int) := ⟨I.toNat, by omega⟩
      have hN2 := hN'.out
      rw [if_pos rfl, if_neg q1, Int.toNat_natCast] at hN2
      simp only at hN2
      have qc := hC'.out k
      obtain ⟨Z, hZ⟩ : ∃ Z, l.contains k = Z := ⟨_, rfl⟩
      rw [hZ] at qc hN2
      have qc' := Lib.hid qc
      clear hN' hC' q1 qc hZ
      cases Z with
      | true =>
        have e := Lib.hid (show l = N by rw [← hN2, if_pos rfl])
        clear hN2
        go_wp2_with (first | (go_at_call 22; with_reducible refine (qc'.out _).mono ?_; rintro r w' ⟨rfl, x, rfl⟩))
        go_end0
        exact ⟨rfl, hsame'.out _ e.out⟩
      | false =>
        have e := Lib.hid (show l ++ [k] = N by rw [← hN2, if_neg (by decide)])
        clear hN2 hsame'
        have hb1 := Lib.hid (fun x => heap_plus W x hl'.out)
        have hb2 : Hid (∀ x, (plus W x).ownsRow base 3 1 (.slice ap n ac) n ((l.map natC).flatten)) := Lib.hid (fun x => by have := own_up hown'.out (below_plus W x); rwa [hn'.out] at this)
        go_wp2_with (first | (go_at_call 22; with_reducible refine (qc'.out _).mono ?_; rintro r w' ⟨rfl, x, rfl⟩) | (at_builtin; refine nats_one (.slice ap n ac) n hn'.out (hb2.out x) (Nat.le_trans hbase'.out (size_plus W x)) k _ rfl rfl _ _ rfl rfl rfl hlen'.out ?_; intro v' w2 h2 h3; obtain ⟨ap2, n2, ac2, rfl⟩ := nats_sl h2; have g1 := one_grown hb2.out hbl'.out hb1.out x h3; have g2 := cell_of_one g1; have g3 := free_of_one g1; have h2' := Lib.hid h2; have h3' := Lib.hid h3; have g1' := Lib.hid g1; clear h2 h3 g1))
        go_end0
        exact ⟨rfl, _, one_setCell g1'.out, by rw [← e.out]; exact ownsRow_setCell_below h2'.out hbl'.out _, but2_end h3'.out _⟩
end Go.Proofs.Ytplkiadkkefppaa
