/-
  WHAT IS PROVED HERE: what the landed Next hands back, of any program and any of its states: nextF, in memory of its own.
-/
import Derived.Test.YtplkiadkkefppaaRows
import Derived.Test.YtplkiadkkefppaaOe
namespace Go.Proofs.Ytplkiadkkefppaa
open Go.RowKit
theorem own_mono {w : World} {base base' : Nat} {e : TypeId} {C : Nat} {v : Value} {n : Nat} {xs : List Value} (h : w.ownsRow base e C v n xs) (hb : base' ≤ base) : w.ownsRow base' e C v n xs := by
  obtain ⟨hl, h2⟩ := h
  refine ⟨hl, ?_⟩
  rcases h2 with h2 | ⟨g, cap, cur, hv, hg, r⟩
  · exact .inl h2
  · exact .inr ⟨g, cap, cur, hv, by omega, r⟩
/-- While Next goes on: its three boxes, and the row that it makes. -/
structure NxI (p : Pr) (x : Sa) (V : World) (b : Nat) (W : World) (v : Value) (l : List Nat) : Prop where
  below : Below b V W
  size : b + 3 ≤ W.heap.size
  pbox : ∀ j u, p.cells[j]? = some u → W.cell? ⟨b, j, none⟩ = some u
  sbox : ∀ j u, x.cells[j]? = some u → W.cell? ⟨b + 2, j, none⟩ = some u
  lbox : W.heap[b + 1]? = some (.cells #[v] 33 (0, 0))
  own : Nats W (b + 3) v l
theorem cell_block {W W' : World} {b j : Nat} {u : Value} (h : W.cell? ⟨b, j, none⟩ = some u) (e : W'.heap[b]? = W.heap[b]?) : W'.cell? ⟨b, j, none⟩ = some u := (World.cell?_of_block (w := W) e).trans h
theorem NxI.up {p : Pr} {x : Sa} {V W W' : World} {b : Nat} {v : Value} {l : List Nat} (h : NxI p x V b W v l) (hB : Below W.heap.size W W') : NxI p x V b W' v l := by
  have hs := h.size
  have hb := fun k (hk : k < b + 3) => hB.block k (by omega)
  exact ⟨h.below.trans (hB.mono (by omega)), Nat.le_trans h.size hB.size, fun j u hu => cell_block (h.pbox j u hu) (hb b (by omega)), fun j u hu => cell_block (h.sbox j u hu) (hb (b + 2) (by omega)), (hb (b + 1) (by omega)).trans h.lbox, own_up h.own hB⟩
theorem NxI.add {p : Pr} {x : Sa} {V W W' : World} {b : Nat} {v v' : Value} {l l' : List Nat} (h : NxI p x V b W v l) (h1 : W'.heap[b + 1]? = some (.cells #[v'] 33 (0, 0))) (h2 : Nats W' (b + 3) v' l') (h3 : But2 W W' (b + 1) v.ownBlock) : NxI p x V b W' v' l' := by
  have hs := h.size
  have hr := fun k (e : v.ownBlock = some k) => (h.own.lt k e).1
  have hb := fun k (hk : k < b + 3) (hne : k ≠ b + 1) => h3.block k (by omega) hne fun e => by have := hr k e.symm; omega
  exact ⟨h.below.trans (h3.below (by omega) (by omega) fun k e => by have := hr k e; omega), Nat.le_trans h.size h3.size, fun j u hu => cell_block (h.pbox j u hu) (hb b (by omega) (by omega)), fun j u hu => cell_block (h.sbox j u hu) (hb (b + 2) (by omega) (by omega)), h1, h2⟩
theorem three_new (V : World) (x y z : Obj) : Below V.heap.size V (((V.alloc x).alloc y).alloc z) ∧ (((V.alloc x).alloc y).alloc z).heap.size = V.heap.size + 3 ∧ (((V.alloc x).alloc y).alloc z).heap[V.heap.size]? = some x ∧ (((V.alloc x).alloc y).alloc z).heap[V.heap.size + 1]? = some y ∧ (((V.alloc x).alloc y).alloc z).heap[V.heap.size + 2]? = some z := by
  have s1 : (V.alloc x).heap.size = V.heap.size + 1 := by simp
  have s2 : ((V.alloc x).alloc y).heap.size = V.heap.size + 2 := by simp
  refine ⟨(((Below.refl _ V).alloc (Nat.le_refl _) x).alloc (by omega) y).alloc (by omega) z, by simp, ?_, ?_, ?_⟩
  · rw [Below.heap_alloc _ _ _ (by omega), Below.heap_alloc _ _ _ (by omega)]; exact heap_alloc_new V x
  · rw [Below.heap_alloc _ _ _ (by omega), ← s1]; exact heap_alloc_new _ y
  · rw [← s2]; exact heap_alloc_new _ z
theorem cell_heap {W : World} {b : Nat} {cs : Array Value} {t : TypeId} {fr : Nat × Nat} (h : W.heap[b]? = some (.cells cs t fr)) (j : Nat) (u : Value) (hj : cs[j]? = some u) : W.cell? ⟨b, j, none⟩ = some u := by simp [World.cell?, h, hj]
/-- The literal's call, as Next makes it. -/
theorem nx_call {p : Pr} {x : Sa} {V W : World} {b : Nat} {v : Value} {l : List Nat} (h : NxI p x V b W v l) (hin : p.In V) (hb : V.heap.size = b) (hz : p.sz ≤ 1048576) (hl : l.length ≤ 1048576) (s : ByteArray) :
    Calls Try.prog 20 #[.string s, .pointer (some ⟨b, 0, none⟩), .pointer (some ⟨b + 1, 0, none⟩)] W fun e W' => e = .returned (.tuple #[]) ∧ ∃ v', NxI p x V b W' v' (addF p.states.l l s) := by
  obtain ⟨z, hzz⟩ := plus_of_below (hb ▸ h.below)
  refine (add_in p W (hzz ▸ hin.plus z) hz b (b + 1) (b + 3) v l s h.pbox h.lbox h.own (by omega) h.size hl).mono ?_
  rintro e W' ⟨rfl, v', h1, h2, h3⟩
  exact ⟨rfl, v', h.add h1 h2 h3⟩
theorem nx_start (p : Pr) (x : Sa) (V : World) (cs ds : Array Value) (t1 t3 : TypeId) (h1 : cs.toList = p.cells) (h2 : ds.toList = x.cells) :
    ∃ W, ((V.alloc (.cells cs t1)).alloc (.cells #[.slice none 0 0] 33)).alloc (.cells ds t3) = W ∧ NxI p x V V.heap.size W (.slice none 0 0) [] := by
  obtain ⟨hB, hs, e0, e1, e2⟩ := three_new V (.cells cs t1) (.cells #[.slice none 0 0] 33) (.cells ds t3)
  exact ⟨_, rfl, hB, by omega, fun j u hu => cell_heap e0 j u (by rw [← h1] at hu; simpa using hu), fun j u hu => cell_heap e2 j u (by rw [← h2] at hu; simpa using hu), e1, World.ownsRow_nil _ _ _ _⟩
set_option maxRecDepth 100000 in
set_option maxHeartbeats 8000000 in
theorem next_in (p : Pr) (V : World) (hin : p.In V) (hz : p.sz ≤ 1048576) (k : Nat) (hk : k < p.states.l.length) :
    Calls Try.prog 9 #[prV p, .int .i64 (k : Int)] V fun e W => ∃ v, e = .returned v ∧ Nats W V.heap.size v (nextF p.states.l k) ∧ Below V.heap.size V W := by
  obtain ⟨x, hx⟩ : ∃ x, p.states.l[k]? = some x := ⟨_, List.getElem?_eq_getElem hk⟩
  obtain ⟨pa, hpa, hcs⟩ := hin.states.row k x hx
  have hxi := hin.states.kids x (List.mem_of_getElem? hx)
  have hlen := (pr_len hz).2.2.1
  have hgo : ∀ l, Goes p.states.l l → l.length ≤ 1048576 := fun l h => Nat.le_trans h.le hlen
  obtain ⟨N, hN⟩ : ∃ N, nextF p.states.l k = N := ⟨_, rfl⟩
  rw [hN]
  unfold nextF at hN
  rw [hx] at hN
  simp only at hN
  have hcl : x.cases.l.length ≤ 1048576 := by
    have h1 := le_sum_of Sa.sz p.states.l x (List.mem_of_getElem? hx)
    have h2 : p.sz = p.headers.size Hr.sz + p.metas.size Fd.sz + p.states.size Sa.sz + p.actions.size Ac.sz + p.tables.size Ta.sz + p.control.size St.sz + p.emit.size strSize := rfl
    have h3 : p.states.size Sa.sz = (p.states.l.map Sa.sz).sum := rfl
    have h4 : x.cases.size Ca.sz ≤ x.sz := by unfold Sa.sz; omega
    exact len_le Ca.sz sz_pos_ca x.cases (by omega)
  obtain ⟨b, hb⟩ : ∃ b, V.heap.size = b := ⟨_, rfl⟩
  obtain ⟨n, hn⟩ : ∃ n, p.states.l.length = n := ⟨_, rfl⟩
  have hk1 : ¬ ((n : Int) ≤ (k : Int)) := by omega
  have hk0 : ¬ ((k : Int) < 0) := by omega
  have d0 := fun o1 o2 => cell_alloc (cell_alloc (hcs.c0 _ rfl) o1) o2
  have d1 := fun o1 o2 => cell_alloc (cell_alloc (hcs.cs 0 _ rfl) o1) o2
  have d2 := fun o1 o2 => cell_alloc (cell_alloc (hcs.cs 1 _ rfl) o1) o2
  have d3 := fun o1 o2 => cell_alloc (cell_alloc (hcs.cs 2 _ rfl) o1) o2
  have d4 := fun o1 o2 => cell_alloc (cell_alloc (hcs.cs 3 _ rfl) o1) o2
  simp only [Sl.v] at d0 d1 d2 d3 d4
  have hmf : ∀ (fn : Fn) (first cap : Array Value) (w : World), (Instr.makeFunc fn first cap).run Try.prog w = .ok (.func fn first cap) w := fun _ _ _ _ => rfl
  have hkn : k < n := by omega
  obtain ⟨xn, xt, xto, xk, ⟨cp, cc, cl⟩⟩ := x
  have hin' := Lib.hid hin
  have hz' := Lib.hid hz
  have hN' := Lib.hid hN
  have hgo' := Lib.hid hgo
  have hcl' := Lib.hid hcl
  have hb' := Lib.hid hb
  have hpe : p.states.p = some pa := hpa
  have h1' : Hid ((#[.slice p.headers.p p.headers.l.length p.headers.cap, .slice p.metas.p p.metas.l.length p.metas.cap, .slice (some pa) n p.states.cap, .slice p.actions.p p.actions.l.length p.actions.cap, .slice p.tables.p p.tables.l.length p.tables.cap, .slice p.control.p p.control.l.length p.control.cap, .slice p.emit.p p.emit.l.length p.emit.cap] : Array Value).toList = p.cells) := Lib.hid (by simp [Pr.cells, Sl.v, hpe, hn])
  have hrow' := Lib.hid (hxi.cases.row)
  simp only at hcl' hN' hrow' d0 d1 d2 d3 d4
  obtain ⟨m, hm⟩ : ∃ m, cl.length = m := ⟨_, rfl⟩
  rw [hm] at hcl' d4
  simp only [prV]
  rw [hpe, hn]
  have hm' := Lib.hid hm
  clear hin hz hN hgo hcl hxi hb hpa hpe hk hx hlen hcs hn hm
  have h2' : Hid ((#[.string xn, .slice xt.p xt.l.length xt.cap, .string xto, .slice xk.p xk.l.length xk.cap, .slice cp m cc] : Array Value).toList = Sa.cells ⟨xn, xt, xto, xk, ⟨cp, cc, cl⟩⟩) := Lib.hid (by rw [← hm'.out]; rfl)
  have hcase : ∀ (W : World) (v : Value) (l0 : List Nat), NxI p ⟨xn, xt, xto, xk, ⟨cp, cc, cl⟩⟩ V b W v l0 → Goes p.states.l l0 → caseF p.states.l l0 cl = N → Hid (∃ v, NxI p ⟨xn, xt, xto, xk, ⟨cp, cc, cl⟩⟩ V b W v l0) ∧ Hid (Goes p.states.l l0 ∧ caseF p.states.l l0 cl = N) := fun W v l0 a c d => ⟨Lib.hid ⟨v, a⟩, Lib.hid ⟨c, d⟩⟩
  have hcase' := Lib.hid hcase
  clear hcase
  by_cases q : xto.toList = []
  · have e0 := hN'.out
    rw [if_pos q] at e0
    have e0' := Lib.hid e0
    clear e0
    go_enter Try.func9, Try.ntmps9
    go_wp2_with fail
    obtain ⟨W, hW, hI⟩ := nx_start p ⟨xn, xt, xto, xk, ⟨cp, cc, cl⟩⟩ V _ _ 30 59 h1'.out h2'.out
    rw [hW]
    rw [hb'.out] at hI ⊢
    obtain ⟨hI', hl'⟩ := hcase'.out W _ [] hI (Goes.nil _) e0'.out
    obtain ⟨l0, hl0⟩ : ∃ l0 : List Nat, [] = l0 := ⟨_, rfl⟩
    rw [hl0] at hI' hl'
    clear hW hI e0' d0 d1 d2 d3 d4 hl0
    go_loopw [9, 35] (fun _ iv wr => ∃ j : Nat, j ≤ m ∧ iv = .int .i64 (j : Int) ∧ Hid (∃ v, NxI p ⟨xn, xt, xto, xk, ⟨cp, cc, cl⟩⟩ V b wr v (caseF p.states.l l0 (cl.take j)))) (fun _ iv _ => m - (intOf iv).toNat)
    case atStart => exact ⟨0, Nat.zero_le _, rfl, hI'⟩
    case round =>
      obtain ⟨j, hj, rfl, hJ⟩ := hrel
      by_cases hlt : j < m
      · obtain ⟨c, hc⟩ : ∃ c, cl[j]? = some c := ⟨cl[j]'(by rw [hm'.out]; exact hlt), List.getElem?_eq_getElem _⟩
        obtain ⟨pc, rfl, hcc⟩ := hrow'.out j c hc
        obtain ⟨z, hzz⟩ := plus_of_below (by rw [hb'.out]; obtain ⟨v, h⟩ := hJ.out; exact h.below : Below V.heap.size V wr)
        have hcw := cells_up hzz hcc
        have hstep := case_step p.states.l l0 cl j c hc
        obtain ⟨cd, ⟨ap, ac, al⟩, ct⟩ := c
        have f0 := hcw.c0 _ rfl
        have f1 := hcw.cs 0 _ rfl
        have f2 := hcw.cs 1 _ rfl
        simp only [Sl.v] at f0 f1 f2 hstep
        have a6 := Lib.hid (wr_succ j m hlt hcl'.out)
        have hstep' := Lib.hid hstep
        have hgj := Lib.hid (hgo'.out _ (Goes.cases (cl.take j) hl'.out.1))
        clear hc hcc hzz hcw hstep
        go_wp2_with fail
        obtain ⟨v, hv⟩ := hJ.out
        refine (nx_call (hv.up ((Below.refl _ wr).alloc (Nat.le_refl _) _)) hin'.out hb'.out hz'.out hgj.out ct).mono ?_
        rintro e W' ⟨rfl, v', hI2⟩
        have hI2' := Lib.hid hI2
        clear hv hI2 f0 f1 f2
        go_wp2
        go_roundw
        case rel => exact ⟨j + 1, hlt, congrArg (Value.int .i64) a6.out, Lib.hid ⟨v', by rw [hstep'.out]; exact hI2'.out⟩⟩
        case measure => exact step_less j m hlt a6.out
      · obtain rfl : j = m := by omega
        obtain ⟨v, hv⟩ := hJ.out
        obtain ⟨ap, an, ac, rfl⟩ := nats_sl hv.own
        have g1 := cell_of_one hv.lbox
        have hv' := Lib.hid hv
        clear hlt hj hJ hv
        go_wp2
        go_ret
        refine ⟨_, rfl, ?_, by rw [hb'.out]; exact hv'.out.below⟩
        have h5 := hv'.out.own
        rw [List.take_of_length_le (by rw [hm'.out]; exact Nat.le_refl _), hl'.out.2] at h5
        rw [hb'.out]
        exact own_mono h5 (by omega)
  · have q2 : (xto.toList == []) = false := by simpa using q
    have e0 := hN'.out
    rw [if_neg q] at e0
    have e0' := Lib.hid e0
    clear e0
    go_enter Try.func9, Try.ntmps9
    go_wp2_with fail
    obtain ⟨W, hW, hI⟩ := nx_start p ⟨xn, xt, xto, xk, ⟨cp, cc, cl⟩⟩ V _ _ 30 59 h1'.out h2'.out
    rw [hW]
    rw [hb'.out] at hI ⊢
    refine (nx_call hI hin'.out hb'.out hz'.out (by simp) xto).mono ?_
    rintro e W' ⟨rfl, v', hI2⟩
    have g4 := hI2.sbox 4 _ rfl
    simp only [Sl.v] at g4
    rw [hm'.out] at g4
    obtain ⟨hI', hl'⟩ := hcase'.out W' _ _ hI2 ((Goes.nil _).add xto) e0'.out
    obtain ⟨l0, hl0⟩ : ∃ l0 : List Nat, addF p.states.l [] xto = l0 := ⟨_, rfl⟩
    rw [hl0] at hI' hl'
    clear hW hI e0' d0 d1 d2 d3 d4 hl0 hI2
    go_wp2
    clear g4
    go_loopw [9, 35] (fun _ iv wr => ∃ j : Nat, j ≤ m ∧ iv = .int .i64 (j : Int) ∧ Hid (∃ v, NxI p ⟨xn, xt, xto, xk, ⟨cp, cc, cl⟩⟩ V b wr v (caseF p.states.l l0 (cl.take j)))) (fun _ iv _ => m - (intOf iv).toNat)
    case atStart => exact ⟨0, Nat.zero_le _, rfl, hI'⟩
    case round =>
      obtain ⟨j, hj, rfl, hJ⟩ := hrel
      by_cases hlt : j < m
      · obtain ⟨c, hc⟩ : ∃ c, cl[j]? = some c := ⟨cl[j]'(by rw [hm'.out]; exact hlt), List.getElem?_eq_getElem _⟩
        obtain ⟨pc, rfl, hcc⟩ := hrow'.out j c hc
        obtain ⟨z, hzz⟩ := plus_of_below (by rw [hb'.out]; obtain ⟨v, h⟩ := hJ.out; exact h.below : Below V.heap.size V wr)
        have hcw := cells_up hzz hcc
        have hstep := case_step p.states.l l0 cl j c hc
        obtain ⟨cd, ⟨ap, ac, al⟩, ct⟩ := c
        have f0 := hcw.c0 _ rfl
        have f1 := hcw.cs 0 _ rfl
        have f2 := hcw.cs 1 _ rfl
        simp only [Sl.v] at f0 f1 f2 hstep
        have a6 := Lib.hid (wr_succ j m hlt hcl'.out)
        have hstep' := Lib.hid hstep
        have hgj := Lib.hid (hgo'.out _ (Goes.cases (cl.take j) hl'.out.1))
        clear hc hcc hzz hcw hstep
        go_wp2_with fail
        obtain ⟨v, hv⟩ := hJ.out
        refine (nx_call (hv.up ((Below.refl _ wr).alloc (Nat.le_refl _) _)) hin'.out hb'.out hz'.out hgj.out ct).mono ?_
        rintro e W' ⟨rfl, v', hI2⟩
        have hI2' := Lib.hid hI2
        clear hv hI2 f0 f1 f2
        go_wp2
        go_roundw
        case rel => exact ⟨j + 1, hlt, congrArg (Value.int .i64) a6.out, Lib.hid ⟨v', by rw [hstep'.out]; exact hI2'.out⟩⟩
        case measure => exact step_less j m hlt a6.out
      · obtain rfl : j = m := by omega
        obtain ⟨v, hv⟩ := hJ.out
        obtain ⟨ap, an, ac, rfl⟩ := nats_sl hv.own
        have g1 := cell_of_one hv.lbox
        have hv' := Lib.hid hv
        clear hlt hj hJ hv
        go_wp2
        go_ret
        refine ⟨_, rfl, ?_, by rw [hb'.out]; exact hv'.out.below⟩
        have h5 := hv'.out.own
        rw [List.take_of_length_le (by rw [hm'.out]; exact Nat.le_refl _), hl'.out.2] at h5
        rw [hb'.out]
        exact own_mono h5 (by omega)
end Go.Proofs.Ytplkiadkkefppaa
