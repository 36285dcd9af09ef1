/-
  WHAT IS PROVED HERE: what the law's under hands back: what calls mean under some bits, by truths alone.
-/
import Derived.Test.YtfphilgdikanfaaBdN
import Derived.Test.YtfphilgdikanfaaBdR
namespace Go.Proofs.Ytfphilgdikanfaa
open Go.RowKit
def bopCells (o : BOp) : List Value := [.int .i64 o.k, .int .i64 o.a, .int .i64 o.b, .int .i64 o.c, .bool o.on]
/-- These calls lie there. -/
def OpsAt (W : World) (p : Option Addr) (l : List BOp) : Prop := ∀ (i : Nat) (o : BOp), l[i]? = some o → ∃ pa : Addr, p = some pa ∧ ∀ j v, (bopCells o)[j]? = some v → W.cell? ((pa.add (i * 5)).add j) = some v
theorem OpsAt.below {W Z : World} {p : Option Addr} {l : List BOp} (h : OpsAt W p l) {B : Nat} (hB : Below B W Z) (hW : B = W.heap.size) : OpsAt Z p l := fun i o ho => by
  obtain ⟨pa, h1, h2⟩ := h i o ho
  refine ⟨pa, h1, fun j v hv => ?_⟩
  have h3 := h2 j v hv
  have hlt : ((pa.add (i * 5)).add j).block < W.heap.size := by
    by_cases q : ((pa.add (i * 5)).add j).block < W.heap.size
    · exact q
    · have e : W.heap[((pa.add (i * 5)).add j).block]? = none := Array.getElem?_eq_none (by omega)
      simp [World.cell?, e] at h3
  exact (hB.cell (by rw [hW]; exact hlt)).trans h3
theorem OpsAt.plus {W : World} {p : Option Addr} {l : List BOp} (h : OpsAt W p l) (y : Ext) : OpsAt (plus W y) p l := h.below (below_plus W y) rfl
/-- The index that stands so far back. -/
theorem back_lt {n : Nat} (hn : 0 < n) (i : Nat) : n - 1 - i % n < n := by omega
theorem opAt_at {α : Type} (d : α) {all : List α} {i : Nat} (h : 0 < all.length) : all[all.length - 1 - i % all.length]? = some (opAt d all (i : Int)) := by
  unfold opAt
  rw [if_neg (by omega), Int.toNat_natCast, List.getD_eq_getElem?_getD]
  have := back_lt h i
  rw [List.getElem?_eq_getElem this]
  rfl
theorem opAt_none {α : Type} (d : α) {all : List α} {i : Int} (h : i < 0 ∨ all.length = 0) : opAt d all i = d := by unfold opAt; rw [if_pos h]
set_option maxRecDepth 100000 in
set_option maxHeartbeats 8000000 in
/-- What was told so far back, of truths in a row that a box tells. -/
theorem under_at {V : World} (b : Nat) (p : Option Addr) (l : List Bool) (c : Nat) (hb : ∀ y, (plus V y).cell? ⟨b, 0, none⟩ = some (.slice p l.length c)) (hl : BdBits V p l) (hn : l.length ≤ 1048576) (i : Int) :
    BdPure Try.prog V 24 #[.int .i64 i, .pointer (some ⟨b, 0, none⟩)] (.bool (opAt false l i)) := by
  intro y0
  by_cases q1 : i < 0
  · have q1b : decide (i < 0) = true := decide_eq_true q1
    rw [opAt_none false (.inl q1)]
    clear q1 hl
    go_enter Try.func24, Try.ntmps24
    go_wp2
    go_ret
    exact ⟨rfl, _, rfl⟩
  · have q1b : decide (i < 0) = false := decide_eq_false q1
    obtain ⟨k, rfl⟩ : ∃ k : Nat, i = (k : Int) := ⟨i.toNat, by omega⟩
    obtain ⟨n, hln⟩ : ∃ n, l.length = n := ⟨_, rfl⟩
    by_cases q2 : n = 0
    · have e : Hid (opAt false l (k : Int) = false) := Lib.hid (opAt_none false (.inr (by rw [hln]; exact q2)))
      rw [e.out]
      rw [hln] at hb
      subst q2
      clear q1 hl hln hn
      go_enter Try.func24, Try.ntmps24
      go_wp2
      go_ret
      exact ⟨rfl, _, rfl⟩
    · have hpos : 0 < l.length := by omega
      have hat := opAt_at false (i := k) hpos
      obtain ⟨x, hx⟩ : ∃ x, opAt false l (k : Int) = x := ⟨_, rfl⟩
      rw [hx] at hat ⊢
      obtain ⟨pa, rfl, hpa⟩ := hl _ _ hat
      have hpa2 := fun y => (hl.plus y) _ _ hat
      rw [hln] at hb hn hat
      have d0 : ∀ y, (plus V y).cell? (pa.add (n - 1 - k % n)) = some (.bool x) := fun y => by
        obtain ⟨pa2, e2, h2⟩ := hpa2 y
        cases e2
        rw [hln] at h2
        exact h2
      have q2b : ((n : Int) == 0) = false := by simp; omega
      have hm : k % n < n := Nat.mod_lt _ (by omega)
      clear hl hat hpa hpa2 hx hpos hln q1
      go_enter Try.func24, Try.ntmps24
      go_wp2_with fail
      have r1 : IntKind.i64.wrap ((n : Int) - 1) = (n : Int) - 1 := IntWalk.i64_in _ (by omega)
      have r2 : (k : Int).tmod (n : Int) = ((k % n : Nat) : Int) := rfl
      obtain ⟨m, hmm⟩ : ∃ m, k % n = m := ⟨_, rfl⟩
      rw [hmm] at r2 hm d0
      obtain ⟨j, hj⟩ : ∃ j, n - 1 - m = j := ⟨_, rfl⟩
      have hjn : j < n := by omega
      have r3 : IntKind.i64.wrap ((n : Int) - 1 - (m : Int)) = (j : Int) := by rw [IntWalk.i64_in _ (by omega)]; omega
      rw [hj] at d0
      clear hmm hj hm
      refine wp_region_own (by kernel_rfl) (by kernel_rfl) ?_
      repeat (go_big_quiet_step (fail))
      refine wpQuiet_nil ?_
      rintro _ ⟨y, rfl⟩
      go_wp2
      go_ret
      exact ⟨rfl, _, rfl⟩
theorem bd_bool_info : (Try.prog.info? 4).map (fun i => (i.zero, i.size, i.bytes)) = some (some (.bool false), 1, 1) := by kernel_rfl
theorem bd_int_info : (Try.prog.info? 3).map (fun i => (i.zero, i.size, i.bytes)) = some (some (.int .i64 0), 1, 8) := by kernel_rfl
/-- One value, built in place, is appended to a row of one's own. -/
theorem bd_push {W : World} {base : Nat} {et st : TypeId} {z : Value} {bytes : Nat} (hinfo : (Try.prog.info? et).map (fun i => (i.zero, i.size, i.bytes)) = some (some z, 1, bytes)) (hst : Try.prog.underlying st = some (.slice et)) (hz1 : z.cells.size = 1) (hby : bytes ≤ 16)
    (v : Value) {n : Nat} {xs : List Value} (h : W.ownsRow base et 1 v n xs) (hbase : base ≤ W.heap.size) (u : Value) (hu : u.oneCell' = true) (hn : n ≤ 1048576) {ops : Array Oper} {rest : List Oper} {o : Oper} {a : Act} {Q : Exit → Act → World → Prop} (s x : Operand)
    (ho : (o.guard, o.op) = (none, .call { callee := .builtin .append, args := #[s, x], argTypes := #[st, st] })) (hs : a.eval s = v) (hx : a.eval x = .slice (some ⟨W.heap.size, 0, none⟩) 1 1)
    (k : ∀ v' w', w'.ownsRow base et 1 v' (n + 1) (xs ++ [u]) → (W.alloc (.cells #[u] et)).grownBy w' v.ownBlock → wpList Try.prog ops Q rest (a.put o.dst v') w') : wpList Try.prog ops Q (o :: rest) a (W.alloc (.cells #[u] et)) := by
  obtain ⟨i0, hi0, hi1, hi2, hi3⟩ := info_parts hinfo
  obtain ⟨hgd, hop⟩ := Prod.mk.inj ho
  have h2 : (W.alloc (.cells #[u] et)).ownsRow base et 1 v n xs := by
    obtain ⟨hl, h2⟩ := h
    refine ⟨hl, ?_⟩
    rcases h2 with h2 | ⟨g, cap, cur, hv, hg, hh, r⟩
    · exact .inl h2
    · exact .inr ⟨g, cap, cur, hv, hg, (Below.heap_alloc _ _ _ (Array.getElem?_eq_some_iff.1 hh).1).trans hh, r⟩
  refine wpList_append_own _ hgd s x st hop base et i0 z 1 bytes hst hi0 hi1 hi2 hi3 hz1 (by decide) v n xs hs h2 ⟨W.heap.size, 0, none⟩ 1 1 [u] hx rfl (World.news_of_block (heap_alloc_new _ _)) (fun y hy => by simp at hy; rw [hy]; exact hu) (by simp only [maxLen]; omega) ?_ (by simp; omega) fun v' w' h3 h4 _ => k v' w' h3 h4
  have : (n + 1) * bytes ≤ (n + 1) * 16 := Nat.mul_le_mul_left _ hby
  omega
theorem bd_own_slice {w : World} {base : Nat} {e : TypeId} {C : Nat} {v : Value} {n : Nat} {xs : List Value} (h : w.ownsRow base e C v n xs) : ∃ p c, v = .slice p n c := by
  obtain ⟨_, ⟨rfl, rfl⟩ | ⟨g, cap, cur, rfl, _⟩⟩ := h
  · exact ⟨none, 0, rfl⟩
  · exact ⟨_, _, rfl⟩
theorem bd_own_bits {w : World} {base : Nat} {p : Option Addr} {c : Nat} {l : List Bool} (h : w.ownsRow base 4 1 (.slice p l.length c) l.length (l.map Value.bool)) : BdBits w p l := fun i x hx => by
  obtain ⟨_, ⟨h1, h2⟩ | ⟨g, cap, cur, hv, hg, hh, h3, h4, h5, h6⟩⟩ := h
  · have := (List.getElem?_eq_some_iff.1 hx).1; omega
  · cases hv
    refine ⟨_, rfl, ?_⟩
    have hlt := (List.getElem?_eq_some_iff.1 hx).1
    have e : (l.map Value.bool)[i]? = some (.bool x) := by rw [List.getElem?_map, hx]; rfl
    rw [← h6, List.getElem?_take_of_lt (by omega)] at e
    rw [Addr.add_lit, Nat.zero_add]
    exact bd_cell hh _ _ (by simpa using e)
/-- The law's under, between two rounds. -/
structure UnI (W V : World) (b : Nat) (v : Value) (acc : List Bool) : Prop where
  below : Below b W V
  size : b + 1 ≤ V.heap.size
  box : V.heap[b]? = some (.cells #[v] 33 (0, 0))
  own : V.ownsRow (b + 1) 4 1 v acc.length (acc.map Value.bool)
theorem UnI.start (W : World) : UnI W (W.alloc (.cells #[.slice none 0 0] 33)) W.heap.size (.slice none 0 0) [] :=
  ⟨(Below.refl _ _).alloc (Nat.le_refl _) _, by simp, heap_alloc_new _ _, World.ownsRow_nil _ _ _ _⟩
end Go.Proofs.Ytfphilgdikanfaa
