/-
  WHAT IS PROVED HERE: the document's Same of layer 3 says yes of two slices of tokens that are the same, but for their places where it is not asked for them.
-/
import Derived.Test.YtiodfenkbhlpdaaDoorRows
import Derived.Test.YtiodfenkbhlpdaaDoorUj
import Derived.WalkKit
import Derived.WalkSpells
import Derived.WalkLawsBesides
namespace Go.Proofs.YtiodfenkbhlpdaaDoor
open Go.RowKit
/-- A token in a block of tokens. -/
structure TokAt (w : World) (g j : Nat) (t : Tok) : Prop where
  lt : g < w.heap.size
  c0 : w.cell? ⟨g, j * 6, none⟩ = some (.int .u8 (t.kind : Int))
  c1 : w.cell? ⟨g, j * 6 + 1, none⟩ = some (.string t.s)
  c2 : w.cell? ⟨g, j * 6 + 2, none⟩ = some (.int .i64 t.w)
  c3 : w.cell? ⟨g, j * 6 + 3, none⟩ = some (.int .u64 (hi t.n))
  c4 : w.cell? ⟨g, j * 6 + 4, none⟩ = some (.int .u64 (lo t.n))
  c5 : w.cell? ⟨g, j * 6 + 5, none⟩ = some (.int .i64 (t.at_ : Int))
theorem TokAt.plus {w : World} {g j : Nat} {t : Tok} (h : TokAt w g j t) (x : Ext) : TokAt (plus w x) g j t :=
  ⟨Nat.lt_of_lt_of_le h.lt (size_plus w x), (cell_plus w x _ _ h.lt).trans h.c0, (cell_plus w x _ _ h.lt).trans h.c1, (cell_plus w x _ _ h.lt).trans h.c2, (cell_plus w x _ _ h.lt).trans h.c3, (cell_plus w x _ _ h.lt).trans h.c4, (cell_plus w x _ _ h.lt).trans h.c5⟩
theorem same_none (a1 a2 : Option Addr) (c1 c2 : Nat) (p : Bool) (w : World) : Calls Tryd.prog 8 #[.slice a1 0 c1, .slice a2 0 c2, .bool p] w fun e w' => e = .returned (.bool true) ∧ ∃ x, w' = plus w x := by
  go_enter Tryd.func8, Tryd.ntmps8
  go_wp2
  refine wp_loop_rounds 1 ?_
  rw [rounds_succ]
  go_wp2
  go_ret
  exact ⟨rfl, ⟨#[], w.drawn⟩, (plus_self w).symm⟩
set_option maxHeartbeats 8000000 in
theorem ref_same (l1 l2 : List Tok) (p : Bool) (g1 g2 c1 c2 : Nat) (w : World) (hlen : l2.length = l1.length) (hb : l1.length ≤ 140737488355328)
    (h1 : ∀ j t, l1[j]? = some t → TokAt w g1 j t) (h2 : ∀ j t, l2[j]? = some t → TokAt w g2 j t)
    (hs : ∀ (j : Nat) (t u : Tok), l1[j]? = some t → l2[j]? = some u → t.kind = u.kind ∧ t.s = u.s ∧ t.w = u.w ∧ t.n = u.n ∧ (p = true → t.at_ = u.at_)) :
    Calls Tryd.prog 8 #[.slice (some ⟨g1, 0, none⟩) l1.length c1, .slice (some ⟨g2, 0, none⟩) l2.length c2, .bool p] w fun e w' => e = .returned (.bool true) ∧ ∃ x, w' = plus w x := by
  rw [hlen]
  have hn : ∃ n, l1.length = n := ⟨_, rfl⟩
  obtain ⟨n, hn⟩ := hn
  rw [hn] at hb ⊢
  have hn' := Lib.hid hn
  have hlen' := Lib.hid (hlen.trans hn)
  have h1' := Lib.hid h1
  have h2' := Lib.hid h2
  have hs' := Lib.hid hs
  clear h1 h2 hs hn hlen
  go_enter Tryd.func8, Tryd.ntmps8
  go_wp2
  go_loopw [7] (fun iv wr => ∃ k : Nat, k ≤ n ∧ iv = .int .i64 (k : Int) ∧ ∃ y, wr = plus w y) (fun iv _ => n - (intOf iv).toNat)
  case atStart => exact ⟨0, Nat.zero_le _, rfl, ⟨⟨#[], w.drawn⟩, (plus_self w).symm⟩⟩
  case round =>
    obtain ⟨k, hk, rfl, y, rfl⟩ := hrel
    by_cases hlt : k < n
    · obtain ⟨t, ht⟩ : ∃ t, l1[k]? = some t := ⟨l1[k]'(by rw [hn'.out]; exact hlt), List.getElem?_eq_getElem _⟩
      obtain ⟨u, hu⟩ : ∃ u, l2[k]? = some u := ⟨l2[k]'(by rw [hlen'.out]; exact hlt), List.getElem?_eq_getElem _⟩
      have T := h1'.out k t ht
      have U := h2'.out k u hu
      obtain ⟨e1, e2, e3, e4, e5⟩ := hs'.out k t u ht hu
      obtain ⟨K, S, D, N, A⟩ := t
      obtain ⟨K2, S2, D2, N2, A2⟩ := u
      simp only at e1 e2 e3 e4 e5
      subst e1 e2 e3 e4
      have a0 := fun y => (T.plus y).c0
      have a1 := fun y => (T.plus y).c1
      have a2 := fun y => (T.plus y).c2
      have a3 := fun y => (T.plus y).c3
      have a4 := fun y => (T.plus y).c4
      have a5 := fun y => (T.plus y).c5
      have b0 := fun y => (U.plus y).c0
      have b1 := fun y => (U.plus y).c1
      have b2 := fun y => (U.plus y).c2
      have b3 := fun y => (U.plus y).c3
      have b4 := fun y => (U.plus y).c4
      have b5 := fun y => (U.plus y).c5
      simp only at a0 a1 a2 a3 a4 a5 b0 b1 b2 b3 b4 b5
      have qs : (S.toList == S.toList) = true := by simp
      have qn : ∀ w, (binOp .neq 33 (nv N) (nv N)).run Tryd.prog w = .ok (.bool false) w := fun w => (neq_nv N N w).trans (by simp)
      have hlt' := Lib.hid hlt
      clear T U ht hu
      cases p with
      | true =>
        obtain rfl := e5 rfl
        clear e5
        go_wp2
        try simp only [List.append]
        refine wp_region_own (by kernel_rfl) (by kernel_rfl) ?_
        repeat (go_big_quiet_step (fail))
        refine wpQuiet_nil ?_
        rintro _ ⟨y1, rfl⟩
        go_wp2
        go_roundw
        case rel => exact ⟨k + 1, by have := hlt'.out; omega, by go_num, y1, rfl⟩
        case measure => simp [intOf]; have := hlt'.out; omega
      | false =>
        clear e5
        go_wp2
        try simp only [List.append]
        refine wp_region_own (by kernel_rfl) (by kernel_rfl) ?_
        repeat (go_big_quiet_step (fail))
        refine wpQuiet_nil ?_
        rintro _ ⟨y1, rfl⟩
        go_wp2
        go_roundw
        case rel => exact ⟨k + 1, by have := hlt'.out; omega, by go_num, y1, rfl⟩
        case measure => simp [intOf]; have := hlt'.out; omega
    · go_wp2
      go_ret
      exact ⟨rfl, y, rfl⟩
end Go.Proofs.YtiodfenkbhlpdaaDoor
