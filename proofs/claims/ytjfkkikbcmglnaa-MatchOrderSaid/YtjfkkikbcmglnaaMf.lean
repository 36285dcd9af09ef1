/-
  WHAT IS PROVED HERE: the law MatchOrder is true of any three patterns, any number and any width, in whatever world. No condition but that the halves are of 64 bits.
-/
import Derived.WalkKit
import Derived.Lib.Hide
import Derived.Test.YtjfkkikbcmglnaaRows
import Derived.Test.YtjfkkikbcmglnaaMe
import Derived.WalkSpells
import Derived.WalkLawsBesides
import Derived.Deep.CutRange
namespace Go.Proofs.Ytjfkkikbcmglnaa
open Go.RowKit
theorem abs_world11 {P : Program} {c : Code} {Q : Exit → Act → World → Prop} {a : Act} {W : World} {T : World → Prop} (h : ∀ W, T W → c.wp P Q a W) (hT : T W) : c.wp P Q a W := h W hT
/-- Three patterns and a number in blocks of their own. -/
structure Four (w W : World) (a m b n c o k : Nat) : Prop where
  below : Below w.heap.size w W
  le : w.heap.size + 4 ≤ W.heap.size
  a0 : W.cell? ⟨w.heap.size, 0, none⟩ = some (.int .u64 (hi a))
  a1 : W.cell? ⟨w.heap.size, 1, none⟩ = some (.int .u64 (lo a))
  a2 : W.cell? ⟨w.heap.size, 2, none⟩ = some (.int .u64 (hi m))
  a3 : W.cell? ⟨w.heap.size, 3, none⟩ = some (.int .u64 (lo m))
  b0 : W.cell? ⟨w.heap.size + 1, 0, none⟩ = some (.int .u64 (hi b))
  b1 : W.cell? ⟨w.heap.size + 1, 1, none⟩ = some (.int .u64 (lo b))
  b2 : W.cell? ⟨w.heap.size + 1, 2, none⟩ = some (.int .u64 (hi n))
  b3 : W.cell? ⟨w.heap.size + 1, 3, none⟩ = some (.int .u64 (lo n))
  c0 : W.cell? ⟨w.heap.size + 1 + 1, 0, none⟩ = some (.int .u64 (hi c))
  c1 : W.cell? ⟨w.heap.size + 1 + 1, 1, none⟩ = some (.int .u64 (lo c))
  c2 : W.cell? ⟨w.heap.size + 1 + 1, 2, none⟩ = some (.int .u64 (hi o))
  c3 : W.cell? ⟨w.heap.size + 1 + 1, 3, none⟩ = some (.int .u64 (lo o))
  k0 : W.cell? ⟨w.heap.size + 1 + 1 + 1, 0, none⟩ = some (.int .u64 (hi k))
  k1 : W.cell? ⟨w.heap.size + 1 + 1 + 1, 1, none⟩ = some (.int .u64 (lo k))
theorem Four.go {w W V : World} {a m b n c o k : Nat} (h : Four w W a m b n c o k) (g : Below W.heap.size W V) : Four w V a m b n c o k := by
  have hl := h.le
  exact ⟨h.below.trans (g.mono (by omega)), by have := g.size; omega,
    (g.cell (p := ⟨_, 0, none⟩) (by simp; omega)).trans h.a0, (g.cell (p := ⟨_, 1, none⟩) (by simp; omega)).trans h.a1, (g.cell (p := ⟨_, 2, none⟩) (by simp; omega)).trans h.a2, (g.cell (p := ⟨_, 3, none⟩) (by simp; omega)).trans h.a3,
    (g.cell (p := ⟨_, 0, none⟩) (by simp; omega)).trans h.b0, (g.cell (p := ⟨_, 1, none⟩) (by simp; omega)).trans h.b1, (g.cell (p := ⟨_, 2, none⟩) (by simp; omega)).trans h.b2, (g.cell (p := ⟨_, 3, none⟩) (by simp; omega)).trans h.b3,
    (g.cell (p := ⟨_, 0, none⟩) (by simp; omega)).trans h.c0, (g.cell (p := ⟨_, 1, none⟩) (by simp; omega)).trans h.c1, (g.cell (p := ⟨_, 2, none⟩) (by simp; omega)).trans h.c2, (g.cell (p := ⟨_, 3, none⟩) (by simp; omega)).trans h.c3,
    (g.cell (p := ⟨_, 0, none⟩) (by simp; omega)).trans h.k0, (g.cell (p := ⟨_, 1, none⟩) (by simp; omega)).trans h.k1⟩
theorem Four.plus {w W : World} {a m b n c o k : Nat} (h : Four w W a m b n c o k) (y : Ext) : Four w (plus W y) a m b n c o k := h.go (below_plus W y)
theorem Four.start (w : World) (a m b n c o k : Nat) (T S : TypeId) : Four w ((((w.alloc (.cells #[.int .u64 (hi a), .int .u64 (lo a), .int .u64 (hi m), .int .u64 (lo m)] T)).alloc (.cells #[.int .u64 (hi b), .int .u64 (lo b), .int .u64 (hi n), .int .u64 (lo n)] T)).alloc (.cells #[.int .u64 (hi c), .int .u64 (lo c), .int .u64 (hi o), .int .u64 (lo o)] T)).alloc (.cells #[.int .u64 (hi k), .int .u64 (lo k)] S)) a m b n c o k := by
  obtain ⟨w1, e1⟩ : ∃ v, w.alloc (.cells #[.int .u64 (hi a), .int .u64 (lo a), .int .u64 (hi m), .int .u64 (lo m)] T) = v := ⟨_, rfl⟩
  obtain ⟨w2, e2⟩ : ∃ v, w1.alloc (.cells #[.int .u64 (hi b), .int .u64 (lo b), .int .u64 (hi n), .int .u64 (lo n)] T) = v := ⟨_, rfl⟩
  obtain ⟨w3, e3⟩ : ∃ v, w2.alloc (.cells #[.int .u64 (hi c), .int .u64 (lo c), .int .u64 (hi o), .int .u64 (lo o)] T) = v := ⟨_, rfl⟩
  obtain ⟨w4, e4⟩ : ∃ v, w3.alloc (.cells #[.int .u64 (hi k), .int .u64 (lo k)] S) = v := ⟨_, rfl⟩
  rw [e1, e2, e3, e4]
  have s1 : w1.heap.size = w.heap.size + 1 := by rw [← e1]; simp
  have s2 : w2.heap.size = w.heap.size + 1 + 1 := by rw [← e2]; simp [s1]
  have s3 : w3.heap.size = w.heap.size + 1 + 1 + 1 := by rw [← e3]; simp [s2]
  have s4 : w4.heap.size = w.heap.size + 1 + 1 + 1 + 1 := by rw [← e4]; simp [s3]
  have p1 : ∀ b o, b < w1.heap.size → w2.cell? ⟨b, o, none⟩ = w1.cell? ⟨b, o, none⟩ := fun b o h => by rw [← e2]; exact cell_old _ _ _ _ h
  have p2 : ∀ b o, b < w2.heap.size → w3.cell? ⟨b, o, none⟩ = w2.cell? ⟨b, o, none⟩ := fun b o h => by rw [← e3]; exact cell_old _ _ _ _ h
  have p3 : ∀ b o, b < w3.heap.size → w4.cell? ⟨b, o, none⟩ = w3.cell? ⟨b, o, none⟩ := fun b o h => by rw [← e4]; exact cell_old _ _ _ _ h
  have g1 : Below w.heap.size w w1 := by rw [← e1]; exact (Below.refl _ _).alloc (Nat.le_refl _) _
  have g2 : Below w.heap.size w w2 := by rw [← e2]; exact g1.alloc (by omega) _
  have g3 : Below w.heap.size w w3 := by rw [← e3]; exact g2.alloc (by omega) _
  have g4 : Below w.heap.size w w4 := by rw [← e4]; exact g3.alloc (by omega) _
  refine ⟨g4, by omega, ?_, ?_, ?_, ?_, ?_, ?_, ?_, ?_, ?_, ?_, ?_, ?_, ?_, ?_⟩
  all_goals first
    | (rw [p3 _ _ (by omega), p2 _ _ (by omega), p1 _ _ (by omega), ← e1]; exact cell_new w _ T _ _ rfl)
    | (rw [p3 _ _ (by omega), p2 _ _ (by omega), ← e2]; exact cell_new w1 _ T _ _ s1.symm)
    | (rw [p3 _ _ (by omega), ← e3]; exact cell_new w2 _ T _ _ s2.symm)
    | (rw [← e4]; exact cell_new w3 _ S _ _ s3.symm)
set_option maxRecDepth 100000 in
set_option maxHeartbeats 8000000 in
theorem order11 (a m b n c o k : Nat) (x : Int) (ha : a < B128) (hm : m < B128) (hb : b < B128) (hn : n < B128) (hc : c < B128) (ho : o < B128) (hk : k < B128) : Pure Try.prog 4 #[pv a m, pv b n, pv c o, nv k, .int .i64 x] (.bool true) := by
  intro w
  have P1 := m_within a m b n x ha hm hb hn
  have P2 := m_meet a m b n x ha hm hb hn
  have P3 := m_agrees a m k hm hk
  have P4 := m_agrees b n k hn hk
  have P5 := m_within b n c o x hb hn hc ho
  have P6 := m_within a m c o x ha hm hc ho
  have P7 := m_within b n a m x hb hn ha hm
  have P8 := m_may a m x ha hm
  have P9 := m_may b n x hb hn
  have P10 := m_masked k m x hk hm
  have P11 := m_may (maskV k m x) (maskM k m x) x (maskV_lt hk) (maskM_lt hm)
  have P12 := m_agrees (maskV k m x) (maskM k m x) k (maskM_lt hm) hk
  have P13 := m_within a m a m x ha hm ha hm
  have P14 := m_meet a m a m x ha hm ha hm
  have F1 : Hid (withinB a m b n x = true → meetB a m b n x = true) := fun h => within_meet h
  have F2 : Hid (withinB a m b n x = true → agrB a m k = true → agrB b n k = true) := fun h g => within_agr h g
  have F3 : Hid (withinB a m b n x = true → withinB b n c o x = true → withinB a m c o x = true) := fun h g => within_trans h g
  have F4 : Hid (withinB a m b n x = true → withinB b n a m x = true → a = b ∧ m = n) := fun h g => within_back h g
  have F5 : Hid (mayB a m x = true → mayB b n x = true → agrB a m k = true → agrB b n k = true → meetB a m b n x = true) := fun h g i j => agr_meet h g i j
  have F6 : Hid (mayB a m x = true → withinB a m a m x = true ∧ meetB a m a m x = true) := fun h => may_self h
  have F7 : Hid (maskE k m x = 0 → mayB (maskV k m x) (maskM k m x) x = true ∧ agrB (maskV k m x) (maskM k m x) k = true) := fun h => mask_may h
  have F8 : Hid (mayB a m x = true → x ≤ 128) := fun h => (may_and h).2.2.2
  have F9 : Hid (a = b ∧ m = n → ∀ w, (binOp .neq 26 (pv a m) (pv b n)).run Try.prog w = .ok (.bool false) w) := fun h w => by rw [neq_pv, h.1, h.2]; simp
  unfold maskT at P10
  clear ha hm hb hn hc ho hk
  generalize withinB a m b n x = W1 at P1 F1 F2 F3 F4
  generalize meetB a m b n x = M1 at P2 F1 F5
  generalize agrB a m k = A1 at P3 F2 F5
  generalize agrB b n k = A2 at P4 F2 F5
  generalize withinB b n c o x = W2 at P5 F3
  generalize withinB a m c o x = W3 at P6 F3
  generalize withinB b n a m x = W4 at P7 F4
  generalize mayB (maskV k m x) (maskM k m x) x = Y2 at P11 F7
  generalize agrB (maskV k m x) (maskM k m x) k = A3 at P12 F7
  generalize mayB a m x = Y0 at P8 F5 F6 F8
  generalize mayB b n x = Y1 at P9 F5
  generalize withinB a m a m x = W5 at P13 F6
  generalize meetB a m a m x = M5 at P14 F6
  generalize maskE k m x = E at P10 F7
  generalize maskV k m x = V1 at P10 P11 P12
  generalize maskM k m x = V2 at P10 P11 P12
  have T1 := Lib.hid P1
  have T2 := Lib.hid P2
  have T3 := Lib.hid P3
  have T4 := Lib.hid P4
  have T5 := Lib.hid P5
  have T6 := Lib.hid P6
  have T7 := Lib.hid P7
  have T8 := Lib.hid P8
  have T9 := Lib.hid P9
  have T10 := Lib.hid P10
  have T11 := Lib.hid P11
  have T12 := Lib.hid P12
  have T13 := Lib.hid P13
  have T14 := Lib.hid P14
  clear P1 P2 P3 P4 P5 P6 P7 P8 P9 P10 P11 P12 P13 P14
  go_enter Try.func4, Try.ntmps4
  go_upto_region 1 with (fail)
  refine abs_world11 (T := fun W => Four w W a m b n c o k) ?_ (Four.start w a m b n c o k _ _)
  intro W hT
  rw [← plus_self W]
  have a0 := fun y => (hT.plus y).a0
  have a1 := fun y => (hT.plus y).a1
  have a2 := fun y => (hT.plus y).a2
  have a3 := fun y => (hT.plus y).a3
  have b0 := fun y => (hT.plus y).b0
  have b1 := fun y => (hT.plus y).b1
  have b2 := fun y => (hT.plus y).b2
  have b3 := fun y => (hT.plus y).b3
  have c0 := fun y => (hT.plus y).c0
  have c1 := fun y => (hT.plus y).c1
  have c2 := fun y => (hT.plus y).c2
  have c3 := fun y => (hT.plus y).c3
  have k0 := fun y => (hT.plus y).k0
  have k1 := fun y => (hT.plus y).k1
  have hT' := Lib.hid hT
  clear hT
  have q1 := Lib.hid (fun y => T1.out.at W y)
  have q2 := Lib.hid (fun y => T2.out.at W y)
  have q3 := Lib.hid (fun y => T3.out.at W y)
  have q4 := Lib.hid (fun y => T4.out.at W y)
  have q5 := Lib.hid (fun y => T5.out.at W y)
  have q6 := Lib.hid (fun y => T6.out.at W y)
  have q7 := Lib.hid (fun y => T7.out.at W y)
  have q8 := Lib.hid (fun y => T8.out.at W y)
  have q9 := Lib.hid (fun y => T9.out.at W y)
  have q10 := Lib.hid (fun y => T10.out.at W y)
  cases W1
  case false =>
    go_upto_region 4 with (with_reducible refine (q1.out _).mono ?_; rintro r w' ⟨rfl, x, rfl⟩)
    go_cut [85] from 57 to 85 (fun v wx => v = .bool false ∧ ∃ y, wx = plus W y)
    case first =>
      cases Y0
      case false =>
        go_wp2_with (first | (with_reducible refine (q8.out _).mono ?_; rintro r w' ⟨rfl, x, rfl⟩) | (with_reducible refine (q9.out _).mono ?_; rintro r w' ⟨rfl, x, rfl⟩) | (with_reducible refine (q3.out _).mono ?_; rintro r w' ⟨rfl, x, rfl⟩) | (with_reducible refine (q4.out _).mono ?_; rintro r w' ⟨rfl, x, rfl⟩) | (with_reducible refine (q2.out _).mono ?_; rintro r w' ⟨rfl, x, rfl⟩))
        go_meet
        exact ⟨rfl, _, rfl⟩
      case true =>
        have hx := F8.out rfl
        cases Y1
        case false =>
          go_wp2_with (first | (with_reducible refine (q8.out _).mono ?_; rintro r w' ⟨rfl, x, rfl⟩) | (with_reducible refine (q9.out _).mono ?_; rintro r w' ⟨rfl, x, rfl⟩) | (with_reducible refine (q3.out _).mono ?_; rintro r w' ⟨rfl, x, rfl⟩) | (with_reducible refine (q4.out _).mono ?_; rintro r w' ⟨rfl, x, rfl⟩) | (with_reducible refine (q2.out _).mono ?_; rintro r w' ⟨rfl, x, rfl⟩))
          go_meet
          exact ⟨rfl, _, rfl⟩
        case true =>
          cases A1
          case false =>
            go_wp2_with (first | (with_reducible refine (q8.out _).mono ?_; rintro r w' ⟨rfl, x, rfl⟩) | (with_reducible refine (q9.out _).mono ?_; rintro r w' ⟨rfl, x, rfl⟩) | (with_reducible refine (q3.out _).mono ?_; rintro r w' ⟨rfl, x, rfl⟩) | (with_reducible refine (q4.out _).mono ?_; rintro r w' ⟨rfl, x, rfl⟩) | (with_reducible refine (q2.out _).mono ?_; rintro r w' ⟨rfl, x, rfl⟩))
            go_meet
            exact ⟨rfl, _, rfl⟩
          case true =>
            cases A2
            case false =>
              go_wp2_with (first | (with_reducible refine (q8.out _).mono ?_; rintro r w' ⟨rfl, x, rfl⟩) | (with_reducible refine (q9.out _).mono ?_; rintro r w' ⟨rfl, x, rfl⟩) | (with_reducible refine (q3.out _).mono ?_; rintro r w' ⟨rfl, x, rfl⟩) | (with_reducible refine (q4.out _).mono ?_; rintro r w' ⟨rfl, x, rfl⟩) | (with_reducible refine (q2.out _).mono ?_; rintro r w' ⟨rfl, x, rfl⟩))
              go_meet
              exact ⟨rfl, _, rfl⟩
            case true =>
              have hM := F5.out rfl rfl rfl rfl
              subst hM
              go_wp2_with (first | (with_reducible refine (q8.out _).mono ?_; rintro r w' ⟨rfl, x, rfl⟩) | (with_reducible refine (q9.out _).mono ?_; rintro r w' ⟨rfl, x, rfl⟩) | (with_reducible refine (q3.out _).mono ?_; rintro r w' ⟨rfl, x, rfl⟩) | (with_reducible refine (q4.out _).mono ?_; rintro r w' ⟨rfl, x, rfl⟩) | (with_reducible refine (q2.out _).mono ?_; rintro r w' ⟨rfl, x, rfl⟩))
              go_meet
              exact ⟨rfl, _, rfl⟩
    case rest =>
      obtain ⟨rfl, y, rfl⟩ := hcut
      go_upto_region 7 with (first | (with_reducible refine (q10.out _).mono ?_; rintro r w' ⟨rfl, x, rfl⟩))
      clear a0 a1 a2 a3 b0 b1 b2 b3 c0 c1 c2 c3 k0 k1
      obtain ⟨U, hU, hB, hs, cp, fp⟩ := box1 (plus W _) _ 26
      rw [← hU]
      have hTU : Four w U a m b n c o k := by rw [hU]; exact (hT'.out.plus _).go ((Below.refl _ _).alloc (Nat.le_refl _) _)
      have p0 := cp 0 (some (.int .u64 (hi V1))) rfl
      have p1 := cp 1 (some (.int .u64 (lo V1))) rfl
      have p2 := cp 2 (some (.int .u64 (hi V2))) rfl
      have p3 := cp 3 (some (.int .u64 (lo V2))) rfl
      have a0 := fun y => (hTU.plus y).a0
      have a1 := fun y => (hTU.plus y).a1
      have a2 := fun y => (hTU.plus y).a2
      have a3 := fun y => (hTU.plus y).a3
      have k0 := fun y => (hTU.plus y).k0
      have k1 := fun y => (hTU.plus y).k1
      have hTU' := Lib.hid hTU
      clear hU hB hs cp fp hTU
      rw [← plus_self U]
      have u8 := Lib.hid (fun y => T8.out.at U y)
      have u11 := Lib.hid (fun y => T11.out.at U y)
      have u12 := Lib.hid (fun y => T12.out.at U y)
      have u13 := Lib.hid (fun y => T13.out.at U y)
      have u14 := Lib.hid (fun y => T14.out.at U y)
      have uk := Lib.hid (fun y => known11.at U y)
      by_cases hE : E = 0
      case pos =>
        subst hE
        obtain ⟨hy, ha⟩ := F7.out rfl
        subst hy ha
        cases Y0
        case false =>
          go_wp2_with (first | (with_reducible refine (u8.out _).mono ?_; rintro r w' ⟨rfl, x, rfl⟩) | (with_reducible refine (u11.out _).mono ?_; rintro r w' ⟨rfl, x, rfl⟩) | (with_reducible refine (u12.out _).mono ?_; rintro r w' ⟨rfl, x, rfl⟩) | (with_reducible refine (u13.out _).mono ?_; rintro r w' ⟨rfl, x, rfl⟩) | (with_reducible refine (u14.out _).mono ?_; rintro r w' ⟨rfl, x, rfl⟩) | (with_reducible refine (uk.out _).mono ?_; rintro r w' ⟨rfl, x, rfl⟩))
          go_ret
          exact ⟨rfl, plus_of_below (hTU'.out.plus _).below⟩
        case true =>
          obtain ⟨h5, h6⟩ := F6.out rfl
          subst h5 h6
          go_wp2_with (first | (with_reducible refine (u8.out _).mono ?_; rintro r w' ⟨rfl, x, rfl⟩) | (with_reducible refine (u11.out _).mono ?_; rintro r w' ⟨rfl, x, rfl⟩) | (with_reducible refine (u12.out _).mono ?_; rintro r w' ⟨rfl, x, rfl⟩) | (with_reducible refine (u13.out _).mono ?_; rintro r w' ⟨rfl, x, rfl⟩) | (with_reducible refine (u14.out _).mono ?_; rintro r w' ⟨rfl, x, rfl⟩) | (with_reducible refine (uk.out _).mono ?_; rintro r w' ⟨rfl, x, rfl⟩))
          go_ret
          exact ⟨rfl, plus_of_below (hTU'.out.plus _).below⟩
      case neg =>
        cases Y0
        case false =>
          go_wp2_with (first | (with_reducible refine (u8.out _).mono ?_; rintro r w' ⟨rfl, x, rfl⟩) | (with_reducible refine (u11.out _).mono ?_; rintro r w' ⟨rfl, x, rfl⟩) | (with_reducible refine (u12.out _).mono ?_; rintro r w' ⟨rfl, x, rfl⟩) | (with_reducible refine (u13.out _).mono ?_; rintro r w' ⟨rfl, x, rfl⟩) | (with_reducible refine (u14.out _).mono ?_; rintro r w' ⟨rfl, x, rfl⟩) | (with_reducible refine (uk.out _).mono ?_; rintro r w' ⟨rfl, x, rfl⟩))
          go_ret
          exact ⟨rfl, plus_of_below (hTU'.out.plus _).below⟩
        case true =>
          obtain ⟨h5, h6⟩ := F6.out rfl
          subst h5 h6
          go_wp2_with (first | (with_reducible refine (u8.out _).mono ?_; rintro r w' ⟨rfl, x, rfl⟩) | (with_reducible refine (u11.out _).mono ?_; rintro r w' ⟨rfl, x, rfl⟩) | (with_reducible refine (u12.out _).mono ?_; rintro r w' ⟨rfl, x, rfl⟩) | (with_reducible refine (u13.out _).mono ?_; rintro r w' ⟨rfl, x, rfl⟩) | (with_reducible refine (u14.out _).mono ?_; rintro r w' ⟨rfl, x, rfl⟩) | (with_reducible refine (uk.out _).mono ?_; rintro r w' ⟨rfl, x, rfl⟩))
          go_ret
          exact ⟨rfl, plus_of_below (hTU'.out.plus _).below⟩
  case true =>
    go_upto_region 2 with (with_reducible refine (q1.out _).mono ?_; rintro r w' ⟨rfl, x, rfl⟩)
    go_cut [56] from 17 to 56 (fun v wx => v = .bool false ∧ ∃ y, wx = plus W y)
    case first =>
      have hM := F1.out trivial
      subst hM
      cases A1
      case false =>
        cases W2
        case false =>
          cases W4
          case false =>
            go_wp2_with (first | (with_reducible refine (q2.out _).mono ?_; rintro r w' ⟨rfl, x, rfl⟩) | (with_reducible refine (q3.out _).mono ?_; rintro r w' ⟨rfl, x, rfl⟩) | (with_reducible refine (q4.out _).mono ?_; rintro r w' ⟨rfl, x, rfl⟩) | (with_reducible refine (q5.out _).mono ?_; rintro r w' ⟨rfl, x, rfl⟩) | (with_reducible refine (q6.out _).mono ?_; rintro r w' ⟨rfl, x, rfl⟩) | (with_reducible refine (q7.out _).mono ?_; rintro r w' ⟨rfl, x, rfl⟩))
            go_meet
            exact ⟨rfl, _, rfl⟩
          case true =>
            have hE := F9.out (F4.out trivial rfl)
            go_wp2_with (first | (with_reducible refine (q2.out _).mono ?_; rintro r w' ⟨rfl, x, rfl⟩) | (with_reducible refine (q3.out _).mono ?_; rintro r w' ⟨rfl, x, rfl⟩) | (with_reducible refine (q4.out _).mono ?_; rintro r w' ⟨rfl, x, rfl⟩) | (with_reducible refine (q5.out _).mono ?_; rintro r w' ⟨rfl, x, rfl⟩) | (with_reducible refine (q6.out _).mono ?_; rintro r w' ⟨rfl, x, rfl⟩) | (with_reducible refine (q7.out _).mono ?_; rintro r w' ⟨rfl, x, rfl⟩))
            go_meet
            exact ⟨rfl, _, rfl⟩
        case true =>
          have hW := F3.out trivial rfl
          subst hW
          cases W4
          case false =>
            go_wp2_with (first | (with_reducible refine (q2.out _).mono ?_; rintro r w' ⟨rfl, x, rfl⟩) | (with_reducible refine (q3.out _).mono ?_; rintro r w' ⟨rfl, x, rfl⟩) | (with_reducible refine (q4.out _).mono ?_; rintro r w' ⟨rfl, x, rfl⟩) | (with_reducible refine (q5.out _).mono ?_; rintro r w' ⟨rfl, x, rfl⟩) | (with_reducible refine (q6.out _).mono ?_; rintro r w' ⟨rfl, x, rfl⟩) | (with_reducible refine (q7.out _).mono ?_; rintro r w' ⟨rfl, x, rfl⟩))
            go_meet
            exact ⟨rfl, _, rfl⟩
          case true =>
            have hE := F9.out (F4.out trivial rfl)
            go_wp2_with (first | (with_reducible refine (q2.out _).mono ?_; rintro r w' ⟨rfl, x, rfl⟩) | (with_reducible refine (q3.out _).mono ?_; rintro r w' ⟨rfl, x, rfl⟩) | (with_reducible refine (q4.out _).mono ?_; rintro r w' ⟨rfl, x, rfl⟩) | (with_reducible refine (q5.out _).mono ?_; rintro r w' ⟨rfl, x, rfl⟩) | (with_reducible refine (q6.out _).mono ?_; rintro r w' ⟨rfl, x, rfl⟩) | (with_reducible refine (q7.out _).mono ?_; rintro r w' ⟨rfl, x, rfl⟩))
            go_meet
            exact ⟨rfl, _, rfl⟩
      case true =>
        have hA := F2.out trivial rfl
        subst hA
        cases W2
        case false =>
          cases W4
          case false =>
            go_wp2_with (first | (with_reducible refine (q2.out _).mono ?_; rintro r w' ⟨rfl, x, rfl⟩) | (with_reducible refine (q3.out _).mono ?_; rintro r w' ⟨rfl, x, rfl⟩) | (with_reducible refine (q4.out _).mono ?_; rintro r w' ⟨rfl, x, rfl⟩) | (with_reducible refine (q5.out _).mono ?_; rintro r w' ⟨rfl, x, rfl⟩) | (with_reducible refine (q6.out _).mono ?_; rintro r w' ⟨rfl, x, rfl⟩) | (with_reducible refine (q7.out _).mono ?_; rintro r w' ⟨rfl, x, rfl⟩))
            go_meet
            exact ⟨rfl, _, rfl⟩
          case true =>
            have hE := F9.out (F4.out trivial rfl)
            go_wp2_with (first | (with_reducible refine (q2.out _).mono ?_; rintro r w' ⟨rfl, x, rfl⟩) | (with_reducible refine (q3.out _).mono ?_; rintro r w' ⟨rfl, x, rfl⟩) | (with_reducible refine (q4.out _).mono ?_; rintro r w' ⟨rfl, x, rfl⟩) | (with_reducible refine (q5.out _).mono ?_; rintro r w' ⟨rfl, x, rfl⟩) | (with_reducible refine (q6.out _).mono ?_; rintro r w' ⟨rfl, x, rfl⟩) | (with_reducible refine (q7.out _).mono ?_; rintro r w' ⟨rfl, x, rfl⟩))
            go_meet
            exact ⟨rfl, _, rfl⟩
        case true =>
          have hW := F3.out trivial rfl
          subst hW
          cases W4
          case false =>
            go_wp2_with (first | (with_reducible refine (q2.out _).mono ?_; rintro r w' ⟨rfl, x, rfl⟩) | (with_reducible refine (q3.out _).mono ?_; rintro r w' ⟨rfl, x, rfl⟩) | (with_reducible refine (q4.out _).mono ?_; rintro r w' ⟨rfl, x, rfl⟩) | (with_reducible refine (q5.out _).mono ?_; rintro r w' ⟨rfl, x, rfl⟩) | (with_reducible refine (q6.out _).mono ?_; rintro r w' ⟨rfl, x, rfl⟩) | (with_reducible refine (q7.out _).mono ?_; rintro r w' ⟨rfl, x, rfl⟩))
            go_meet
            exact ⟨rfl, _, rfl⟩
          case true =>
            have hE := F9.out (F4.out trivial rfl)
            go_wp2_with (first | (with_reducible refine (q2.out _).mono ?_; rintro r w' ⟨rfl, x, rfl⟩) | (with_reducible refine (q3.out _).mono ?_; rintro r w' ⟨rfl, x, rfl⟩) | (with_reducible refine (q4.out _).mono ?_; rintro r w' ⟨rfl, x, rfl⟩) | (with_reducible refine (q5.out _).mono ?_; rintro r w' ⟨rfl, x, rfl⟩) | (with_reducible refine (q6.out _).mono ?_; rintro r w' ⟨rfl, x, rfl⟩) | (with_reducible refine (q7.out _).mono ?_; rintro r w' ⟨rfl, x, rfl⟩))
            go_meet
            exact ⟨rfl, _, rfl⟩
    case rest =>
      obtain ⟨rfl, y, rfl⟩ := hcut
      go_upto_region 4 with (fail)
      go_cut [85] from 57 to 85 (fun v wx => v = .bool false ∧ ∃ y, wx = plus W y)
      case first =>
        cases Y0
        case false =>
          go_wp2_with (first | (with_reducible refine (q8.out _).mono ?_; rintro r w' ⟨rfl, x, rfl⟩) | (with_reducible refine (q9.out _).mono ?_; rintro r w' ⟨rfl, x, rfl⟩) | (with_reducible refine (q3.out _).mono ?_; rintro r w' ⟨rfl, x, rfl⟩) | (with_reducible refine (q4.out _).mono ?_; rintro r w' ⟨rfl, x, rfl⟩) | (with_reducible refine (q2.out _).mono ?_; rintro r w' ⟨rfl, x, rfl⟩))
          go_meet
          exact ⟨rfl, _, rfl⟩
        case true =>
          have hx := F8.out rfl
          cases Y1
          case false =>
            go_wp2_with (first | (with_reducible refine (q8.out _).mono ?_; rintro r w' ⟨rfl, x, rfl⟩) | (with_reducible refine (q9.out _).mono ?_; rintro r w' ⟨rfl, x, rfl⟩) | (with_reducible refine (q3.out _).mono ?_; rintro r w' ⟨rfl, x, rfl⟩) | (with_reducible refine (q4.out _).mono ?_; rintro r w' ⟨rfl, x, rfl⟩) | (with_reducible refine (q2.out _).mono ?_; rintro r w' ⟨rfl, x, rfl⟩))
            go_meet
            exact ⟨rfl, _, rfl⟩
          case true =>
            cases A1
            case false =>
              go_wp2_with (first | (with_reducible refine (q8.out _).mono ?_; rintro r w' ⟨rfl, x, rfl⟩) | (with_reducible refine (q9.out _).mono ?_; rintro r w' ⟨rfl, x, rfl⟩) | (with_reducible refine (q3.out _).mono ?_; rintro r w' ⟨rfl, x, rfl⟩) | (with_reducible refine (q4.out _).mono ?_; rintro r w' ⟨rfl, x, rfl⟩) | (with_reducible refine (q2.out _).mono ?_; rintro r w' ⟨rfl, x, rfl⟩))
              go_meet
              exact ⟨rfl, _, rfl⟩
            case true =>
              cases A2
              case false =>
                go_wp2_with (first | (with_reducible refine (q8.out _).mono ?_; rintro r w' ⟨rfl, x, rfl⟩) | (with_reducible refine (q9.out _).mono ?_; rintro r w' ⟨rfl, x, rfl⟩) | (with_reducible refine (q3.out _).mono ?_; rintro r w' ⟨rfl, x, rfl⟩) | (with_reducible refine (q4.out _).mono ?_; rintro r w' ⟨rfl, x, rfl⟩) | (with_reducible refine (q2.out _).mono ?_; rintro r w' ⟨rfl, x, rfl⟩))
                go_meet
                exact ⟨rfl, _, rfl⟩
              case true =>
                have hM := F5.out rfl rfl rfl rfl
                subst hM
                go_wp2_with (first | (with_reducible refine (q8.out _).mono ?_; rintro r w' ⟨rfl, x, rfl⟩) | (with_reducible refine (q9.out _).mono ?_; rintro r w' ⟨rfl, x, rfl⟩) | (with_reducible refine (q3.out _).mono ?_; rintro r w' ⟨rfl, x, rfl⟩) | (with_reducible refine (q4.out _).mono ?_; rintro r w' ⟨rfl, x, rfl⟩) | (with_reducible refine (q2.out _).mono ?_; rintro r w' ⟨rfl, x, rfl⟩))
                go_meet
                exact ⟨rfl, _, rfl⟩
      case rest =>
        obtain ⟨rfl, y, rfl⟩ := hcut
        go_upto_region 7 with (first | (with_reducible refine (q10.out _).mono ?_; rintro r w' ⟨rfl, x, rfl⟩))
        clear a0 a1 a2 a3 b0 b1 b2 b3 c0 c1 c2 c3 k0 k1
        obtain ⟨U, hU, hB, hs, cp, fp⟩ := box1 (plus W _) _ 26
        rw [← hU]
        have hTU : Four w U a m b n c o k := by rw [hU]; exact (hT'.out.plus _).go ((Below.refl _ _).alloc (Nat.le_refl _) _)
        have p0 := cp 0 (some (.int .u64 (hi V1))) rfl
        have p1 := cp 1 (some (.int .u64 (lo V1))) rfl
        have p2 := cp 2 (some (.int .u64 (hi V2))) rfl
        have p3 := cp 3 (some (.int .u64 (lo V2))) rfl
        have a0 := fun y => (hTU.plus y).a0
        have a1 := fun y => (hTU.plus y).a1
        have a2 := fun y => (hTU.plus y).a2
        have a3 := fun y => (hTU.plus y).a3
        have k0 := fun y => (hTU.plus y).k0
        have k1 := fun y => (hTU.plus y).k1
        have hTU' := Lib.hid hTU
        clear hU hB hs cp fp hTU
        rw [← plus_self U]
        have u8 := Lib.hid (fun y => T8.out.at U y)
        have u11 := Lib.hid (fun y => T11.out.at U y)
        have u12 := Lib.hid (fun y => T12.out.at U y)
        have u13 := Lib.hid (fun y => T13.out.at U y)
        have u14 := Lib.hid (fun y => T14.out.at U y)
        have uk := Lib.hid (fun y => known11.at U y)
        by_cases hE : E = 0
        case pos =>
          subst hE
          obtain ⟨hy, ha⟩ := F7.out rfl
          subst hy ha
          cases Y0
          case false =>
            go_wp2_with (first | (with_reducible refine (u8.out _).mono ?_; rintro r w' ⟨rfl, x, rfl⟩) | (with_reducible refine (u11.out _).mono ?_; rintro r w' ⟨rfl, x, rfl⟩) | (with_reducible refine (u12.out _).mono ?_; rintro r w' ⟨rfl, x, rfl⟩) | (with_reducible refine (u13.out _).mono ?_; rintro r w' ⟨rfl, x, rfl⟩) | (with_reducible refine (u14.out _).mono ?_; rintro r w' ⟨rfl, x, rfl⟩) | (with_reducible refine (uk.out _).mono ?_; rintro r w' ⟨rfl, x, rfl⟩))
            go_ret
            exact ⟨rfl, plus_of_below (hTU'.out.plus _).below⟩
          case true =>
            obtain ⟨h5, h6⟩ := F6.out rfl
            subst h5 h6
            go_wp2_with (first | (with_reducible refine (u8.out _).mono ?_; rintro r w' ⟨rfl, x, rfl⟩) | (with_reducible refine (u11.out _).mono ?_; rintro r w' ⟨rfl, x, rfl⟩) | (with_reducible refine (u12.out _).mono ?_; rintro r w' ⟨rfl, x, rfl⟩) | (with_reducible refine (u13.out _).mono ?_; rintro r w' ⟨rfl, x, rfl⟩) | (with_reducible refine (u14.out _).mono ?_; rintro r w' ⟨rfl, x, rfl⟩) | (with_reducible refine (uk.out _).mono ?_; rintro r w' ⟨rfl, x, rfl⟩))
            go_ret
            exact ⟨rfl, plus_of_below (hTU'.out.plus _).below⟩
        case neg =>
          cases Y0
          case false =>
            go_wp2_with (first | (with_reducible refine (u8.out _).mono ?_; rintro r w' ⟨rfl, x, rfl⟩) | (with_reducible refine (u11.out _).mono ?_; rintro r w' ⟨rfl, x, rfl⟩) | (with_reducible refine (u12.out _).mono ?_; rintro r w' ⟨rfl, x, rfl⟩) | (with_reducible refine (u13.out _).mono ?_; rintro r w' ⟨rfl, x, rfl⟩) | (with_reducible refine (u14.out _).mono ?_; rintro r w' ⟨rfl, x, rfl⟩) | (with_reducible refine (uk.out _).mono ?_; rintro r w' ⟨rfl, x, rfl⟩))
            go_ret
            exact ⟨rfl, plus_of_below (hTU'.out.plus _).below⟩
          case true =>
            obtain ⟨h5, h6⟩ := F6.out rfl
            subst h5 h6
            go_wp2_with (first | (with_reducible refine (u8.out _).mono ?_; rintro r w' ⟨rfl, x, rfl⟩) | (with_reducible refine (u11.out _).mono ?_; rintro r w' ⟨rfl, x, rfl⟩) | (with_reducible refine (u12.out _).mono ?_; rintro r w' ⟨rfl, x, rfl⟩) | (with_reducible refine (u13.out _).mono ?_; rintro r w' ⟨rfl, x, rfl⟩) | (with_reducible refine (u14.out _).mono ?_; rintro r w' ⟨rfl, x, rfl⟩) | (with_reducible refine (uk.out _).mono ?_; rintro r w' ⟨rfl, x, rfl⟩))
            go_ret
            exact ⟨rfl, plus_of_below (hTU'.out.plus _).below⟩
end Go.Proofs.Ytjfkkikbcmglnaa
