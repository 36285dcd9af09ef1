/-
  WHAT IS PROVED HERE: a part of the proof of the claim's theorem: Ui.
-/
import Derived.Test.YtkffjjlmoojffaaGreatDoorRows
import Derived.Test.YtkffjjlmoojffaaGreatDoorM12
import Derived.Test.YtkffjjlmoojffaaGreatDoorM3
import Derived.WalkKit
import Derived.WalkSpells
import Derived.WalkLawsBesides
set_option linter.all false
namespace Go.Proofs.YtkffjjlmoojffaaGreatDoor
open Go.RowKit
def wEnd (s : ByteArray) (k : Nat) : Nat := if _h : k < s.size then (if (isLet (byN s k) || isDig (byN s k)) = true then wEnd s (k + 1) else k) else k
termination_by s.size - k
theorem wEnd_go {s : ByteArray} {k : Nat} (h : k < s.size) (hb : (isLet (byN s k) || isDig (byN s k)) = true) : wEnd s k = wEnd s (k + 1) := by rw [wEnd, dif_pos h, if_pos hb]
theorem wEnd_stop {s : ByteArray} {k : Nat} (h : k < s.size) (hb : (isLet (byN s k) || isDig (byN s k)) = false) : wEnd s k = k := by rw [wEnd, dif_pos h, if_neg (by rw [hb]; simp)]
theorem wEnd_past {s : ByteArray} {k : Nat} (h : ¬ k < s.size) : wEnd s k = k := by rw [wEnd, dif_neg h]
theorem wEnd_bounds (s : ByteArray) : ∀ (d k : Nat), s.size - k = d → k ≤ s.size → k ≤ wEnd s k ∧ wEnd s k ≤ s.size
  | 0, k, h, hk => by rw [wEnd_past (by omega)]; omega
  | d + 1, k, h, hk => by
    cases hb : (isLet (byN s k) || isDig (byN s k)) with
    | true => rw [wEnd_go (by omega) hb]; have := wEnd_bounds s d (k + 1) (by omega) (by omega); omega
    | false => rw [wEnd_stop (by omega) hb]; omega
structure Tok where
  kind : Nat
  s : ByteArray
  w : Int
  n : Nat
  at_ : Nat
def tokL (t : Tok) : List Value := [.int .u8 (t.kind : Int), .string t.s, .int .i64 t.w, .int .u64 (hi t.n), .int .u64 (lo t.n), .int .i64 (t.at_ : Int)]
def tokV (t : Tok) : Value := .agg (tokL t).toArray
noncomputable def oneR (s : ByteArray) (a : Nat) : Tok × Int :=
  if (isLet (byN s a) || isDig (byN s a)) = true then
    (if isDig (byN s a) = true then (⟨2, s.extract a (wEnd s a), (numR (s.extract a (wEnd s a))).1, (numR (s.extract a (wEnd s a))).2.1, a⟩, (numR (s.extract a (wEnd s a))).2.2)
     else (⟨1, s.extract a (wEnd s a), 0, 0, a⟩, if 16 < wEnd s a - a then 3 else 0))
  else if markN s a = 0 then (⟨0, ByteArray.empty, 0, 0, a⟩, 4) else (⟨3, s.extract a (a + markN s a), 0, 0, a⟩, 0)
structure KInv (w : World) (a : Nat) (S : ByteArray) (wr : World) : Prop where
  below : Below w.heap.size w wr
  size : w.heap.size + 1 + 1 ≤ wr.heap.size
  r0 : wr.cell? ⟨w.heap.size, 0, none⟩ = some (.int .u8 0)
  r1 : wr.cell? ⟨w.heap.size, 1, none⟩ = some (.string ⟨#[]⟩)
  r2 : wr.cell? ⟨w.heap.size, 2, none⟩ = some (.int .i64 0)
  r3 : wr.cell? ⟨w.heap.size, 3, none⟩ = some (.int .u64 0)
  r4 : wr.cell? ⟨w.heap.size, 4, none⟩ = some (.int .u64 0)
  r5 : wr.cell? ⟨w.heap.size, 5, none⟩ = some (.int .i64 0)
  fr : ∀ o, wr.frozen? ⟨w.heap.size, o, none⟩ = false
  t0 : wr.cell? ⟨w.heap.size + 1, 0, none⟩ = some (.int .u8 0)
  t1 : wr.cell? ⟨w.heap.size + 1, 1, none⟩ = some (.string S)
  t2 : wr.cell? ⟨w.heap.size + 1, 2, none⟩ = some (.int .i64 0)
  t3 : wr.cell? ⟨w.heap.size + 1, 3, none⟩ = some (.int .u64 0)
  t4 : wr.cell? ⟨w.heap.size + 1, 4, none⟩ = some (.int .u64 0)
  t5 : wr.cell? ⟨w.heap.size + 1, 5, none⟩ = some (.int .i64 (a : Int))
  ft : ∀ o, wr.frozen? ⟨w.heap.size + 1, o, none⟩ = false
theorem KInv.start (w : World) (a : Nat) (T U : TypeId) : KInv w a ⟨#[]⟩ ((w.alloc (.cells #[.int .u8 0, .string ⟨#[]⟩, .int .i64 0, .int .u64 0, .int .u64 0, .int .i64 0] T)).alloc (.cells #[.int .u8 0, .string ⟨#[]⟩, .int .i64 0, .int .u64 0, .int .u64 0, .int .i64 (a : Int)] U)) := by
  obtain ⟨W, hW, hB, hz, ca, cb, fa, fb⟩ := box2 w #[.int .u8 0, .string ⟨#[]⟩, .int .i64 0, .int .u64 0, .int .u64 0, .int .i64 0] #[.int .u8 0, .string ⟨#[]⟩, .int .i64 0, .int .u64 0, .int .u64 0, .int .i64 (a : Int)] T U
  rw [← hW, ← plus_self W]
  exact ⟨hB.trans ((below_plus W _).mono hB.size), Nat.le_trans (by omega) (size_plus W _), ca 0 _ rfl _, ca 1 _ rfl _, ca 2 _ rfl _, ca 3 _ rfl _, ca 4 _ rfl _, ca 5 _ rfl _, fa _, cb 0 _ rfl _, cb 1 _ rfl _, cb 2 _ rfl _, cb 3 _ rfl _, cb 4 _ rfl _, cb 5 _ rfl _, fb _⟩
theorem KInv.plus {w wr : World} {a : Nat} {S : ByteArray} (h : KInv w a S wr) (x : Ext) : KInv w a S (plus wr x) := by
  have hs := h.size
  exact ⟨h.below.trans ((below_plus wr x).mono h.below.size), Nat.le_trans hs (size_plus wr x), (cell_plus wr x _ _ (by omega)).trans h.r0, (cell_plus wr x _ _ (by omega)).trans h.r1, (cell_plus wr x _ _ (by omega)).trans h.r2, (cell_plus wr x _ _ (by omega)).trans h.r3, (cell_plus wr x _ _ (by omega)).trans h.r4, (cell_plus wr x _ _ (by omega)).trans h.r5, fun o => (frozen_plus wr x _ o (by omega)).trans (h.fr o),
    (cell_plus wr x _ _ (by omega)).trans h.t0, (cell_plus wr x _ _ (by omega)).trans h.t1, (cell_plus wr x _ _ (by omega)).trans h.t2, (cell_plus wr x _ _ (by omega)).trans h.t3, (cell_plus wr x _ _ (by omega)).trans h.t4, (cell_plus wr x _ _ (by omega)).trans h.t5, fun o => (frozen_plus wr x _ o (by omega)).trans (h.ft o)⟩
theorem KInv.alloc {w wr : World} {a : Nat} {S : ByteArray} (h : KInv w a S wr) (x : Obj) : KInv w a S (wr.alloc x) := by
  have hs := h.size
  exact ⟨h.below.alloc h.below.size _, by simp; omega, (cell_old wr x _ _ (by omega)).trans h.r0, (cell_old wr x _ _ (by omega)).trans h.r1, (cell_old wr x _ _ (by omega)).trans h.r2, (cell_old wr x _ _ (by omega)).trans h.r3, (cell_old wr x _ _ (by omega)).trans h.r4, (cell_old wr x _ _ (by omega)).trans h.r5, fun o => (frozen_old wr x _ o (by omega)).trans (h.fr o),
    (cell_old wr x _ _ (by omega)).trans h.t0, (cell_old wr x _ _ (by omega)).trans h.t1, (cell_old wr x _ _ (by omega)).trans h.t2, (cell_old wr x _ _ (by omega)).trans h.t3, (cell_old wr x _ _ (by omega)).trans h.t4, (cell_old wr x _ _ (by omega)).trans h.t5, fun o => (frozen_old wr x _ o (by omega)).trans (h.ft o)⟩
theorem KInv.putS {w wr : World} {a : Nat} {S : ByteArray} (h : KInv w a S wr) (S' : ByteArray) : KInv w a S' (wr.setCell ⟨w.heap.size + 1, 1, none⟩ (.string S')) := by
  have o : ∀ (b i : Nat) (v : Value), (b ≠ w.heap.size + 1 ∨ i ≠ 1) → wr.cell? ⟨b, i, none⟩ = some v → (wr.setCell ⟨w.heap.size + 1, 1, none⟩ (.string S')).cell? ⟨b, i, none⟩ = some v := fun b i v hb hv => by
    rw [World.cell?_setCell_other _ _ _ _ (fun e => by
      have e1 := congrArg Addr.block e
      have e2 := congrArg Addr.off e
      simp at e1 e2
      omega)]
    exact hv
  exact ⟨h.below.setCell (by show w.heap.size ≤ w.heap.size + 1; omega) _, by have := h.size; simp [World.setCell]; omega, o _ _ _ (by omega) h.r0, o _ _ _ (by omega) h.r1, o _ _ _ (by omega) h.r2, o _ _ _ (by omega) h.r3, o _ _ _ (by omega) h.r4, o _ _ _ (by omega) h.r5, fun i => by rw [World.frozen?_setCell]; exact h.fr i,
    o _ _ _ (by omega) h.t0, World.cell?_setCell_same _ _ _ h.t1, o _ _ _ (by omega) h.t2, o _ _ _ (by omega) h.t3, o _ _ _ (by omega) h.t4, o _ _ _ (by omega) h.t5, fun i => by rw [World.frozen?_setCell]; exact h.ft i⟩
theorem tokV_zero (k : Nat) (s : ByteArray) (a : Nat) (e : Int) : Ending.returned (Value.tuple #[.agg #[.int .u8 (k : Int), .string s, .int .i64 0, .int .u64 0, .int .u64 0, .int .i64 (a : Int)], .int .i64 e]) = Ending.returned (Value.tuple #[tokV ⟨k, s, 0, 0, a⟩, .int .i64 e]) := by
  unfold tokV tokL hi lo
  simp
theorem abs_calls3 {P : Program} {f : FuncId} {args : Array Value} {R : Ending → World → Prop} {W : World} {T : World → Prop} (h : ∀ W, T W → Calls P f args W R) (hT : T W) : Calls P f args W R := h W hT
set_option maxHeartbeats 8000000 in
theorem ref_one (s : ByteArray) (a : Nat) (hs : s.size ≤ 140737488355328) (ha : a < s.size) : Pure Tryz.prog 46 #[.string s, .int .i64 (a : Int)] (.tuple #[tokV (oneR s a).1, .int .i64 (oneR s a).2]) := by
  intro w
  obtain ⟨vp, hvp⟩ : ∃ vp, Value.tuple #[tokV (oneR s a).1, .int .i64 (oneR s a).2] = vp := ⟨_, rfl⟩
  rw [hvp]
  have e1 : byN s a = (s[a]).toNat := byN_at ha
  have c256 := (s[a]).toNat_lt
  have hb := wEnd_bounds s _ a rfl (by omega)
  generalize hcd : (s[a]).toNat = c at e1 c256
  have hL := Lib.hid (fun w => ref_letter c w c256)
  have hG := Lib.hid (fun w => ref_digit3 c w c256)
  have hM := Lib.hid (ref_mark s a hs ha)
  have hml := markN_le s a ha
  cases h1 : isLet c with
  | true =>
    have h2 : isDig c = false := by
      unfold isLet at h1
      unfold isDig
      simp only [decide_eq_true_eq] at h1
      rw [decide_eq_false_iff_not]
      omega
    rw [h1] at hL
    rw [h2] at hG
    have hO : oneR s a = (⟨1, s.extract a (wEnd s a), 0, 0, a⟩, if 16 < wEnd s a - a then 3 else 0) := by
      unfold oneR
      rw [if_pos (by rw [e1, h1]; rfl), if_neg (by rw [e1, h2]; simp)]
    clear h1 h2 e1 hM
    go_enter Tryz.func46, Tryz.ntmps46
    go_wp2_with (first | (go_at_call 70; refine (hL.out _).mono ?_; rintro e w' ⟨rfl, rfl⟩) | (go_at_call 71; refine (hG.out _).mono ?_; rintro e w' ⟨rfl, rfl⟩))
    refine abs_world3 (T := KInv w a ⟨#[]⟩) ?_ (KInv.start w a _ _)
    intro W hK
    have hK' := Lib.hid hK
    clear hK
    go_loopw [8] (fun ev wr => wr = W ∧ ∃ k : Nat, a ≤ k ∧ k ≤ s.size ∧ ev = .int .i64 (k : Int) ∧ wEnd s k = wEnd s a) (fun ev _ => s.size - (intOf ev).toNat)
    case atStart => exact ⟨rfl, a, Nat.le_refl _, by omega, rfl, rfl⟩
    case round =>
      obtain ⟨rfl, k, hak, hk, rfl, hwe⟩ := hrel
      have hwe' := Lib.hid hwe
      clear hwe
      by_cases hlt : k < s.size
      · have e2 : byN s k = (s[k]).toNat := byN_at hlt
        have d256 := (s[k]).toNat_lt
        generalize hdd : (s[k]).toNat = d at e2 d256
        have hL2 := Lib.hid (fun w => ref_letter d w d256)
        have hG2 := Lib.hid (fun w => ref_digit3 d w d256)
        cases g1 : isLet d with
        | true =>
          have hgo := Lib.hid (wEnd_go hlt (by rw [e2, g1]; rfl))
          rw [g1] at hL2
          clear g1 e2
          go_wp2_with (first | (go_at_call 70; with_reducible refine (hL2.out _).mono ?_; rintro e w' ⟨rfl, rfl⟩) | (go_at_call 71; with_reducible refine (hG2.out _).mono ?_; rintro e w' ⟨rfl, rfl⟩) | (go_at_call 70; with_reducible refine (hL.out _).mono ?_; rintro e w' ⟨rfl, rfl⟩) | (go_at_call 71; with_reducible refine (hG.out _).mono ?_; rintro e w' ⟨rfl, rfl⟩))
          go_roundw
          case rel => exact ⟨by trivial, k + 1, by omega, by omega, by go_num, by rw [← hgo.out]; exact hwe'.out⟩
          case measure => simp [intOf]; omega
        | false =>
          cases g2 : isDig d with
          | true =>
            have hgo := Lib.hid (wEnd_go hlt (by rw [e2, g1, g2]; rfl))
            rw [g1] at hL2
            rw [g2] at hG2
            clear g1 g2 e2
            go_wp2_with (first | (go_at_call 70; with_reducible refine (hL2.out _).mono ?_; rintro e w' ⟨rfl, rfl⟩) | (go_at_call 71; with_reducible refine (hG2.out _).mono ?_; rintro e w' ⟨rfl, rfl⟩) | (go_at_call 70; with_reducible refine (hL.out _).mono ?_; rintro e w' ⟨rfl, rfl⟩) | (go_at_call 71; with_reducible refine (hG.out _).mono ?_; rintro e w' ⟨rfl, rfl⟩))
            go_roundw
            case rel => exact ⟨by trivial, k + 1, by omega, by omega, by go_num, by rw [← hgo.out]; exact hwe'.out⟩
            case measure => simp [intOf]; omega
          | false =>
            have hst := Lib.hid (wEnd_stop hlt (by rw [e2, g1, g2]; rfl))
            rw [g1] at hL2
            rw [g2] at hG2
            have hEq : Hid (wEnd s a = k) := hwe'.out.symm.trans hst.out
            clear g1 g2 e2 hst
            rw [hEq.out] at hO
            by_cases h16 : 16 < k - a
            · rw [if_pos h16] at hO
              rw [hO] at hvp
              have hvp' := Lib.hid hvp
              clear hvp hO
              have hK2 := hK'.out
              clear hK'
              have r0 := hK2.r0
              have r1 := hK2.r1
              have r2 := hK2.r2
              have r3 := hK2.r3
              have r4 := hK2.r4
              have r5 := hK2.r5
              have fr := hK2.fr
              have t0 := hK2.t0
              have t1 := hK2.t1
              have t2 := hK2.t2
              have t3 := hK2.t3
              have t4 := hK2.t4
              have t5 := hK2.t5
              have ft := hK2.ft
              have hB := Lib.hid hK2.below
              clear hK2
              go_wp2_with (first | (go_at_call 70; with_reducible refine (hL2.out _).mono ?_; rintro e w' ⟨rfl, rfl⟩) | (go_at_call 71; with_reducible refine (hG2.out _).mono ?_; rintro e w' ⟨rfl, rfl⟩) | (go_at_call 70; with_reducible refine (hL.out _).mono ?_; rintro e w' ⟨rfl, rfl⟩) | (go_at_call 71; with_reducible refine (hG.out _).mono ?_; rintro e w' ⟨rfl, rfl⟩))
              refine bodyPost_ret (v := .tuple #[.agg #[.int .u8 1, .string (s.extract a k), .int .i64 0, .int .u64 0, .int .u64 0, .int .i64 (a : Int)], .int .i64 3]) (by simp [results, Tryz.results46, go_sem, r0, r1, r2, r3, r4, r5]) rfl ⟨by rw [← hvp'.out]; exact tokV_zero _ _ _ _, ?_⟩
              exact plus_of_below ((((((((hB.out.setCell (p := ⟨w.heap.size + 1, _, none⟩) (by show w.heap.size ≤ w.heap.size + 1; omega) _).setCell (p := ⟨w.heap.size + 1, _, none⟩) (by show w.heap.size ≤ w.heap.size + 1; omega) _).setCell (p := ⟨w.heap.size, _, none⟩) (by show w.heap.size ≤ w.heap.size; omega) _).setCell (p := ⟨w.heap.size, _, none⟩) (by show w.heap.size ≤ w.heap.size; omega) _).setCell (p := ⟨w.heap.size, _, none⟩) (by show w.heap.size ≤ w.heap.size; omega) _).setCell (p := ⟨w.heap.size, _, none⟩) (by show w.heap.size ≤ w.heap.size; omega) _).setCell (p := ⟨w.heap.size, _, none⟩) (by show w.heap.size ≤ w.heap.size; omega) _).setCell (p := ⟨w.heap.size, _, none⟩) (by show w.heap.size ≤ w.heap.size; omega) _)
            · rw [if_neg h16] at hO
              rw [hO] at hvp
              have hvp' := Lib.hid hvp
              clear hvp hO
              have hK2 := hK'.out
              clear hK'
              have r0 := hK2.r0
              have r1 := hK2.r1
              have r2 := hK2.r2
              have r3 := hK2.r3
              have r4 := hK2.r4
              have r5 := hK2.r5
              have fr := hK2.fr
              have t0 := hK2.t0
              have t1 := hK2.t1
              have t2 := hK2.t2
              have t3 := hK2.t3
              have t4 := hK2.t4
              have t5 := hK2.t5
              have ft := hK2.ft
              have hB := Lib.hid hK2.below
              clear hK2
              go_wp2_with (first | (go_at_call 70; with_reducible refine (hL2.out _).mono ?_; rintro e w' ⟨rfl, rfl⟩) | (go_at_call 71; with_reducible refine (hG2.out _).mono ?_; rintro e w' ⟨rfl, rfl⟩) | (go_at_call 70; with_reducible refine (hL.out _).mono ?_; rintro e w' ⟨rfl, rfl⟩) | (go_at_call 71; with_reducible refine (hG.out _).mono ?_; rintro e w' ⟨rfl, rfl⟩))
              refine bodyPost_ret (v := .tuple #[.agg #[.int .u8 1, .string (s.extract a k), .int .i64 0, .int .u64 0, .int .u64 0, .int .i64 (a : Int)], .int .i64 0]) (by simp [results, Tryz.results46, go_sem, r0, r1, r2, r3, r4, r5]) rfl ⟨by rw [← hvp'.out]; exact tokV_zero _ _ _ _, ?_⟩
              exact plus_of_below ((((((((hB.out.setCell (p := ⟨w.heap.size + 1, _, none⟩) (by show w.heap.size ≤ w.heap.size + 1; omega) _).setCell (p := ⟨w.heap.size + 1, _, none⟩) (by show w.heap.size ≤ w.heap.size + 1; omega) _).setCell (p := ⟨w.heap.size, _, none⟩) (by show w.heap.size ≤ w.heap.size; omega) _).setCell (p := ⟨w.heap.size, _, none⟩) (by show w.heap.size ≤ w.heap.size; omega) _).setCell (p := ⟨w.heap.size, _, none⟩) (by show w.heap.size ≤ w.heap.size; omega) _).setCell (p := ⟨w.heap.size, _, none⟩) (by show w.heap.size ≤ w.heap.size; omega) _).setCell (p := ⟨w.heap.size, _, none⟩) (by show w.heap.size ≤ w.heap.size; omega) _).setCell (p := ⟨w.heap.size, _, none⟩) (by show w.heap.size ≤ w.heap.size; omega) _)
      · have hEq : Hid (wEnd s a = k) := hwe'.out.symm.trans (wEnd_past hlt)
        rw [hEq.out] at hO
        by_cases h16 : 16 < k - a
        · rw [if_pos h16] at hO
          rw [hO] at hvp
          have hvp' := Lib.hid hvp
          clear hvp hO
          have hK2 := hK'.out
          clear hK'
          have r0 := hK2.r0
          have r1 := hK2.r1
          have r2 := hK2.r2
          have r3 := hK2.r3
          have r4 := hK2.r4
          have r5 := hK2.r5
          have fr := hK2.fr
          have t0 := hK2.t0
          have t1 := hK2.t1
          have t2 := hK2.t2
          have t3 := hK2.t3
          have t4 := hK2.t4
          have t5 := hK2.t5
          have ft := hK2.ft
          have hB := Lib.hid hK2.below
          clear hK2
          go_wp2_with (first | (go_at_call 70; with_reducible refine (hL2.out _).mono ?_; rintro e w' ⟨rfl, rfl⟩) | (go_at_call 71; with_reducible refine (hG2.out _).mono ?_; rintro e w' ⟨rfl, rfl⟩) | (go_at_call 70; with_reducible refine (hL.out _).mono ?_; rintro e w' ⟨rfl, rfl⟩) | (go_at_call 71; with_reducible refine (hG.out _).mono ?_; rintro e w' ⟨rfl, rfl⟩))
          refine bodyPost_ret (v := .tuple #[.agg #[.int .u8 1, .string (s.extract a k), .int .i64 0, .int .u64 0, .int .u64 0, .int .i64 (a : Int)], .int .i64 3]) (by simp [results, Tryz.results46, go_sem, r0, r1, r2, r3, r4, r5]) rfl ⟨by rw [← hvp'.out]; exact tokV_zero _ _ _ _, ?_⟩
          exact plus_of_below ((((((((hB.out.setCell (p := ⟨w.heap.size + 1, _, none⟩) (by show w.heap.size ≤ w.heap.size + 1; omega) _).setCell (p := ⟨w.heap.size + 1, _, none⟩) (by show w.heap.size ≤ w.heap.size + 1; omega) _).setCell (p := ⟨w.heap.size, _, none⟩) (by show w.heap.size ≤ w.heap.size; omega) _).setCell (p := ⟨w.heap.size, _, none⟩) (by show w.heap.size ≤ w.heap.size; omega) _).setCell (p := ⟨w.heap.size, _, none⟩) (by show w.heap.size ≤ w.heap.size; omega) _).setCell (p := ⟨w.heap.size, _, none⟩) (by show w.heap.size ≤ w.heap.size; omega) _).setCell (p := ⟨w.heap.size, _, none⟩) (by show w.heap.size ≤ w.heap.size; omega) _).setCell (p := ⟨w.heap.size, _, none⟩) (by show w.heap.size ≤ w.heap.size; omega) _)
        · rw [if_neg h16] at hO
          rw [hO] at hvp
          have hvp' := Lib.hid hvp
          clear hvp hO
          have hK2 := hK'.out
          clear hK'
          have r0 := hK2.r0
          have r1 := hK2.r1
          have r2 := hK2.r2
          have r3 := hK2.r3
          have r4 := hK2.r4
          have r5 := hK2.r5
          have fr := hK2.fr
          have t0 := hK2.t0
          have t1 := hK2.t1
          have t2 := hK2.t2
          have t3 := hK2.t3
          have t4 := hK2.t4
          have t5 := hK2.t5
          have ft := hK2.ft
          have hB := Lib.hid hK2.below
          clear hK2
          go_wp2_with (first | (go_at_call 70; with_reducible refine (hL2.out _).mono ?_; rintro e w' ⟨rfl, rfl⟩) | (go_at_call 71; with_reducible refine (hG2.out _).mono ?_; rintro e w' ⟨rfl, rfl⟩) | (go_at_call 70; with_reducible refine (hL.out _).mono ?_; rintro e w' ⟨rfl, rfl⟩) | (go_at_call 71; with_reducible refine (hG.out _).mono ?_; rintro e w' ⟨rfl, rfl⟩))
          refine bodyPost_ret (v := .tuple #[.agg #[.int .u8 1, .string (s.extract a k), .int .i64 0, .int .u64 0, .int .u64 0, .int .i64 (a : Int)], .int .i64 0]) (by simp [results, Tryz.results46, go_sem, r0, r1, r2, r3, r4, r5]) rfl ⟨by rw [← hvp'.out]; exact tokV_zero _ _ _ _, ?_⟩
          exact plus_of_below ((((((((hB.out.setCell (p := ⟨w.heap.size + 1, _, none⟩) (by show w.heap.size ≤ w.heap.size + 1; omega) _).setCell (p := ⟨w.heap.size + 1, _, none⟩) (by show w.heap.size ≤ w.heap.size + 1; omega) _).setCell (p := ⟨w.heap.size, _, none⟩) (by show w.heap.size ≤ w.heap.size; omega) _).setCell (p := ⟨w.heap.size, _, none⟩) (by show w.heap.size ≤ w.heap.size; omega) _).setCell (p := ⟨w.heap.size, _, none⟩) (by show w.heap.size ≤ w.heap.size; omega) _).setCell (p := ⟨w.heap.size, _, none⟩) (by show w.heap.size ≤ w.heap.size; omega) _).setCell (p := ⟨w.heap.size, _, none⟩) (by show w.heap.size ≤ w.heap.size; omega) _).setCell (p := ⟨w.heap.size, _, none⟩) (by show w.heap.size ≤ w.heap.size; omega) _)
  | false =>
    cases h2 : isDig c with
    | true =>
      rw [h1] at hL
      rw [h2] at hG
      have hO : oneR s a = (⟨2, s.extract a (wEnd s a), (numR (s.extract a (wEnd s a))).1, (numR (s.extract a (wEnd s a))).2.1, a⟩, (numR (s.extract a (wEnd s a))).2.2) := by
        unfold oneR
        rw [if_pos (by rw [e1, h1, h2]; rfl), if_pos (by rw [e1]; exact h2)]
      clear h1 h2 e1 hM
      go_enter Tryz.func46, Tryz.ntmps46
      go_wp2_with (first | (go_at_call 70; refine (hL.out _).mono ?_; rintro e w' ⟨rfl, rfl⟩) | (go_at_call 71; refine (hG.out _).mono ?_; rintro e w' ⟨rfl, rfl⟩))
      refine abs_world3 (T := KInv w a ⟨#[]⟩) ?_ (KInv.start w a _ _)
      intro W hK
      have hK' := Lib.hid hK
      clear hK
      go_loopw [8] (fun ev wr => wr = W ∧ ∃ k : Nat, a ≤ k ∧ k ≤ s.size ∧ ev = .int .i64 (k : Int) ∧ wEnd s k = wEnd s a) (fun ev _ => s.size - (intOf ev).toNat)
      case atStart => exact ⟨rfl, a, Nat.le_refl _, by omega, rfl, rfl⟩
      case round =>
        obtain ⟨rfl, k, hak, hk, rfl, hwe⟩ := hrel
        have hwe' := Lib.hid hwe
        clear hwe
        by_cases hlt : k < s.size
        · have e2 : byN s k = (s[k]).toNat := byN_at hlt
          have d256 := (s[k]).toNat_lt
          generalize hdd : (s[k]).toNat = d at e2 d256
          have hL2 := Lib.hid (fun w => ref_letter d w d256)
          have hG2 := Lib.hid (fun w => ref_digit3 d w d256)
          cases g1 : isLet d with
          | true =>
            have hgo := Lib.hid (wEnd_go hlt (by rw [e2, g1]; rfl))
            rw [g1] at hL2
            clear g1 e2
            go_wp2_with (first | (go_at_call 70; with_reducible refine (hL2.out _).mono ?_; rintro e w' ⟨rfl, rfl⟩) | (go_at_call 71; with_reducible refine (hG2.out _).mono ?_; rintro e w' ⟨rfl, rfl⟩) | (go_at_call 70; with_reducible refine (hL.out _).mono ?_; rintro e w' ⟨rfl, rfl⟩) | (go_at_call 71; with_reducible refine (hG.out _).mono ?_; rintro e w' ⟨rfl, rfl⟩))
            go_roundw
            case rel => exact ⟨by trivial, k + 1, by omega, by omega, by go_num, by rw [← hgo.out]; exact hwe'.out⟩
            case measure => simp [intOf]; omega
          | false =>
            cases g2 : isDig d with
            | true =>
              have hgo := Lib.hid (wEnd_go hlt (by rw [e2, g1, g2]; rfl))
              rw [g1] at hL2
              rw [g2] at hG2
              clear g1 g2 e2
              go_wp2_with (first | (go_at_call 70; with_reducible refine (hL2.out _).mono ?_; rintro e w' ⟨rfl, rfl⟩) | (go_at_call 71; with_reducible refine (hG2.out _).mono ?_; rintro e w' ⟨rfl, rfl⟩) | (go_at_call 70; with_reducible refine (hL.out _).mono ?_; rintro e w' ⟨rfl, rfl⟩) | (go_at_call 71; with_reducible refine (hG.out _).mono ?_; rintro e w' ⟨rfl, rfl⟩))
              go_roundw
              case rel => exact ⟨by trivial, k + 1, by omega, by omega, by go_num, by rw [← hgo.out]; exact hwe'.out⟩
              case measure => simp [intOf]; omega
            | false =>
              have hst := Lib.hid (wEnd_stop hlt (by rw [e2, g1, g2]; rfl))
              rw [g1] at hL2
              rw [g2] at hG2
              have hEq : Hid (wEnd s a = k) := hwe'.out.symm.trans hst.out
              clear g1 g2 e2 hst
              rw [hEq.out] at hO
              have hN := Lib.hid (ref_number (s.extract a k) (by simp; omega))
              generalize numR (s.extract a k) = r at hO hN
              obtain ⟨W0, N, E⟩ := r
              simp only at hO hN
              rw [hO] at hvp
              have hvp' := Lib.hid hvp
              clear hvp hO
              have t1 := hK'.out.t1
              have ft := hK'.out.ft
              go_wp2_with (first | (go_at_call 70; with_reducible refine (hL2.out _).mono ?_; rintro e w' ⟨rfl, rfl⟩) | (go_at_call 71; with_reducible refine (hG2.out _).mono ?_; rintro e w' ⟨rfl, rfl⟩) | (go_at_call 70; with_reducible refine (hL.out _).mono ?_; rintro e w' ⟨rfl, rfl⟩) | (go_at_call 71; with_reducible refine (hG.out _).mono ?_; rintro e w' ⟨rfl, rfl⟩))
              refine abs_calls3 (T := KInv w a (s.extract a k)) ?_ (hK'.out.putS _)
              clear t1 ft
              intro W1 hK3
              refine (hN.out W1).mono ?_
              rintro e w' ⟨rfl, x, rfl⟩
              have hK4 := hK3.plus x
              generalize plus W1 x = V at hK4 ⊢
              clear hK3 hN hK'
              have r0 := fun x => (hK4.alloc x).r0
              have r1 := fun x => (hK4.alloc x).r1
              have r2 := fun x => (hK4.alloc x).r2
              have r3 := fun x => (hK4.alloc x).r3
              have r4 := fun x => (hK4.alloc x).r4
              have r5 := fun x => (hK4.alloc x).r5
              have fr := fun x => (hK4.alloc x).fr
              have t0 := fun x => (hK4.alloc x).t0
              have t1 := fun x => (hK4.alloc x).t1
              have t2 := fun x => (hK4.alloc x).t2
              have t3 := fun x => (hK4.alloc x).t3
              have t4 := fun x => (hK4.alloc x).t4
              have t5 := fun x => (hK4.alloc x).t5
              have ft := fun x => (hK4.alloc x).ft
              have hB := Lib.hid hK4.below
              have m0 : (V.alloc (.cells #[.int .u64 (hi N), .int .u64 (lo N)] 58)).cell? ⟨V.heap.size, 0, none⟩ = some (.int .u64 (hi N)) := cell_new V _ _ _ 0 rfl
              have m1 : (V.alloc (.cells #[.int .u64 (hi N), .int .u64 (lo N)] 58)).cell? ⟨V.heap.size, 1, none⟩ = some (.int .u64 (lo N)) := cell_new V _ _ _ 1 rfl
              have hne1 : ¬ V.heap.size = w.heap.size + 1 := by have := hK4.size; omega
              have hne2 : ¬ w.heap.size + 1 = V.heap.size := by have := hK4.size; omega
              clear hK4
              go_wp2
              refine bodyPost_ret (v := .tuple #[.agg #[.int .u8 2, .string (s.extract a k), .int .i64 W0, .int .u64 (hi N), .int .u64 (lo N), .int .i64 (a : Int)], .int .i64 E]) (by simp [results, Tryz.results46, go_sem, r0, r1, r2, r3, r4, r5]) rfl ⟨by rw [← hvp'.out]; rfl, ?_⟩
              exact plus_of_below (((((((((((hB.out.alloc hB.out.size _).setCell (p := ⟨w.heap.size + 1, _, none⟩) (by show w.heap.size ≤ w.heap.size + 1; omega) _).setCell (p := ⟨w.heap.size + 1, _, none⟩) (by show w.heap.size ≤ w.heap.size + 1; omega) _).setCell (p := ⟨w.heap.size + 1, _, none⟩) (by show w.heap.size ≤ w.heap.size + 1; omega) _).setCell (p := ⟨w.heap.size + 1, _, none⟩) (by show w.heap.size ≤ w.heap.size + 1; omega) _).setCell (p := ⟨w.heap.size, _, none⟩) (by show w.heap.size ≤ w.heap.size; omega) _).setCell (p := ⟨w.heap.size, _, none⟩) (by show w.heap.size ≤ w.heap.size; omega) _).setCell (p := ⟨w.heap.size, _, none⟩) (by show w.heap.size ≤ w.heap.size; omega) _).setCell (p := ⟨w.heap.size, _, none⟩) (by show w.heap.size ≤ w.heap.size; omega) _).setCell (p := ⟨w.heap.size, _, none⟩) (by show w.heap.size ≤ w.heap.size; omega) _).setCell (p := ⟨w.heap.size, _, none⟩) (by show w.heap.size ≤ w.heap.size; omega) _)
        · have hEq : Hid (wEnd s a = k) := hwe'.out.symm.trans (wEnd_past hlt)
          rw [hEq.out] at hO
          have hN := Lib.hid (ref_number (s.extract a k) (by simp; omega))
          generalize numR (s.extract a k) = r at hO hN
          obtain ⟨W0, N, E⟩ := r
          simp only at hO hN
          rw [hO] at hvp
          have hvp' := Lib.hid hvp
          clear hvp hO
          have t1 := hK'.out.t1
          have ft := hK'.out.ft
          go_wp2_with (first | (go_at_call 70; with_reducible refine (hL2.out _).mono ?_; rintro e w' ⟨rfl, rfl⟩) | (go_at_call 71; with_reducible refine (hG2.out _).mono ?_; rintro e w' ⟨rfl, rfl⟩) | (go_at_call 70; with_reducible refine (hL.out _).mono ?_; rintro e w' ⟨rfl, rfl⟩) | (go_at_call 71; with_reducible refine (hG.out _).mono ?_; rintro e w' ⟨rfl, rfl⟩))
          refine abs_calls3 (T := KInv w a (s.extract a k)) ?_ (hK'.out.putS _)
          clear t1 ft
          intro W1 hK3
          refine (hN.out W1).mono ?_
          rintro e w' ⟨rfl, x, rfl⟩
          have hK4 := hK3.plus x
          generalize plus W1 x = V at hK4 ⊢
          clear hK3 hN hK'
          have r0 := fun x => (hK4.alloc x).r0
          have r1 := fun x => (hK4.alloc x).r1
          have r2 := fun x => (hK4.alloc x).r2
          have r3 := fun x => (hK4.alloc x).r3
          have r4 := fun x => (hK4.alloc x).r4
          have r5 := fun x => (hK4.alloc x).r5
          have fr := fun x => (hK4.alloc x).fr
          have t0 := fun x => (hK4.alloc x).t0
          have t1 := fun x => (hK4.alloc x).t1
          have t2 := fun x => (hK4.alloc x).t2
          have t3 := fun x => (hK4.alloc x).t3
          have t4 := fun x => (hK4.alloc x).t4
          have t5 := fun x => (hK4.alloc x).t5
          have ft := fun x => (hK4.alloc x).ft
          have hB := Lib.hid hK4.below
          have m0 : (V.alloc (.cells #[.int .u64 (hi N), .int .u64 (lo N)] 58)).cell? ⟨V.heap.size, 0, none⟩ = some (.int .u64 (hi N)) := cell_new V _ _ _ 0 rfl
          have m1 : (V.alloc (.cells #[.int .u64 (hi N), .int .u64 (lo N)] 58)).cell? ⟨V.heap.size, 1, none⟩ = some (.int .u64 (lo N)) := cell_new V _ _ _ 1 rfl
          have hne1 : ¬ V.heap.size = w.heap.size + 1 := by have := hK4.size; omega
          have hne2 : ¬ w.heap.size + 1 = V.heap.size := by have := hK4.size; omega
          clear hK4
          go_wp2
          refine bodyPost_ret (v := .tuple #[.agg #[.int .u8 2, .string (s.extract a k), .int .i64 W0, .int .u64 (hi N), .int .u64 (lo N), .int .i64 (a : Int)], .int .i64 E]) (by simp [results, Tryz.results46, go_sem, r0, r1, r2, r3, r4, r5]) rfl ⟨by rw [← hvp'.out]; rfl, ?_⟩
          exact plus_of_below (((((((((((hB.out.alloc hB.out.size _).setCell (p := ⟨w.heap.size + 1, _, none⟩) (by show w.heap.size ≤ w.heap.size + 1; omega) _).setCell (p := ⟨w.heap.size + 1, _, none⟩) (by show w.heap.size ≤ w.heap.size + 1; omega) _).setCell (p := ⟨w.heap.size + 1, _, none⟩) (by show w.heap.size ≤ w.heap.size + 1; omega) _).setCell (p := ⟨w.heap.size + 1, _, none⟩) (by show w.heap.size ≤ w.heap.size + 1; omega) _).setCell (p := ⟨w.heap.size, _, none⟩) (by show w.heap.size ≤ w.heap.size; omega) _).setCell (p := ⟨w.heap.size, _, none⟩) (by show w.heap.size ≤ w.heap.size; omega) _).setCell (p := ⟨w.heap.size, _, none⟩) (by show w.heap.size ≤ w.heap.size; omega) _).setCell (p := ⟨w.heap.size, _, none⟩) (by show w.heap.size ≤ w.heap.size; omega) _).setCell (p := ⟨w.heap.size, _, none⟩) (by show w.heap.size ≤ w.heap.size; omega) _).setCell (p := ⟨w.heap.size, _, none⟩) (by show w.heap.size ≤ w.heap.size; omega) _)
    | false =>
      rw [h1] at hL
      rw [h2] at hG
      have hO : oneR s a = (if markN s a = 0 then (⟨0, ByteArray.empty, 0, 0, a⟩, 4) else (⟨3, s.extract a (a + markN s a), 0, 0, a⟩, 0)) := by
        unfold oneR
        rw [if_neg (by rw [e1, h1, h2]; simp)]
      generalize markN s a = n at hO hM hml
      by_cases hn : n = 0
      · subst hn
        rw [if_pos rfl] at hO
        rw [hO] at hvp
        have hvp' := Lib.hid hvp
        clear hvp h1 h2 e1 hO
        go_enter Tryz.func46, Tryz.ntmps46
        go_wp2_with (first | (go_at_call 70; refine (hL.out _).mono ?_; rintro e w' ⟨rfl, rfl⟩) | (go_at_call 71; refine (hG.out _).mono ?_; rintro e w' ⟨rfl, rfl⟩))
        refine abs_calls3 (T := KInv w a ⟨#[]⟩) ?_ (KInv.start w a _ _)
        intro W hK
        refine (hM.out W).mono ?_
        rintro e w' ⟨rfl, x, rfl⟩
        have hK2 := hK.plus x
        generalize plus W x = V at hK2 ⊢
        clear hK hM
        have r0 := hK2.r0
        have r1 := hK2.r1
        have r2 := hK2.r2
        have r3 := hK2.r3
        have r4 := hK2.r4
        have r5 := hK2.r5
        have fr := hK2.fr
        have t0 := hK2.t0
        have t1 := hK2.t1
        have t2 := hK2.t2
        have t3 := hK2.t3
        have t4 := hK2.t4
        have t5 := hK2.t5
        have ft := hK2.ft
        have hB := Lib.hid hK2.below
        clear hK2
        go_wp2
        refine bodyPost_ret (v := .tuple #[.agg #[.int .u8 0, .string ⟨#[]⟩, .int .i64 0, .int .u64 0, .int .u64 0, .int .i64 (a : Int)], .int .i64 4]) (by simp [results, Tryz.results46, go_sem, r0, r1, r2, r3, r4, r5]) rfl ⟨by rw [← hvp'.out]; exact tokV_zero _ _ _ _, ?_⟩
        exact plus_of_below ((((((hB.out.setCell (p := ⟨w.heap.size, _, none⟩) (by show w.heap.size ≤ w.heap.size; omega) _).setCell (p := ⟨w.heap.size, _, none⟩) (by show w.heap.size ≤ w.heap.size; omega) _).setCell (p := ⟨w.heap.size, _, none⟩) (by show w.heap.size ≤ w.heap.size; omega) _).setCell (p := ⟨w.heap.size, _, none⟩) (by show w.heap.size ≤ w.heap.size; omega) _).setCell (p := ⟨w.heap.size, _, none⟩) (by show w.heap.size ≤ w.heap.size; omega) _).setCell (p := ⟨w.heap.size, _, none⟩) (by show w.heap.size ≤ w.heap.size; omega) _)
      · have hq : ((n : Int) == 0) = false := by rw [beq_eq_false_iff_ne]; omega
        rw [if_neg hn] at hO
        rw [hO] at hvp
        have hvp' := Lib.hid hvp
        clear hvp h1 h2 e1 hO hn
        go_enter Tryz.func46, Tryz.ntmps46
        go_wp2_with (first | (go_at_call 70; refine (hL.out _).mono ?_; rintro e w' ⟨rfl, rfl⟩) | (go_at_call 71; refine (hG.out _).mono ?_; rintro e w' ⟨rfl, rfl⟩))
        refine abs_calls3 (T := KInv w a ⟨#[]⟩) ?_ (KInv.start w a _ _)
        intro W hK
        refine (hM.out W).mono ?_
        rintro e w' ⟨rfl, x, rfl⟩
        have hK2 := hK.plus x
        generalize plus W x = V at hK2 ⊢
        clear hK hM
        have r0 := hK2.r0
        have r1 := hK2.r1
        have r2 := hK2.r2
        have r3 := hK2.r3
        have r4 := hK2.r4
        have r5 := hK2.r5
        have fr := hK2.fr
        have t0 := hK2.t0
        have t1 := hK2.t1
        have t2 := hK2.t2
        have t3 := hK2.t3
        have t4 := hK2.t4
        have t5 := hK2.t5
        have ft := hK2.ft
        have hB := Lib.hid hK2.below
        clear hK2
        go_wp2
        refine bodyPost_ret (v := .tuple #[.agg #[.int .u8 3, .string (s.extract a (a + n)), .int .i64 0, .int .u64 0, .int .u64 0, .int .i64 (a : Int)], .int .i64 0]) (by simp [results, Tryz.results46, go_sem, r0, r1, r2, r3, r4, r5]) rfl ⟨by rw [← hvp'.out]; exact tokV_zero _ _ _ _, ?_⟩
        exact plus_of_below ((((((((hB.out.setCell (p := ⟨w.heap.size + 1, _, none⟩) (by show w.heap.size ≤ w.heap.size + 1; omega) _).setCell (p := ⟨w.heap.size + 1, _, none⟩) (by show w.heap.size ≤ w.heap.size + 1; omega) _).setCell (p := ⟨w.heap.size, _, none⟩) (by show w.heap.size ≤ w.heap.size; omega) _).setCell (p := ⟨w.heap.size, _, none⟩) (by show w.heap.size ≤ w.heap.size; omega) _).setCell (p := ⟨w.heap.size, _, none⟩) (by show w.heap.size ≤ w.heap.size; omega) _).setCell (p := ⟨w.heap.size, _, none⟩) (by show w.heap.size ≤ w.heap.size; omega) _).setCell (p := ⟨w.heap.size, _, none⟩) (by show w.heap.size ≤ w.heap.size; omega) _).setCell (p := ⟨w.heap.size, _, none⟩) (by show w.heap.size ≤ w.heap.size; omega) _)
end Go.Proofs.YtkffjjlmoojffaaGreatDoor
