/-
  WHAT IS PROVED HERE: a part of the proof of the claim's theorem: NetI.
-/
import Derived.Test.YtkffjjlmoojffaaGreatDoorRows
import Derived.Test.YtkffjjlmoojffaaGreatDoorM24
set_option linter.all false
namespace Go.Proofs.YtkffjjlmoojffaaGreatDoor
open Go.RowKit
def sortK (zs : List Int) (m : Nat) : List Int := ((List.range m).map fun i => ((i + 1 : Nat) : Int)).filter fun n => decide (n ∈ zs)
theorem sortK_zero (zs : List Int) : sortK zs 0 = [] := rfl
theorem sortK_succ (zs : List Int) (m : Nat) : sortK zs (m + 1) = sortK zs m ++ if ((m + 1 : Nat) : Int) ∈ zs then [((m + 1 : Nat) : Int)] else [] := by
  unfold sortK
  rw [List.range_succ, List.map_append, List.filter_append]
  congr 1
  by_cases h : ((m + 1 : Nat) : Int) ∈ zs
  · rw [if_pos h, List.map_singleton, List.filter_cons_of_pos (by simpa using h), List.filter_nil]
  · rw [if_neg h, List.map_singleton, List.filter_cons_of_neg (by simpa using h), List.filter_nil]
theorem sortK_len (zs : List Int) (m : Nat) : (sortK zs m).length ≤ m := by
  unfold sortK
  exact Nat.le_trans (List.length_filter_le _ _) (by simp)
theorem own_belows {α : Type} {w w' : World} {base : Nat} {e : TypeId} {C : Nat} {f : α → List Value} {v : Value} {l : List α} (h : Own w base e C f v l) (hB : Below w.heap.size w w') : Own w' base e C f v l := own_below h hB (Nat.le_refl _)
structure SoI (w : World) (v : Value) (zs : List Int) (m : Nat) (wr : World) : Prop where
  below : Below w.heap.size w wr
  own : Own wr w.heap.size 3 1 intC v (sortK zs m)
theorem own_sl3 {α : Type} {w : World} {base : Nat} {e : TypeId} {C : Nat} {f : α → List Value} {v : Value} {l : List α} (h : Own w base e C f v l) : ∃ p c, v = .slice p l.length c := by
  rcases h.2 with ⟨rfl, h0⟩ | ⟨g, cap, cur, rfl, _⟩
  · exact ⟨none, 0, by rw [h0]⟩
  · exact ⟨_, cap, rfl⟩
set_option maxHeartbeats 2000000 in
theorem dc_sorted {w : World} (v : Value) (zs : List Int) (h : Lies w 1 intC v zs) (hb : zs.length ≤ 1048576) :
    Calls Tryz.prog 50 #[v] w fun e w' => ∃ v', e = .returned v' ∧ Below w.heap.size w w' ∧ Own w' w.heap.size 3 1 intC v' (sortK zs 511) := by
  have hh := h
  obtain ⟨p0, c0, hv, -⟩ := hh
  have h' : Hid (Lies w 1 intC v zs) := Lib.hid h
  have hH : Hid (∀ (wr : World) (x : Int), Below w.heap.size w wr → Calls Tryz.prog 49 #[v, .int .i64 x] wr (Back wr (.bool (decide (x ∈ zs))))) := Lib.hid fun wr x hB => dc_has1 v zs x (h.below hB) hb
  rw [hv] at hH ⊢
  clear h hv
  go_enter Tryz.func50, Tryz.ntmps50
  go_wp2
  have hS0 : Hid (SoI w (.slice none 0 0) zs 0 w) := Lib.hid ⟨Below.refl _ _, by rw [sortK_zero]; exact World.ownsRow_nil _ _ _ _⟩
  go_loopw [3, 4] (fun ov iv wr => ∃ k : Nat, k ≤ 511 ∧ iv = .int .i64 ((k : Int) + 1) ∧ Hid (SoI w ov zs k wr)) (fun _ iv _ => 512 - (intOf iv).toNat)
  case atStart => exact ⟨0, Nat.zero_le _, rfl, hS0⟩
  case round =>
    obtain ⟨k, hk, rfl, hS⟩ := hrel
    clear hS0
    by_cases hlt : k < 511
    · have k1 : (k : Int) + 1 < 512 := by omega
      have hs := sortK_succ zs k
      obtain ⟨B, hB⟩ : ∃ B, decide (((k : Int) + 1) ∈ zs) = B := ⟨_, rfl⟩
      have hH1 := hH.out wr ((k : Int) + 1) hS.out.below
      rw [hB] at hH1
      have hH1 := Lib.hid hH1
      obtain ⟨p3, c3, rfl⟩ := own_sl3 hS.out.own
      have kw : Hid (((k : Int) + 1 + 1) = ((k + 1 : Nat) : Int) + 1) := by show _ = _; omega
      have hmeas : Hid (512 - (intOf (Value.int .i64 ((k : Int) + 1 + 1))).toNat < 512 - (intOf (Value.int .i64 ((k : Int) + 1))).toNat) := by
        show 512 - ((k : Int) + 1 + 1).toNat < 512 - ((k : Int) + 1).toNat
        omega
      obtain ⟨n3, hn3⟩ : ∃ n3, (sortK zs k).length = n3 := ⟨_, rfl⟩
      have hlen := sortK_len zs k
      rw [hn3]
      replace hn3 := Lib.hid hn3
      cases B with
      | false =>
        rw [if_neg (by have := of_decide_eq_false hB; simpa using this), List.append_nil] at hs
        replace hs := Lib.hid hs
        clear hB hlen
        go_wp2_with fail
        refine hH1.out.mono ?_
        rintro e w' ⟨rfl, x, rfl⟩
        go_wp2
        go_roundw
        case rel => exact ⟨k + 1, hlt, congrArg (Value.int .i64) kw.out, Lib.hid ⟨hS.out.below.trans ((below_plus wr x).mono hS.out.below.size), by rw [hs.out, ← hn3.out]; exact own_belows hS.out.own (below_plus wr x)⟩⟩
        case measure => exact hmeas.out
      | true =>
        rw [if_pos (by have := of_decide_eq_true hB; simpa using this)] at hs
        replace hs := Lib.hid hs
        have hlen' : Hid ((sortK zs k).length ≤ 1048576) := Lib.hid (by omega)
        clear hB hlen
        go_wp2_with fail
        refine hH1.out.mono ?_
        rintro e w' ⟨rfl, x, rfl⟩
        have hS2 : Hid (SoI w (.slice p3 n3 c3) zs k (plus wr x)) := Lib.hid ⟨hS.out.below.trans ((below_plus wr x).mono hS.out.below.size), by have := own_belows hS.out.own (below_plus wr x); rwa [hn3.out] at this⟩
        generalize Go.Proofs.YtkffjjlmoojffaaGreatDoor.plus wr x = V at hS2 ⊢
        have hown2 : Hid (V.ownsRow w.heap.size 3 1 (.slice p3 n3 c3) n3 (((sortK zs k).map intC).flatten)) := Lib.hid (by have := hS2.out.own; unfold Own at this; rwa [hn3.out] at this)
        go_wp2_with (at_builtin; refine rowApp intC 3 39 1 8 (.int .i64 0) Tryz.underlying39 num_info rfl (by decide) (by decide) intC_len intC_one (.slice p3 n3 c3) n3 hn3.out (hown2.out.alloc _) (by have := hS2.out.below.size; simp; omega) hlen'.out ((k : Int) + 1) V.heap.size (fun j u hu => (cell_new V _ _ _ j rfl).trans (by simpa [intC] using hu)) rfl _ _ rfl rfl rfl ?_)
        intro v' w1 hown hgrow
        have hS3 : Hid (SoI w v' zs (k + 1) w1) := Lib.hid ⟨(hS2.out.below.alloc hS2.out.below.size _).grown hgrow (by have := hS2.out.below.size; simp; omega) (fun j e => (hown2.out.lt j e).1), by
          rw [hs.out]
          exact hown⟩
        clear hown hgrow hS2 hown2
        go_wp2
        go_roundw
        case rel => exact ⟨k + 1, hlt, congrArg (Value.int .i64) kw.out, hS3⟩
        case measure => exact hmeas.out
    · obtain rfl : k = 511 := by omega
      have hS' := hS
      clear hS
      go_wp2
      go_ret
      exact ⟨_, rfl, hS'.out.below, hS'.out.own⟩
end Go.Proofs.YtkffjjlmoojffaaGreatDoor
