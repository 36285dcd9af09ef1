/-
  WHAT IS PROVED HERE: what the landed waiting and firstFree hand back: how many go to each state (waitF), the least one to which none goes (freeF).
-/
import Derived.Test.YtplkiadkkefppaaRows
import Derived.Test.YtplkiadkkefppaaOi
import Derived.Test.YtplkiadkkefppaaOb
namespace Go.Proofs.Ytplkiadkkefppaa
open Go.RowKit
/-- All counts are small. -/
def AbsB (W : List (Option Int)) (B : Nat) : Prop := ∀ (m : Nat) (c : Int), W[m]? = some (some c) → -(B : Int) ≤ c ∧ c ≤ (B : Int)
theorem AbsB.mono {W : List (Option Int)} {B B' : Nat} (h : AbsB W B) (hb : B ≤ B') : AbsB W B' := fun m c e => by have := h m c e; omega
theorem AbsB.get {W : List (Option Int)} {B : Nat} (h : AbsB W B) (m : Nat) : -(B : Int) ≤ (W.getD m none).getD 0 ∧ (W.getD m none).getD 0 ≤ (B : Int) := by
  rw [List.getD_eq_getElem?_getD]
  cases e : W[m]? with
  | none => simp
  | some o =>
    cases o with
    | none => simp
    | some c => simpa using h m c e
theorem AbsB.put {W : List (Option Int)} {B : Nat} (h : AbsB W B) (m : Nat) (c : Int) (hc : -((B + 1 : Nat) : Int) ≤ c ∧ c ≤ ((B + 1 : Nat) : Int)) : AbsB (W.set m (some c)) (B + 1) := fun k u e => by
  rw [List.getElem?_set] at e
  split at e
  · split at e
    · simp at e; subst e; exact hc
    · cases e
  · have := h k u e; omega
theorem AbsB.gone {W : List (Option Int)} {B : Nat} (h : AbsB W B) (m : Nat) : AbsB (W.set m none) B := fun k u e => by
  rw [List.getElem?_set] at e
  split at e
  · split at e <;> cases e
  · exact h k u e
theorem AbsB.add {W : List (Option Int)} {B : Nat} (h : AbsB W B) (d : Int) (hd : d = 1 ∨ d = -1) (m : Nat) : AbsB (addW d W m) (B + 1) := by
  have := h.get m
  exact h.put m _ (by omega)
theorem AbsB.fold {d : Int} (hd : d = 1 ∨ d = -1) : ∀ (l : List Nat) {W : List (Option Int)} {B : Nat}, AbsB W B → AbsB (l.foldl (addW d) W) (B + l.length)
  | [], _, _, h => h
  | x :: l, W, B, h => by
    have := AbsB.fold hd l (h.add d hd x)
    exact this.mono (by simp; omega)
theorem AbsB.wait {C : Nat} : ∀ (G : List (List Nat)) {W : List (Option Int)} {B : Nat}, (∀ l ∈ G, l.length ≤ C) → AbsB W B → AbsB (G.foldl (fun W l => l.foldl (addW 1) W) W) (B + G.length * C)
  | [], _, _, _, h => h.mono (by omega)
  | l :: G, W, B, hl, h => by
    have h1 := AbsB.fold (.inl rfl) l h
    have h2 := AbsB.wait G (fun x hx => hl x (by simp [hx])) h1
    have h3 := hl l (by simp)
    refine h2.mono ?_
    rw [List.length_cons, Nat.succ_mul]
    omega
theorem addW_len (d : Int) (W : List (Option Int)) (m : Nat) : (addW d W m).length = W.length := by simp [addW]
theorem fold_len (d : Int) : ∀ (l : List Nat) (W : List (Option Int)), (l.foldl (addW d) W).length = W.length
  | [], _ => rfl
  | x :: l, W => by rw [List.foldl_cons, fold_len d l, addW_len]
theorem wait_len : ∀ (G : List (List Nat)) (W : List (Option Int)), (G.foldl (fun W l => l.foldl (addW 1) W) W).length = W.length
  | [], _ => rfl
  | l :: G, W => by rw [List.foldl_cons, wait_len G, fold_len]
theorem absB_zero (n : Nat) : AbsB (List.replicate n (some 0)) 0 := fun m c e => by
  rw [List.getElem?_replicate] at e
  split at e
  · simp at e; subst e; omega
  · cases e
theorem waitF_abs {g : List (List Nat)} (hl : ∀ l ∈ g, l.length ≤ 1048576) : AbsB (waitF g) (g.length * 1048576) := by
  have := AbsB.wait g hl (absB_zero g.length)
  rwa [Nat.zero_add] at this
theorem waitF_len (g : List (List Nat)) : (waitF g).length = g.length := by unfold waitF; rw [wait_len]; simp
theorem mapK : Maps.Keyed Try.prog 3 := Maps.int_keyed Try.underlying3
theorem zeroI (w : World) : (zeroValue 3).run Try.prog w = .ok (.int .i64 0) w := by kernel_rfl
theorem wf_small (k : Nat) (hk : k ≤ 1048576) : (Lit.int .i64 (k : Int)).wf = true := by
  have e1 : IntKind.i64.min = -9223372036854775808 := by decide
  have e2 : IntKind.i64.max = 9223372036854775807 := by decide
  show (decide (IntKind.i64.min ≤ (k : Int)) && decide ((k : Int) ≤ IntKind.i64.max)) = true
  rw [e1, e2, Bool.and_eq_true]
  exact ⟨decide_eq_true (by omega), decide_eq_true (by omega)⟩
theorem key_ok (n : Nat) (hn : n ≤ 1048576) : ∀ k : Nat, k < n → ∃ l, keyOf Try.prog 3 (.int .i64 (k : Int)) = some l := fun k hk =>
  ⟨_, Maps.keyOf_int_mk Try.underlying3 (wf_small k (by omega))⟩
section
variable {w : World} {b : Nat} {W : List (Option Int)} (h : MapI w b W) (hl : W.length ≤ 1048576) {m : Nat} (hm : m < W.length)
include h hl hm
theorem map_look : (Instr.lookup 39 (.map (some b)) (.int .i64 (m : Int)) false).run Try.prog w = .ok (.int .i64 ((W.getD m none).getD 0)) w := by
  have := h.look mapK Try.underlying39 (zeroI w) (key_ok _ hl) hm false
  simpa using this
theorem map_ask : (Instr.lookup 39 (.map (some b)) (.int .i64 (m : Int)) true).run Try.prog w = .ok (.tuple #[.int .i64 ((W.getD m none).getD 0), .bool (W.getD m none).isSome]) w := by
  have := h.look mapK Try.underlying39 (zeroI w) (key_ok _ hl) hm true
  simpa using this
theorem map_put (v : Int) : ∃ w', (Instr.mapUpdate 39 (.map (some b)) (.int .i64 (m : Int)) (.int .i64 v)).run Try.prog w = .ok () w' ∧ MapI w' b (W.set m (some v)) ∧ w.grownBy w' (some b) :=
  h.put mapK Try.underlying39 (key_ok _ hl) hm v
theorem map_del (ty : TypeId) : ∃ w', (Builtin.delete_ #[39, 3] ty #[.map (some b), .int .i64 (m : Int)]).run Try.prog w = .ok (.tuple #[]) w' ∧ MapI w' b (W.set m none) ∧ w.grownBy w' (some b) :=
  h.del mapK Try.underlying39 (key_ok _ hl) hm ty
end
/-- The map behind k of n rounds. -/
def nulls (n k : Nat) : List (Option Int) := List.replicate k (some 0) ++ List.replicate (n - k) none
theorem nulls_len (n k : Nat) (h : k ≤ n) : (nulls n k).length = n := by simp [nulls]; omega
theorem nulls_next (n k : Nat) (h : k < n) : (nulls n k).set k (some 0) = nulls n (k + 1) := by
  unfold nulls
  rw [List.set_append_right _ _ (by simp), List.length_replicate, Nat.sub_self, show n - k = (n - (k + 1)) + 1 by omega, List.replicate_succ, List.set_cons_zero, List.replicate_succ', List.append_assoc]
  rfl
theorem wrap_add {v : Int} {B : Nat} (hv : -(B : Int) ≤ v ∧ v ≤ (B : Int)) (hB : B ≤ 4611686018427387904) : wrap64 (v + 1) = v + 1 ∧ wrap64 (v - 1) = v + -1 := ⟨wr_in _ (by omega), (wr_in _ (by omega)).trans (by omega)⟩
theorem small_B (i j k m : Nat) (h1 : i < k) (h2 : k ≤ 1048576) (h3 : j < m) (h4 : m ≤ 1048576) : i * 1048576 + j ≤ 4611686018427387904 := by
  omega
theorem next_B (i m : Nat) (h : m ≤ 1048576) : i * 1048576 + m ≤ (i + 1) * 1048576 := by
  rw [Nat.succ_mul]
  omega
set_option maxRecDepth 100000 in
set_option maxHeartbeats 8000000 in
theorem waiting_in (g : List (List Nat)) (n : Nat) (hg : Fits g) (hgn : g.length = n) (hn : n ≤ 1048576) (hls : ∀ k, (g.getD k []).length ≤ 1048576) (V : World) (gb : Nat) (hGr : Gr V gb n g) :
    Calls Try.prog 17 #[.slice (some ⟨gb, 0, none⟩) n n] V fun e W => e = .returned (.map (some V.heap.size)) ∧ MapI W V.heap.size (waitF g) ∧ Below V.heap.size V W := by
  have hmm := @run_makeMap Try.prog
  have hgr' := Lib.hid hGr
  have hg' := Lib.hid hg
  have hgn' := Lib.hid hgn
  have hn' := Lib.hid hn
  have hls' := Lib.hid hls
  have hm0 := MapI.made V n
  have hB0 : Below V.heap.size V (V.alloc (.map #[] 0)) := (Below.refl _ V).alloc (Nat.le_refl _) _
  have hm0' := Lib.hid hm0
  have hB0' := Lib.hid hB0
  clear hGr hg hgn hn hls hm0 hB0
  go_enter Try.func17, Try.ntmps17
  go_wp2_with fail
  go_loopw [4, 12] (fun _ iv wr => ∃ k : Nat, k ≤ n ∧ iv = .int .i64 (k : Int) ∧ Hid (Below V.heap.size V wr ∧ MapI wr V.heap.size (nulls n k))) (fun _ iv _ => n - (intOf iv).toNat)
  case atStart => exact ⟨0, Nat.zero_le _, rfl, Lib.hid ⟨hB0'.out, hm0'.out⟩⟩
  case round =>
    obtain ⟨k, hk, rfl, hK⟩ := hrel
    by_cases hlt : k < n
    · have a6 := Lib.hid (wr_succ k n hlt hn'.out)
      obtain ⟨w2, e1, hm2, hg2⟩ := map_put hK.out.2 (by rw [nulls_len n k (by omega)]; exact hn'.out) (m := k) (by rw [nulls_len n k (by omega)]; exact hlt) 0
      have hm2' := Lib.hid hm2
      have hg2' := Lib.hid hg2
      clear hm2 hg2
      go_wp2
      go_roundw
      case rel => exact ⟨k + 1, hlt, congrArg (Value.int .i64) a6.out, Lib.hid ⟨hK.out.1.grown hg2'.out hK.out.1.size (fun j e => by cases e; exact Nat.le_refl _), nulls_next n k hlt ▸ hm2'.out⟩⟩
      case measure => exact step_less k n hlt a6.out
    · obtain rfl : k = n := by omega
      clear hlt hk
      have hK2 : Hid (Below V.heap.size V wr ∧ MapI wr V.heap.size (List.replicate k (some 0))) := Lib.hid ⟨hK.out.1, by have := hK.out.2; unfold nulls at this; rwa [Nat.sub_self, List.replicate_zero, List.append_nil] at this⟩
      clear hK hm0' hB0'
      obtain ⟨F, hF⟩ : ∃ F : List (Option Int) → List Nat → List (Option Int), F = fun W l => l.foldl (addW 1) W := ⟨_, rfl⟩
      obtain ⟨W0, hW0⟩ : ∃ W0 : List (Option Int), W0 = List.replicate k (some 0) := ⟨_, rfl⟩
      have hw0 : W0.length = k ∧ AbsB W0 0 := by rw [hW0]; exact ⟨by simp, absB_zero k⟩
      have hend : Hid (waitF g = g.foldl F W0) := Lib.hid (by rw [hF, hW0]; unfold waitF; rw [hgn'.out])
      rw [← hW0] at hK2
      have hF' := Lib.hid hF
      have hw0' := Lib.hid hw0
      clear hF hW0 hw0
      go_wp2_with fail
      go_loopw [20] (fun iv wr => ∃ i : Nat, i ≤ k ∧ iv = .int .i64 (i : Int) ∧ Hid (Below V.heap.size V wr ∧ MapI wr V.heap.size ((g.take i).foldl F W0) ∧ ((g.take i).foldl F W0).length = k ∧ AbsB ((g.take i).foldl F W0) (i * 1048576))) (fun iv _ => k - (intOf iv).toNat)
      case atStart => exact ⟨0, Nat.zero_le _, rfl, Lib.hid ⟨hK2.out.1, hK2.out.2, hw0'.out.1, hw0'.out.2.mono (by omega)⟩⟩
      case round =>
        obtain ⟨i, hi, rfl, hI⟩ := hrel
        clear hK2
        by_cases hlt : i < k
        · obtain ⟨l, hl⟩ : ∃ l, g[i]? = some l := ⟨_, List.getElem?_eq_getElem (by rw [hgn'.out]; exact hlt)⟩
          have hll : g.getD i [] = l := by rw [List.getD_eq_getElem?_getD, hl]; rfl
          obtain ⟨p2, c2, d0, hr⟩ := hgr'.out.row hl
          obtain ⟨zz, hzz⟩ := plus_of_below hI.out.1
          have d0 := cell_at hzz d0
          have hlow : ∀ x ∈ l, x < k := fun x hx => by rw [← hgn'.out]; exact hg'.out i x (by rw [hll]; exact hx)
          have hle : l.length ≤ 1048576 := hll ▸ hls'.out i
          have hstep := Lib.hid (fold_take_succ F W0 g i l hl)
          obtain ⟨Wi, hWi⟩ : ∃ Wi, (g.take i).foldl F W0 = Wi := ⟨_, rfl⟩
          rw [hWi] at hI hstep
          obtain ⟨m, hm⟩ : ∃ m, l.length = m := ⟨_, rfl⟩
          rw [hm] at d0 hle
          have hm' := Lib.hid hm
          have hle' := Lib.hid hle
          have hr' := Lib.hid hr
          have hlow' := Lib.hid hlow
          have a6 := Lib.hid (wr_succ i k hlt hn'.out)
          clear hl hll hr hzz hlow hle hWi hm
          go_wp2_with fail
          clear d0
          go_loopw [26] (fun iv wr => ∃ j : Nat, j ≤ m ∧ iv = .int .i64 (j : Int) ∧ Hid (Below V.heap.size V wr ∧ MapI wr V.heap.size ((l.take j).foldl (addW 1) Wi) ∧ ((l.take j).foldl (addW 1) Wi).length = k ∧ AbsB ((l.take j).foldl (addW 1) Wi) (i * 1048576 + j))) (fun iv _ => m - (intOf iv).toNat)
          case atStart =>
            have h5 := hI.out
            exact ⟨0, Nat.zero_le _, rfl, Lib.hid ⟨h5.1, h5.2.1, h5.2.2.1, h5.2.2.2.mono (Nat.le_add_right _ _)⟩⟩
          case round =>
            obtain ⟨j, hj, rfl, hJ⟩ := hrel
            by_cases hlt2 : j < m
            · obtain ⟨x, hx⟩ : ∃ x, l[j]? = some x := ⟨l[j]'(by rw [hm'.out]; exact hlt2), List.getElem?_eq_getElem _⟩
              obtain ⟨pa, rfl, hc⟩ := hr'.out j x hx
              rw [Nat.mul_one] at hc
              obtain ⟨zz, hzz⟩ := plus_of_below hJ.out.1
              have d1 := (cells_up hzz hc).c0 _ rfl
              have b6 := Lib.hid (wr_succ j m hlt2 hle'.out)
              have hxl := hlow'.out x (List.mem_of_getElem? hx)
              have hst2 := Lib.hid (fold_take_succ (addW 1) Wi l j x hx)
              obtain ⟨Wj, hWj⟩ : ∃ Wj, (l.take j).foldl (addW 1) Wi = Wj := ⟨_, rfl⟩
              rw [hWj] at hJ hst2
              have q1 := map_look hJ.out.2.1 (by rw [hJ.out.2.2.1]; exact hn'.out) (m := x) (by rw [hJ.out.2.2.1]; exact hxl)
              have hv := hJ.out.2.2.2.get x
              have hw := (wrap_add hv (small_B i j k m hlt hn'.out hlt2 hle'.out)).1
              have hadd : addW 1 Wj x = Wj.set x (some (wrap64 ((Wj.getD x none).getD 0 + 1))) := by rw [hw]; rfl
              obtain ⟨v, hvv⟩ : ∃ v, (Wj.getD x none).getD 0 = v := ⟨_, rfl⟩
              rw [hvv] at q1 hadd
              obtain ⟨w2, e1, hm2, hg2⟩ := map_put hJ.out.2.1 (by rw [hJ.out.2.2.1]; exact hn'.out) (m := x) (by rw [hJ.out.2.2.1]; exact hxl) (wrap64 (v + 1))
              have hm2' := Lib.hid hm2
              have hg2' := Lib.hid hg2
              have hadd' := Lib.hid hadd
              clear hx hc hzz hxl hWj hv hw hadd hvv hm2 hg2
              go_wp2
              go_roundw
              case rel =>
                refine ⟨j + 1, hlt2, congrArg (Value.int .i64) b6.out, Lib.hid ⟨hJ.out.1.grown hg2'.out hJ.out.1.size (fun j e => by cases e; exact Nat.le_refl _), ?_⟩⟩
                rw [hst2.out]
                refine ⟨hadd'.out ▸ hm2'.out, by rw [addW_len]; exact hJ.out.2.2.1, ?_⟩
                rw [← Nat.add_assoc]
                exact hJ.out.2.2.2.add 1 (.inl rfl) x
              case measure => exact step_less j m hlt2 b6.out
            · obtain rfl : j = m := by omega
              clear hlt2 hj
              have hE : Hid (Below V.heap.size V wr ∧ MapI wr V.heap.size ((g.take (i + 1)).foldl F W0) ∧ ((g.take (i + 1)).foldl F W0).length = k ∧ AbsB ((g.take (i + 1)).foldl F W0) ((i + 1) * 1048576)) := Lib.hid (by
                have h5 := hJ.out
                rw [List.take_of_length_le (by rw [hm'.out]; exact Nat.le_refl _)] at h5
                have h6 : F Wi l = l.foldl (addW 1) Wi := by rw [hF'.out]
                rw [hstep.out, h6]
                exact ⟨h5.1, h5.2.1, h5.2.2.1, h5.2.2.2.mono (next_B i j hle'.out)⟩)
              clear hJ
              go_wp2
              go_roundw
              case rel => exact ⟨i + 1, hlt, congrArg (Value.int .i64) a6.out, hE⟩
              case measure => exact step_less i k hlt a6.out
        · obtain rfl : i = k := by omega
          clear hlt hi
          go_wp2
          go_ret
          refine ⟨rfl, ?_, hI.out.1⟩
          have := hI.out.2.1
          rw [List.take_of_length_le (by rw [hgn'.out]; exact Nat.le_refl _), ← hend.out] at this
          exact this
end Go.Proofs.Ytplkiadkkefppaa
