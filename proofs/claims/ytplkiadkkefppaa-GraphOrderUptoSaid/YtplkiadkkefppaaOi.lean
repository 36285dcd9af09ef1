/-
  WHAT IS PROVED HERE: what the landed reached, Reached and Cycle hand back, of any program.
-/
import Derived.Test.YtplkiadkkefppaaRows
import Derived.Test.YtplkiadkkefppaaOh
namespace Go.Proofs.Ytplkiadkkefppaa
open Go.RowKit
theorem bool_info : (Try.prog.info? 4).map (fun i => (i.zero, i.size, i.bytes)) = some (some (.bool false), 1, 1) := by kernel_rfl
theorem make_bools (n : Nat) (hn : n ≤ 1048576) (w : World) : (Instr.makeSlice 40 (.int .i64 (n : Int)) (.int .i64 (n : Int))).run Try.prog w = .ok (.slice (some ⟨w.heap.size, 0, none⟩) n n) (w.alloc (.cells (bitA (List.replicate n false)) 4)) := by
  obtain ⟨i0, hi0, hi1, hi2, hi3⟩ := info_parts bool_info
  have := run_make (P := Try.prog) w 40 4 i0 _ Try.underlying40 hi0 hi1 .i64 .i64 (n : Int) (n : Int) (by omega) (by omega) (by rw [hi3]; omega) (by omega)
  rw [hi2, Int.toNat_natCast, made_one _ _ rfl] at this
  rw [this]
  congr 3
  apply Array.ext'
  simp [bitA]
theorem rc_start (V : World) (gb n : Nat) (t1 t2 t3 : TypeId) :
    ∃ W, ((((V.alloc (.cells #[.slice (some ⟨gb, 0, none⟩) n n] t1)).alloc (.cells (bitA (List.replicate n false)) 4)).alloc (.cells #[.slice (some ⟨V.heap.size + 1, 0, none⟩) n n] t2)).alloc (.cells #[fvReach V.heap.size] t3)) = W ∧ RcI V V.heap.size gb n W (List.replicate n false) := by
  have s1 : (V.alloc (.cells #[.slice (some ⟨gb, 0, none⟩) n n] t1)).heap.size = V.heap.size + 1 := by simp
  have s2 : ((V.alloc (.cells #[.slice (some ⟨gb, 0, none⟩) n n] t1)).alloc (.cells (bitA (List.replicate n false)) 4)).heap.size = V.heap.size + 2 := by simp
  have s3 : (((V.alloc (.cells #[.slice (some ⟨gb, 0, none⟩) n n] t1)).alloc (.cells (bitA (List.replicate n false)) 4)).alloc (.cells #[.slice (some ⟨V.heap.size + 1, 0, none⟩) n n] t2)).heap.size = V.heap.size + 3 := by simp
  refine ⟨_, rfl, ((((Below.refl _ V).alloc (Nat.le_refl _) _).alloc (by omega) _).alloc (by omega) _).alloc (by omega) _, by simp, ?_, ?_, ?_, ?_, by simp⟩
  · exact cell_heap (by rw [Below.heap_alloc _ _ _ (by omega), Below.heap_alloc _ _ _ (by omega), Below.heap_alloc _ _ _ (by omega)]; exact heap_alloc_new V _) 0 _ rfl
  · rw [Below.heap_alloc _ _ _ (by omega), Below.heap_alloc _ _ _ (by omega), ← s1]; exact heap_alloc_new _ _
  · exact cell_heap (by rw [Below.heap_alloc _ _ _ (by omega), ← s2]; exact heap_alloc_new _ _) 0 _ rfl
  · exact cell_heap (by rw [← s3]; exact heap_alloc_new _ _) 0 _ rfl
/-- A value tells these bools. -/
def Bits (W : World) (v : Value) (S : List Bool) : Prop := ∃ p c, v = .slice p S.length c ∧ RowAt W 1 bitC p S
theorem bits_of {W : World} {rb : Nat} {S : List Bool} {t : TypeId} (h : W.heap[rb]? = some (.cells (bitA S) t (0, 0))) : RowAt W 1 bitC (some ⟨rb, 0, none⟩) S := fun i x hx => ⟨_, rfl, fun j u hu => by
  obtain ⟨rfl, rfl⟩ : j = 0 ∧ u = .bool x := by
    cases j with
    | zero => exact ⟨rfl, by simpa [bitC] using hu.symm⟩
    | succ j => simp [bitC] at hu
  rw [Nat.mul_one, Addr.add_lit, Addr.add_lit]
  exact cell_heap h _ _ (bitA_at S (0 + i + 0) x (by simpa using hx))⟩
set_option maxRecDepth 100000 in
set_option maxHeartbeats 8000000 in
theorem reached_in (g : List (List Nat)) (n : Nat) (hg : Fits g) (hgn : g.length = n) (hn : n ≤ 1048576) (hls : ∀ k, (g.getD k []).length ≤ 1048576) (V : World) (gb : Nat) (hGr : Gr V gb n g) (sp : Option Addr) (sc : Nat) (l : List Nat) (hrow : RowAt V 1 natC sp l) (hlow : ∀ x ∈ l, x < n) (hle : l.length ≤ 1048576) :
    Calls Try.prog 19 #[.slice (some ⟨gb, 0, none⟩) n n, .slice sp l.length sc] V fun e W => ∃ rb, e = .returned (.slice (some ⟨rb, 0, none⟩) n n) ∧ W.heap[rb]? = some (.cells (bitA (reachF g l)) 4 (0, 0)) ∧ Below V.heap.size V W := by
  have hmk := make_bools n hn
  have hmf : ∀ (fn : Fn) (first cap : Array Value) (w : World), (Instr.makeFunc fn first cap).run Try.prog w = .ok (.func fn first cap) w := fun _ _ _ _ => rfl
  have hR : reachF g l = l.foldl (dfs g n) (List.replicate n false) := by unfold reachF; rw [hgn]
  obtain ⟨b, hb⟩ : ∃ b, V.heap.size = b := ⟨_, rfl⟩
  have hcall := reach_in g n hg hgn hls V b gb hb hGr n
  have hfew : ∀ j, falses ((l.take j).foldl (dfs g n) (List.replicate n false)) ≤ n := fun j => by
    have := (fold_way (dfs_way (N := n) (fun k m hm => hgn ▸ hg k m hm) n) (l.take j) (List.replicate n false) (by simp) (fun x hx => hlow x (List.mem_of_mem_take hx)) (by rw [falses_replicate]; exact Nat.le_refl _)).1.fewer
    rw [falses_replicate] at this
    exact this
  obtain ⟨m, hm⟩ : ∃ m, l.length = m := ⟨_, rfl⟩
  rw [hm] at hle ⊢
  have hR' := Lib.hid hR
  have hb' := Lib.hid hb
  have hcall' := Lib.hid hcall
  have hfew' := Lib.hid hfew
  have hm' := Lib.hid hm
  have hle' := Lib.hid hle
  have hrow' := Lib.hid hrow
  have hlow' := Lib.hid hlow
  clear hg hgn hn hls hGr hrow hlow hle hR hb hcall hfew hm
  go_enter Try.func19, Try.ntmps19
  go_wp2_with fail
  simp only [Nat.add_assoc, Nat.reduceAdd]
  obtain ⟨W, hW, hI⟩ := rc_start V gb n 48 40 88
  rw [hW]
  rw [hb'.out] at hI ⊢
  have hI' := Lib.hid hI
  clear hW hI hmk hmf
  go_loopw [8, 15] (fun _ iv wr => ∃ j : Nat, j ≤ m ∧ iv = .int .i64 (j : Int) ∧ Hid (RcI V b gb n wr ((l.take j).foldl (dfs g n) (List.replicate n false)))) (fun _ iv _ => m - (intOf iv).toNat)
  case atStart => exact ⟨0, Nat.zero_le _, rfl, hI'⟩
  case round =>
    obtain ⟨j, hj, rfl, hK⟩ := hrel
    by_cases hlt : j < m
    · obtain ⟨x, hx⟩ : ∃ x, l[j]? = some x := ⟨l[j]'(by rw [hm'.out]; exact hlt), List.getElem?_eq_getElem _⟩
      obtain ⟨pa, rfl, hc⟩ := hrow'.out j x hx
      rw [Nat.mul_one] at hc
      obtain ⟨zz, hzz⟩ := plus_of_below (by rw [hb'.out]; exact hK.out.below : Below V.heap.size V wr)
      have d0 := (cells_up hzz hc).c0 _ rfl
      have d1 := hK.out.rbox
      have a6 := Lib.hid (wr_succ j m hlt hle'.out)
      have hstep := Lib.hid (fold_take_succ (dfs g n) (List.replicate n false) l j x hx)
      have hxl := Lib.hid (hlow'.out x (List.mem_of_getElem? hx))
      clear hx hc hzz
      go_wp2_with fail
      refine (hcall'.out _ x wr hK.out (hfew'.out j) hxl.out).mono ?_
      rintro e W' ⟨rfl, hL⟩
      have hL' := Lib.hid hL
      clear hL d0 d1
      go_wp2
      go_roundw
      case rel => exact ⟨j + 1, hlt, congrArg (Value.int .i64) a6.out, Lib.hid (by rw [hstep.out]; exact hL'.out)⟩
      case measure => exact step_less j m hlt a6.out
    · obtain rfl : j = m := by omega
      have g1 := hK.out.ibox
      clear hlt hj
      go_wp2
      go_ret
      refine ⟨b + 1, rfl, ?_, by rw [hb'.out]; exact hK.out.below⟩
      have := hK.out.row
      rw [List.take_of_length_le (by rw [hm'.out]; exact Nat.le_refl _), ← hR'.out] at this
      exact this
theorem edges_ls (sts : List Sa) (h : sts.length ≤ 1048576) (k : Nat) : ((edgesF sts).getD k []).length ≤ 1048576 := by
  rw [edges_getD]
  exact Nat.le_trans (next_goes sts k).le h
theorem reach_len {g : List (List Nat)} (hg : Fits g) {l : List Nat} (hl : ∀ x ∈ l, x < g.length) : (reachF g l).length = g.length := (reach_is hg hl).1
def cycN (g : List (List Nat)) : Int := match cycleF g with | some n => (n : Int) | none => 0
set_option maxRecDepth 100000 in
set_option maxHeartbeats 8000000 in
theorem cycle_call (p : Pr) (V : World) (hin : p.In V) (hz : p.sz ≤ 1048576) :
    Calls Try.prog 7 #[prV p] V fun e W => e = .returned (.tuple #[.int .i64 (cycN (edgesF p.states.l)), .bool (cycleF (edgesF p.states.l)).isSome]) ∧ Below V.heap.size V W := by
  have hlen := (pr_len hz).2.2.1
  have hE : ∀ W, (∃ z, W = plus V z) → Calls Try.prog 16 #[prV p] W fun e U => ∃ gb, e = .returned (.slice (some ⟨gb, 0, none⟩) p.states.l.length p.states.l.length) ∧ W.heap.size ≤ gb ∧ Gr U gb p.states.l.length (edgesF p.states.l) ∧ Below W.heap.size W U := fun W ⟨z, h⟩ => edges_in p W (h ▸ hin.plus z) hz
  obtain ⟨n, hn⟩ : ∃ n, p.states.l.length = n := ⟨_, rfl⟩
  have hls := edges_ls p.states.l hlen
  have hg := edges_fits p.states.l
  have hgn := (edges_len p.states.l).trans hn
  simp only [prV] at hE ⊢
  rw [hn] at hlen
  simp only [hn] at hE ⊢
  obtain ⟨g, hgg⟩ : ∃ g, edgesF p.states.l = g := ⟨_, rfl⟩
  simp only [hgg] at hE hls hg hgn ⊢
  have hE' := Lib.hid hE
  have hls' := Lib.hid hls
  have hg' := Lib.hid hg
  have hgn' := Lib.hid hgn
  have hlen' := Lib.hid hlen
  clear hin hz hE hls hg hgn hlen hgg
  go_enter Try.func7, Try.ntmps7
  go_wp2_with fail
  refine (hE'.out _ (alloc1_plus V _)).mono ?_
  rintro e U ⟨gb, rfl, hgb, hGr, hB⟩
  have hBV : Below V.heap.size V U := ((Below.refl _ V).alloc (Nat.le_refl _) _).trans (hB.mono (by simp))
  have hGr' := Lib.hid hGr
  have hBV' := Lib.hid hBV
  clear hE' hgb hGr hB hBV
  go_wp2_with fail
  go_loopw [5, 6, 11] (fun _ _ iv wr => ∃ k : Nat, k ≤ n ∧ iv = .int .i64 (k : Int) ∧ Hid (Below U.heap.size U wr ∧ ∀ i, i < k → (reachF g (g.getD i [])).getD i false = false)) (fun _ _ iv _ => n - (intOf iv).toNat)
  case atStart => exact ⟨0, Nat.zero_le _, rfl, Lib.hid ⟨Below.refl _ _, fun i hi => absurd hi (by omega)⟩⟩
  case round =>
    obtain ⟨k, hk, rfl, hK⟩ := hrel
    by_cases hlt : k < n
    · obtain ⟨l, hl⟩ : ∃ l, g[k]? = some l := ⟨_, List.getElem?_eq_getElem (by rw [hgn'.out]; exact hlt)⟩
      have hll : g.getD k [] = l := by rw [List.getD_eq_getElem?_getD, hl]; rfl
      have hGw := hGr'.out.up hK.out.1
      obtain ⟨p2, c2, d0, hr⟩ := hGw.row hl
      have hcall := reached_in g n hg'.out hgn'.out hlen'.out hls'.out wr gb hGw p2 c2 l hr (fun x hx => by rw [← hgn'.out]; exact hg'.out k x (by rw [hll]; exact hx)) (hll ▸ hls'.out k)
      have hrl : (reachF g l).length = n := (reach_len hg'.out (fun x hx => hg'.out k x (by rw [hll]; exact hx))).trans hgn'.out
      obtain ⟨Z, hZ⟩ : ∃ Z, (reachF g l)[k]? = some Z := ⟨_, List.getElem?_eq_getElem (by rw [hrl]; exact hlt)⟩
      obtain ⟨m, hm⟩ : ∃ m, l.length = m := ⟨_, rfl⟩
      rw [hm] at d0 hcall
      have hcall' := Lib.hid hcall
      have hZ' := Lib.hid hZ
      have hll' := Lib.hid hll
      have a6 := Lib.hid (wr_succ k n hlt hlen'.out)
      clear hl hll hGw hr hcall hrl hZ hm
      go_wp2_with fail
      refine hcall'.out.mono ?_
      rintro e W2 ⟨rb, rfl, hrb, hB2⟩
      have d1 := cell_heap hrb k _ (bitA_at _ k _ hZ'.out)
      have hB2' := Lib.hid hB2
      clear hrb hB2 d0 hcall'
      cases Z with
      | true =>
        have hF : cycleF g = some k := by
          unfold cycleF
          rw [hgn'.out, List.find?_range_eq_some]
          refine ⟨by rw [hll'.out]; exact getD_of hZ'.out, by simpa using hlt, fun j hj => by rw [hK.out.2 j hj]; rfl⟩
        have hF' := Lib.hid hF
        clear hF
        go_wp2
        go_ret2
        exact ⟨by rw [cycN, hF'.out]; rfl, hBV'.out.trans ((hK.out.1.trans (hB2'.out.mono hK.out.1.size)).mono hBV'.out.size)⟩
      | false =>
        go_wp2
        go_roundw
        case rel =>
          refine ⟨k + 1, hlt, congrArg (Value.int .i64) a6.out, Lib.hid ⟨hK.out.1.trans (hB2'.out.mono hK.out.1.size), fun i hi => ?_⟩⟩
          by_cases e : i = k
          · subst e; rw [hll'.out]; exact getD_of hZ'.out
          · exact hK.out.2 i (by omega)
        case measure => exact step_less k n hlt a6.out
    · obtain rfl : k = n := by omega
      have hF : cycleF g = none := by
        unfold cycleF
        rw [hgn'.out, List.find?_range_eq_none]
        intro i hi
        rw [hK.out.2 i hi]
        rfl
      have hF' := Lib.hid hF
      clear hF hlt hk
      go_wp2
      go_ret2
      exact ⟨by rw [cycN, hF'.out]; rfl, hBV'.out.trans (hK.out.1.mono hBV'.out.size)⟩
def reachedF (sts : List Sa) : List Bool := reachF (edgesF sts) [0]
theorem reached_none {sts : List Sa} (h : sts.length = 0) : reachedF sts = [] := by
  obtain rfl : sts = [] := List.length_eq_zero_iff.1 h
  rfl
set_option maxRecDepth 100000 in
set_option maxHeartbeats 8000000 in
theorem reached_call (p : Pr) (V : World) (hin : p.In V) (hz : p.sz ≤ 1048576) :
    Calls Try.prog 8 #[prV p] V fun e W => ∃ v, e = .returned v ∧ Bits W v (reachedF p.states.l) ∧ (reachedF p.states.l).length = p.states.l.length ∧ Below V.heap.size V W := by
  have hlen := (pr_len hz).2.2.1
  have hE : ∀ W, (∃ z, W = plus V z) → Calls Try.prog 16 #[prV p] W fun e U => ∃ gb, e = .returned (.slice (some ⟨gb, 0, none⟩) p.states.l.length p.states.l.length) ∧ W.heap.size ≤ gb ∧ Gr U gb p.states.l.length (edgesF p.states.l) ∧ Below W.heap.size W U := fun W ⟨z, h⟩ => edges_in p W (h ▸ hin.plus z) hz
  obtain ⟨n, hn⟩ : ∃ n, p.states.l.length = n := ⟨_, rfl⟩
  have hls := edges_ls p.states.l hlen
  have hg := edges_fits p.states.l
  have hgn := (edges_len p.states.l).trans hn
  have hno := fun h => reached_none (sts := p.states.l) (hn.trans h)
  simp only [prV] at hE ⊢
  rw [hn] at hlen
  simp only [hn] at hE ⊢
  unfold reachedF at hno ⊢
  obtain ⟨g, hgg⟩ : ∃ g, edgesF p.states.l = g := ⟨_, rfl⟩
  simp only [hgg] at hE hls hg hgn hno ⊢
  have hE' := Lib.hid hE
  have hls' := Lib.hid hls
  have hg' := Lib.hid hg
  have hgn' := Lib.hid hgn
  have hlen' := Lib.hid hlen
  clear hin hz hE hls hg hgn hlen hgg hn
  by_cases q : n = 0
  · have e := Lib.hid (hno q)
    subst q
    clear hno hE'
    go_enter Try.func8, Try.ntmps8
    go_wp2
    go_ret
    exact ⟨_, rfl, ⟨none, 0, by rw [e.out]; rfl, by rw [e.out]; intro i x hx; simp at hx⟩, by rw [e.out]; rfl, (Below.refl _ V).alloc (Nat.le_refl _) _⟩
  · have q1 : ((n : Int) == 0) = false := by rw [beq_eq_false_iff_ne]; omega
    have q2 : ¬ ((n : Int) = 0) := by omega
    have q' := Lib.hid q
    clear hno q
    go_enter Try.func8, Try.ntmps8
    go_wp2_with fail
    refine (hE'.out _ (alloc1_plus V _)).mono ?_
    rintro e U ⟨gb, rfl, hgb, hGr, hB⟩
    have hBV : Below V.heap.size V U := ((Below.refl _ V).alloc (Nat.le_refl _) _).trans (hB.mono (by simp))
    have hGr' := Lib.hid hGr
    have hBV' := Lib.hid hBV
    clear hE' hgb hGr hB hBV q1 q2
    go_wp2_with fail
    have hBx : Below U.heap.size U (U.alloc (.cells #[.int .i64 0] 3)) := (Below.refl _ U).alloc (Nat.le_refl _) _
    refine (reached_in g n hg'.out hgn'.out hlen'.out hls'.out _ gb (hGr'.out.up hBx) (some ⟨U.heap.size, 0, none⟩) 1 [0] (fun i x hx => ⟨_, rfl, fun j u hu => ?_⟩) (fun x hx => by simp at hx; have := q'.out; omega) (by simp)).mono ?_
    · obtain ⟨rfl, rfl⟩ : i = 0 ∧ x = 0 := by
        cases i with
        | zero => exact ⟨rfl, by simpa using hx.symm⟩
        | succ i => simp at hx
      rw [Nat.zero_mul, Addr.add_lit, Addr.add_lit]
      exact cell_heap (heap_alloc_new U _) _ _ (by simpa [natC] using hu)
    · rintro e W2 ⟨rb, rfl, hrb, hB2⟩
      have hrl : (reachF g [0]).length = n := (reach_len hg'.out (fun x hx => by simp at hx; have := q'.out; have := hgn'.out; omega)).trans hgn'.out
      have hrb' := Lib.hid hrb
      have hB2' := Lib.hid hB2
      have hrl' := Lib.hid hrl
      clear hrb hB2 hrl
      go_wp2
      go_ret
      refine ⟨_, rfl, ⟨_, n, (by rw [hrl'.out]; rfl), bits_of hrb'.out⟩, hrl'.out, hBV'.out.trans ((hBx.trans (hB2'.out.mono (by simp))).mono hBV'.out.size)⟩
end Go.Proofs.Ytplkiadkkefppaa
