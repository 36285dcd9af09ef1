/-
  WHAT IS PROVED HERE: what the landed Order hands back, of any program: orderF, in memory of its own.
-/
import Derived.Test.YtplkiadkkefppaaRows
import Derived.Test.YtplkiadkkefppaaOk
namespace Go.Proofs.Ytplkiadkkefppaa
open Go.RowKit
/-- While Order goes on. -/
structure OrW (U : World) (mb base : Nat) (wr : World) (v : Value) (W : List (Option Int)) (l : List Nat) : Prop where
  below : Below mb U wr
  mp : MapI wr mb W
  own : Nats wr base v l
  size : base ≤ wr.heap.size
theorem OrW.turn {U : World} {mb base : Nat} {w w' : World} {v : Value} {W W' : List (Option Int)} {l : List Nat} (h : OrW U mb base w v W l) (hmb : mb < base) (hg : w.grownBy w' (some mb)) (hm : MapI w' mb W') : OrW U mb base w' v W' l :=
  ⟨h.below.grown hg (by have := h.size; omega) (fun k e => by cases e; exact Nat.le_refl _), hm, h.own.kept hg (.inr (not_own h.own hmb)), Nat.le_trans h.size hg.size⟩
theorem OrW.more {U : World} {mb base : Nat} {w w' : World} {v v' : Value} {W : List (Option Int)} {l l' : List Nat} {o : Obj} (h : OrW U mb base w v W l) (hmb : mb < base) (hg : (w.alloc o).grownBy w' v.ownBlock) (hn : Nats w' base v' l') : OrW U mb base w' v' W l' := by
  have hs := h.size
  have hne : some mb ≠ v.ownBlock := (not_own h.own hmb).symm
  refine ⟨(h.below.alloc (by omega) o).grown hg (by simp; omega) (fun k e => by have := (h.own.lt k e).1; omega), (h.mp.kept (World.grownBy_alloc w o none) (by simp)).kept hg hne, hn, ?_⟩
  have := hg.size
  simp at this
  omega
theorem small_B2 (n k j m : Nat) (h1 : k < n) (h2 : n ≤ 1048576) (h3 : j < m) (h4 : m ≤ 1048576) : (n + k) * 1048576 + j ≤ 4611686018427387904 := by omega
theorem next_B2 (n k m : Nat) (h : m ≤ 1048576) : (n + k) * 1048576 + m ≤ (n + (k + 1)) * 1048576 := by omega
theorem ord_none {g : List (List Nat)} {f : Nat} {W : List (Option Int)} {l : List Nat} {R : Option (List Nat)} (h : ordF g (f + 1) W l = R) (hf : freeF W = none) : R = none := by
  rw [← h]; unfold ordF; rw [hf]
theorem ord_some {g : List (List Nat)} {f m : Nat} {W : List (Option Int)} {l : List Nat} {R : Option (List Nat)} (h : ordF g (f + 1) W l = R) (hf : freeF W = some m) : ordF g f (stepF g W m) (l ++ [m]) = R := by
  rw [← h]; conv => rhs; unfold ordF; rw [hf]
theorem free_lt {W : List (Option Int)} {m : Nat} (h : freeF W = some m) : m < W.length := by
  unfold freeF at h
  simpa using List.mem_of_find?_eq_some h
/-- What Order hands back. -/
def OrdRes (V W : World) (R : Option (List Nat)) (e : Ending) : Prop := match R with
  | some o => ∃ v, e = .returned (.tuple #[v, .int .i64 0]) ∧ Nats W V.heap.size v o
  | none => e = .returned (.tuple #[.slice none 0 0, .int .i64 11])
set_option maxRecDepth 100000 in
set_option maxHeartbeats 8000000 in
theorem order_call (p : Pr) (V : World) (hin : p.In V) (hz : p.sz ≤ 1048576) :
    Calls Try.prog 6 #[prV p] V fun e W => OrdRes V W (orderF (edgesF p.states.l)) e ∧ Below V.heap.size V W := by
  have hlen := (pr_len hz).2.2.1
  have hE : ∀ W, (∃ z, W = plus V z) → Calls Try.prog 16 #[prV p] W fun e U => ∃ gb, e = .returned (.slice (some ⟨gb, 0, none⟩) p.states.l.length p.states.l.length) ∧ W.heap.size ≤ gb ∧ Gr U gb p.states.l.length (edgesF p.states.l) ∧ Below W.heap.size W U := fun W ⟨z, h⟩ => edges_in p W (h ▸ hin.plus z) hz
  obtain ⟨n, hn⟩ : ∃ n, p.states.l.length = n := ⟨_, rfl⟩
  have hls := edges_ls p.states.l hlen
  have hg := edges_fits p.states.l
  have hgn := (edges_len p.states.l).trans hn
  simp only [prV] at hE ⊢
  rw [hn] at hlen
  simp only [hn] at hE ⊢
  obtain ⟨g, hgg⟩ : ∃ g, edgesF p.states.l = g := ⟨_, rfl⟩
  simp only [hgg] at hE hls hg hgn ⊢
  obtain ⟨R, hR⟩ : ∃ R, orderF g = R := ⟨_, rfl⟩
  rw [hR]
  have hE' := Lib.hid hE
  have hls' := Lib.hid hls
  have hg' := Lib.hid hg
  have hgn' := Lib.hid hgn
  have hlen' := Lib.hid hlen
  have hR' := Lib.hid hR
  clear hin hz hE hls hg hgn hlen hgg hR hn
  go_enter Try.func6, Try.ntmps6
  go_wp2_with fail
  refine (hE'.out _ (alloc1_plus V _)).mono ?_
  rintro e U ⟨gb, rfl, hgb, hGr, hB⟩
  have hBV : Below V.heap.size V U := ((Below.refl _ V).alloc (Nat.le_refl _) _).trans (hB.mono (by simp))
  have hGr' := Lib.hid hGr
  have hBV' := Lib.hid hBV
  clear hE' hgb hGr hB hBV
  go_wp2_with fail
  refine (waiting_in g n hg'.out hgn'.out hlen'.out hls'.out U gb hGr'.out).mono ?_
  rintro e U2 ⟨rfl, hM, hB2⟩
  obtain ⟨mb, hmb⟩ : ∃ mb, U.heap.size = mb := ⟨_, rfl⟩
  obtain ⟨base, hbase⟩ : ∃ base, U2.heap.size = base := ⟨_, rfl⟩
  have hlt0 : mb < base := by rw [← hmb, ← hbase]; exact hM.lt
  have hO : OrW U mb base U2 (.slice none 0 0) (waitF g) [] := ⟨hmb ▸ hB2, hmb ▸ hM, World.ownsRow_nil _ _ _ _, by rw [hbase]; exact Nat.le_refl _⟩
  rw [hmb]
  have hmb' := Lib.hid hmb
  have hlt0' := Lib.hid hlt0
  have hO' := Lib.hid hO
  have hbV : Hid (V.heap.size ≤ base) := Lib.hid (by rw [← hbase]; exact Nat.le_trans hBV'.out.size hB2.size)
  have hab : Hid (AbsB (waitF g) ((n + 0) * 1048576) ∧ (waitF g).length = n) := Lib.hid ⟨by
    have := waitF_abs (g := g) (fun l hl => by
      obtain ⟨k, hk, rfl⟩ := List.mem_iff_getElem.1 hl
      have := hls'.out k
      rwa [List.getD_eq_getElem?_getD, List.getElem?_eq_getElem hk] at this)
    rw [hgn'.out] at this
    exact this, by rw [waitF_len, hgn'.out]⟩
  have h0 : Hid (ordF g (n - 0) (waitF g) [] = R) := Lib.hid (by rw [← hR'.out]; unfold orderF; rw [hgn'.out]; rfl)
  clear hM hB2 hmb hbase hlt0 hO hR'
  go_wp2_with fail
  go_loopw [6, 17] (fun ov iv wr => ∃ k : Nat, k ≤ n ∧ iv = .int .i64 (k : Int) ∧ ∃ W l, Hid (OrW U mb base wr ov W l ∧ ordF g (n - k) W l = R ∧ W.length = n ∧ AbsB W ((n + k) * 1048576) ∧ l.length = k)) (fun _ iv _ => n - (intOf iv).toNat)
  case atStart => exact ⟨0, Nat.zero_le _, rfl, _, _, Lib.hid ⟨hO'.out, h0.out, hab.out.2, hab.out.1, rfl⟩⟩
  case round =>
    clear hO' hab h0
    obtain ⟨k, hk, rfl, W, l, hK⟩ := hrel
    by_cases hlt : k < n
    · have a6 := Lib.hid (wr_succ k n hlt hlen'.out)
      have hfr := free_in W n hK.out.2.2.1 hlen'.out wr mb hK.out.1.mp
      have hsucc : n - k = (n - (k + 1)) + 1 := by omega
      have hord := hK.out.2.1
      rw [hsucc] at hord
      cases hF : freeF W with
      | none =>
        have hRn := Lib.hid (ord_none hord hF)
        rw [freeN, hF] at hfr
        simp only [Option.isSome_none] at hfr
        have hfr' := Lib.hid hfr
        clear hfr hsucc hord hF
        go_wp2_with fail
        refine hfr'.out.mono ?_
        rintro e w' ⟨rfl, rfl⟩
        go_wp2
        go_ret2
        refine ⟨by rw [hRn.out]; rfl, hBV'.out.trans (hK.out.1.below.mono (by rw [← hmb'.out]; exact hBV'.out.size))⟩
      | some m =>
        have hnext := Lib.hid (ord_some hord hF)
        have hmn : m < n := by have := free_lt hF; rwa [hK.out.2.2.1] at this
        rw [freeN, hF] at hfr
        simp only [Option.isSome_some] at hfr
        obtain ⟨w2, q1, hm2, hg2⟩ := map_del hK.out.1.mp (by rw [hK.out.2.2.1]; exact hlen'.out) (m := m) (by rw [hK.out.2.2.1]; exact hmn) 0
        have hO2 := Lib.hid (hK.out.1.turn hlt0'.out hg2 hm2)
        have hab2 := Lib.hid (hK.out.2.2.2.1.gone m)
        have hlen2 : Hid ((W.set m none).length = n) := Lib.hid (by rw [List.length_set]; exact hK.out.2.2.1)
        have hll2 : Hid (l.length = k) := Lib.hid hK.out.2.2.2.2
        obtain ⟨ls, hls⟩ : ∃ ls, g[m]? = some ls := ⟨_, List.getElem?_eq_getElem (by rw [hgn'.out]; exact hmn)⟩
        have hgd : g.getD m [] = ls := by rw [List.getD_eq_getElem?_getD, hls]; rfl
        obtain ⟨p2, c2, d0, hr⟩ := hGr'.out.row hls
        obtain ⟨zz, hzz⟩ := plus_of_below (by rw [hmb'.out]; exact hO2.out.below : Below U.heap.size U w2)
        have d0 := cell_at hzz d0
        have hstep : Hid (stepF g W m = ls.foldl (addW (-1)) (W.set m none)) := Lib.hid (by unfold stepF; rw [hgd])
        have hlow : Hid (∀ x ∈ ls, x < n) := Lib.hid fun x hx => by rw [← hgn'.out]; exact hg'.out m x (by rw [hgd]; exact hx)
        have hle : ls.length ≤ 1048576 := hgd ▸ hls'.out m
        obtain ⟨t, ht⟩ : ∃ t, ls.length = t := ⟨_, rfl⟩
        rw [ht] at d0 hle
        have ht' := Lib.hid ht
        have hle' := Lib.hid hle
        have hr' := Lib.hid hr
        have hfr' := Lib.hid hfr
        obtain ⟨W1, hW1⟩ : ∃ W1, W.set m none = W1 := ⟨_, rfl⟩
        rw [hW1] at hO2 hab2 hlen2 hstep
        clear hfr hsucc hord hF hm2 hg2 hls hgd hr hzz hle ht hK hW1
        go_wp2_with fail
        refine hfr'.out.mono ?_
        rintro e w' ⟨rfl, rfl⟩
        go_wp2_with fail
        clear d0
        go_loopw [35] (fun iv wr => ∃ j : Nat, j ≤ t ∧ iv = .int .i64 (j : Int) ∧ Hid (OrW U mb base wr u6 ((ls.take j).foldl (addW (-1)) W1) l ∧ ((ls.take j).foldl (addW (-1)) W1).length = n ∧ AbsB ((ls.take j).foldl (addW (-1)) W1) ((n + k) * 1048576 + j))) (fun iv _ => t - (intOf iv).toNat)
        case atStart => exact ⟨0, Nat.zero_le _, rfl, Lib.hid ⟨hO2.out, hlen2.out, hab2.out.mono (Nat.le_add_right _ _)⟩⟩
        case round =>
          clear hO2 hab2 hlen2
          obtain ⟨j, hj, rfl, hJ⟩ := hrel
          by_cases hlt2 : j < t
          · obtain ⟨x, hx⟩ : ∃ x, ls[j]? = some x := ⟨ls[j]'(by rw [ht'.out]; exact hlt2), List.getElem?_eq_getElem _⟩
            obtain ⟨pa, rfl, hc⟩ := hr'.out j x hx
            rw [Nat.mul_one] at hc
            obtain ⟨zz, hzz⟩ := plus_of_below (by rw [hmb'.out]; exact hJ.out.1.below : Below U.heap.size U wr)
            have d1 := (cells_up hzz hc).c0 _ rfl
            have b6 := Lib.hid (wr_succ j t hlt2 hle'.out)
            have hxl := hlow.out x (List.mem_of_getElem? hx)
            have hst2 := Lib.hid (fold_take_succ (addW (-1)) W1 ls j x hx)
            obtain ⟨Wj, hWj⟩ : ∃ Wj, (ls.take j).foldl (addW (-1)) W1 = Wj := ⟨_, rfl⟩
            rw [hWj] at hJ hst2
            have q2 := map_look hJ.out.1.mp (by rw [hJ.out.2.1]; exact hlen'.out) (m := x) (by rw [hJ.out.2.1]; exact hxl)
            have hw := (wrap_add (hJ.out.2.2.get x) (small_B2 n k j t hlt hlen'.out hlt2 hle'.out)).2
            have hadd : addW (-1) Wj x = Wj.set x (some (wrap64 ((Wj.getD x none).getD 0 - 1))) := by rw [hw]; rfl
            obtain ⟨v, hvv⟩ : ∃ v, (Wj.getD x none).getD 0 = v := ⟨_, rfl⟩
            rw [hvv] at q2 hadd
            obtain ⟨w3, e1, hm3, hg3⟩ := map_put hJ.out.1.mp (by rw [hJ.out.2.1]; exact hlen'.out) (m := x) (by rw [hJ.out.2.1]; exact hxl) (wrap64 (v - 1))
            have hO3 := Lib.hid (hJ.out.1.turn hlt0'.out hg3 hm3)
            have hadd' := Lib.hid hadd
            clear hx hc hzz hxl hWj hw hadd hvv hm3 hg3
            go_wp2
            go_roundw
            case rel =>
              refine ⟨j + 1, hlt2, congrArg (Value.int .i64) b6.out, Lib.hid ?_⟩
              rw [hst2.out]
              refine ⟨hadd'.out ▸ hO3.out, by rw [addW_len]; exact hJ.out.2.1, ?_⟩
              rw [← Nat.add_assoc]
              exact hJ.out.2.2.add (-1) (.inr rfl) x
            case measure => exact step_less j t hlt2 b6.out
          · obtain rfl : j = t := by omega
            clear hlt2 hj
            have hE : Hid (OrW U mb base wr u6 (stepF g W m) l ∧ (stepF g W m).length = n ∧ AbsB (stepF g W m) ((n + (k + 1)) * 1048576)) := Lib.hid (by
              have h5 := hJ.out
              rw [List.take_of_length_le (by rw [ht'.out]; exact Nat.le_refl _), ← hstep.out] at h5
              exact ⟨h5.1, h5.2.1, h5.2.2.mono (next_B2 n k j hle'.out)⟩)
            clear hJ hr' hlow hstep
            go_wp2_with (first | (at_builtin; refine nats_one _ l.length rfl hE.out.1.own hE.out.1.size m _ rfl rfl _ _ rfl rfl rfl (by rw [hll2.out]; exact Nat.le_trans (Nat.le_of_lt hlt) hlen'.out) ?_; intro v' w4 h2 h3; have hO4 := Lib.hid (hE.out.1.more hlt0'.out h3 h2); clear h2 h3))
            go_roundw
            case rel => exact ⟨k + 1, hlt, congrArg (Value.int .i64) a6.out, _, _, Lib.hid ⟨hO4.out, hnext.out, hE.out.2.1, hE.out.2.2, by rw [List.length_append, hll2.out]; rfl⟩⟩
            case measure => exact step_less k n hlt a6.out
    · obtain rfl : k = n := by omega
      have hR2 : Hid (some l = R) := Lib.hid (by have := hK.out.2.1; rw [Nat.sub_self] at this; exact this)
      clear hlt hk
      go_wp2
      go_ret2
      refine ⟨?_, hBV'.out.trans (hK.out.1.below.mono (by rw [← hmb'.out]; exact hBV'.out.size))⟩
      rw [← hR2.out]
      exact ⟨_, rfl, own_mono hK.out.1.own hbV.out⟩
end Go.Proofs.Ytplkiadkkefppaa
