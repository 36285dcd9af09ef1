/-
  WHAT IS PROVED HERE: GraphOrder's own walk where there is an order.
-/
import Derived.Test.YtplkiadkkefppaaRows
import Derived.Test.YtplkiadkkefppaaOo
namespace Go.Proofs.Ytplkiadkkefppaa
open Go.RowKit
/-- What is known of the order, all in all. -/
structure OrdK (g : List (List Nat)) (n : Nat) (o : List Nat) (R : List Bool) : Prop where
  ord : IsOrd g o
  fits : Fits g
  gn : g.length = n
  rlen : R.length = n
  first : 0 < n → R[0]? = some true
  shut : ∀ k, OnB R k → ∀ m ∈ g.getD k [], OnB R m
theorem ordK_of (sts : List Sa) {o : List Nat} (ho : orderF (edgesF sts) = some o) (hr : (reachedF sts).length = sts.length) : OrdK (edgesF sts) sts.length o (reachedF sts) := by
  have h := order_is (edges_fits sts)
  rw [ho] at h
  by_cases hn : 0 < sts.length
  · obtain ⟨_, h2, h3⟩ := reach_is (edges_fits sts) (l := [0]) (fun x hx => by simp at hx; rw [edges_len]; omega)
    exact ⟨h, edges_fits sts, edges_len sts, hr, fun _ => h2 0 (by simp), h3⟩
  · have e : sts.length = 0 := by omega
    refine ⟨h, edges_fits sts, edges_len sts, hr, fun h0 => absurd h0 hn, fun k hk => ?_⟩
    have := on_lt hk
    rw [hr] at this
    omega
theorem getD_at {o : List Nat} {i x : Nat} (h : o[i]? = some x) : o.getD i 0 = x := by rw [List.getD_eq_getElem?_getD, h]; rfl
set_option maxRecDepth 100000 in
set_option maxHeartbeats 16000000 in
theorem order_main (p : Pr) (V : World) (hin : p.In V) (hz : p.sz ≤ 1048576) (hg : greatP p = false) (o : List Nat) (ho : orderF (edgesF p.states.l) = some o) : Calls Try.prog 3 #[prV p] V fun e W => e = .returned (.bool true) ∧ Below V.heap.size V W := by
  have q := law_great p V hin hz
  rw [hg] at q
  have hlen := (pr_len hz).2.2.1
  have hO : ∀ W, (∃ z, W = plus V z) → Calls Try.prog 6 #[prV p] W fun e U => (∃ v, e = .returned (.tuple #[v, .int .i64 0]) ∧ Nats U W.heap.size v o) ∧ Below W.heap.size W U := fun W ⟨z, h⟩ => by
    have h1 := order_call p W (h ▸ hin.plus z) hz
    rw [ho] at h1
    exact h1
  have hR : ∀ W, (∃ z, W = plus V z) → Calls Try.prog 8 #[prV p] W fun e U => ∃ v, e = .returned v ∧ Bits U v (reachedF p.states.l) ∧ (reachedF p.states.l).length = p.states.l.length ∧ Below W.heap.size W U := fun W ⟨z, h⟩ => reached_call p W (h ▸ hin.plus z) hz
  have hN : ∀ W, (∃ z, W = plus V z) → ∀ k, k < p.states.l.length → Calls Try.prog 9 #[prV p, .int .i64 (k : Int)] W fun e U => ∃ v, e = .returned v ∧ Nats U W.heap.size v ((edgesF p.states.l).getD k []) ∧ Below W.heap.size W U := fun W ⟨z, h⟩ k hk => by
    rw [edges_getD]
    exact next_in p W (h ▸ hin.plus z) hz k hk
  have hK := fun hr => ordK_of p.states.l ho hr
  have hls := edges_ls p.states.l hlen
  obtain ⟨n, hn⟩ : ∃ n, p.states.l.length = n := ⟨_, rfl⟩
  simp only [prV, hn] at q hO hR hN hK hlen ⊢
  obtain ⟨g, hgg⟩ : ∃ g, edgesF p.states.l = g := ⟨_, rfl⟩
  simp only [hgg] at hN hK hls
  obtain ⟨R, hRR⟩ : ∃ R, reachedF p.states.l = R := ⟨_, rfl⟩
  simp only [hRR] at hR hK
  have hord : IsOrd g o := by
    have h := order_is (edges_fits p.states.l)
    rw [ho, hgg] at h
    exact h
  have hgn : g.length = n := by rw [← hgg, edges_len, hn]
  obtain ⟨b, hb⟩ : ∃ b, V.heap.size = b := ⟨_, rfl⟩
  have q' := Lib.hid q
  have hO' := Lib.hid hO
  have hR' := Lib.hid hR
  have hN' := Lib.hid hN
  have hK' := Lib.hid hK
  have hb' := Lib.hid hb
  have hlen' := Lib.hid hlen
  have hls' := Lib.hid hls
  have hord' := Lib.hid hord
  have hgn' := Lib.hid hgn
  have hon : o.length = n := hord.len.trans hgn
  have hon' := Lib.hid hon
  clear hin hz hg ho q hn hO hR hN hK hgg hRR hlen hls hb hord hgn
  go_enter Try.func3, Try.ntmps3
  go_wp2_with fail
  obtain ⟨W, hW, hI⟩ := law_start V p n
  rw [hW]
  rw [hb'.out] at hI ⊢
  obtain ⟨zz, hzz⟩ := later hI hb'.out
  have q2 := q'.out zz
  rw [← hzz] at q2
  refine q2.mono ?_
  rintro e U ⟨rfl, x, hU⟩
  have hI2 : LawI V b p n U := hI.up (by rw [hU]; exact below_plus _ _)
  have c0 := hI2.cells 0 _ rfl
  have c1 := hI2.cells 1 _ rfl
  have c2 := hI2.cells 2 _ rfl
  have c3 := hI2.cells 3 _ rfl
  have c4 := hI2.cells 4 _ rfl
  have c5 := hI2.cells 5 _ rfl
  have c6 := hI2.cells 6 _ rfl
  have hI2' := Lib.hid hI2
  clear hW hI hzz q2 q' hU hI2 hon
  go_wp2_with fail
  refine (hO'.out U (later hI2'.out hb'.out)).mono ?_
  rintro e U2 ⟨⟨v, rfl, hv⟩, hB2⟩
  obtain ⟨lp, lc, rfl, hrow⟩ := nats_row hv
  rw [hon'.out]
  have hI3 := hI2'.out.up hB2
  clear c0 c1 c2 c3 c4 c5 c6 hO'
  have c2 : U2.cell? ⟨b, 2, none⟩ = some (.slice p.states.p n p.states.cap) := hI3.cells 2 _ rfl
  have hmm := @run_makeMap Try.prog
  have hI3' := Lib.hid hI3
  have hrow' := Lib.hid hrow
  clear hI3 hB2 hI2' hv hrow
  go_wp2_with fail
  obtain ⟨mb, hmb⟩ : ∃ mb, U2.heap.size = mb := ⟨_, rfl⟩
  have hM0 := MapI.made U2 n
  have hB0 : Below U2.heap.size U2 (U2.alloc (.map #[] 0)) := (Below.refl _ U2).alloc (Nat.le_refl _) _
  rw [hmb] at hM0 ⊢
  have hM0' := Lib.hid hM0
  have hB0' := Lib.hid hB0
  have hmb' := Lib.hid hmb
  clear hM0 hB0 c2 hmm hmb
  go_loopw [8, 9, 47] (fun _ _ iv wr => ∃ i : Nat, i ≤ n ∧ iv = .int .i64 (i : Int) ∧ Hid (Below mb U2 wr ∧ MapI wr mb (atW o n i))) (fun _ _ iv _ => n - (intOf iv).toNat)
  case atStart => exact ⟨0, Nat.zero_le _, rfl, Lib.hid ⟨hmb'.out ▸ hB0'.out, hM0'.out⟩⟩
  case round =>
    clear hM0' hB0'
    obtain ⟨i, hi, rfl, hJ⟩ := hrel
    by_cases hlt : i < n
    · obtain ⟨x, hx⟩ : ∃ x, o[i]? = some x := ⟨_, List.getElem?_eq_getElem (by rw [hon'.out]; exact hlt)⟩
      obtain ⟨pa, rfl, hc⟩ := hrow'.out i x hx
      rw [Nat.mul_one] at hc
      have hJI : LawI V b p n wr := ⟨hI3'.out.below.trans (hJ.out.1.mono (by have := hI3'.out.lt; have := hmb'.out; omega)), (hJ.out.1.block b (by have := hI3'.out.lt; have := hmb'.out; omega)).trans hI3'.out.box⟩
      obtain ⟨zz, hzz⟩ := plus_of_below (by rw [hmb'.out]; exact hJ.out.1 : Below U2.heap.size U2 wr)
      have d0 := (cells_up hzz hc).c0 _ rfl
      have c2 : wr.cell? ⟨b, 2, none⟩ = some (.slice p.states.p n p.states.cap) := hJI.cells 2 _ rfl
      have hxn : x < n := by rw [← hgn'.out]; exact hord'.out.low x (List.mem_of_getElem? hx)
      have hnone : (atW o n i).getD x none = none := atW_none o n x i fun j hj e => by
        have := nodup_at hord'.out.nodup (j := j) (k := i) (by rw [hon'.out]; omega) (by rw [hon'.out]; exact hlt) (e.trans (getD_at hx).symm)
        omega
      have q1 := map_look hJ.out.2 (by rw [atW_len]; exact hlen'.out) (m := x) (by rw [atW_len]; exact hxn)
      rw [hnone] at q1
      simp only [Option.getD_none] at q1
      have a6 := Lib.hid (wr_succ i n hlt hlen'.out)
      obtain ⟨w2, e1, hm2, hg2⟩ := map_put hJ.out.2 (by rw [atW_len]; exact hlen'.out) (m := x) (by rw [atW_len]; exact hxn) (wrap64 ((i : Int) + 1))
      have hnext : Hid ((atW o n i).set x (some (wrap64 ((i : Int) + 1))) = atW o n (i + 1)) := Lib.hid (by rw [atW, getD_at hx, a6.out]; rfl)
      have hm2' := Lib.hid hm2
      have hg2' := Lib.hid hg2
      have hx0 : ¬ ((x : Int) < 0) := by omega
      have hx1 : ¬ ((n : Int) ≤ (x : Int)) := by omega
      clear hx hc hJI hzz hnone hm2 hg2
      go_wp2
      go_roundw
      case rel => exact ⟨i + 1, hlt, congrArg (Value.int .i64) a6.out, Lib.hid ⟨hJ.out.1.grown hg2'.out (by have := hJ.out.2.lt; omega) (fun j e => by cases e; exact Nat.le_refl _), hnext.out ▸ hm2'.out⟩⟩
      case measure => exact step_less i n hlt a6.out
    · obtain rfl : n = i := by omega
      have hJI : LawI V b p n wr := ⟨hI3'.out.below.trans (hJ.out.1.mono (by have := hI3'.out.lt; have := hmb'.out; omega)), (hJ.out.1.block b (by have := hI3'.out.lt; have := hmb'.out; omega)).trans hI3'.out.box⟩
      have c0 := hJI.cells 0 _ rfl
      have c1 := hJI.cells 1 _ rfl
      have c2 := hJI.cells 2 _ rfl
      have c3 := hJI.cells 3 _ rfl
      have c4 := hJI.cells 4 _ rfl
      have c5 := hJI.cells 5 _ rfl
      have c6 := hJI.cells 6 _ rfl
      have hJI' := Lib.hid hJI
      have hM' := Lib.hid hJ.out.2
      clear hlt hi hJI hJ hrow' hI3'
      go_wp2_with fail
      refine (hR'.out wr (later hJI'.out hb'.out)).mono ?_
      rintro e U3 ⟨v3, rfl, ⟨rp, rc, rfl, hrr⟩, hrl, hB3⟩
      have hI4 := hJI'.out.up hB3
      have hM4 := hM'.out.up hB3
      have hK4 := Lib.hid (hK'.out hrl)
      clear c0 c1 c2 c3 c4 c5 c6 hR' hJI' hM' hK'
      have c2 : U3.cell? ⟨b, 2, none⟩ = some (.slice p.states.p n p.states.cap) := hI4.cells 2 _ rfl
      rw [hrl]
      have hrr' := Lib.hid hrr
      have hI4' := Lib.hid hI4
      have hM4' := Lib.hid hM4
      clear hrl hB3 hrr hI4 hM4
      go_wp2_with fail
      clear c2
      go_loopw [11, 83] (fun _ iv wr => ∃ s : Nat, s ≤ n ∧ iv = .int .i64 (s : Int) ∧ Hid (Below U3.heap.size U3 wr)) (fun _ iv _ => n - (intOf iv).toNat)
      case atStart => exact ⟨0, Nat.zero_le _, rfl, Lib.hid (Below.refl _ _)⟩
      case round =>
        obtain ⟨s, hs, rfl, hS⟩ := hrel
        by_cases hlt : s < n
        · have a6 := Lib.hid (wr_succ s n hlt hlen'.out)
          have hI5 := hI4'.out.up hS.out
          have c0 := hI5.cells 0 _ rfl
          have c1 := hI5.cells 1 _ rfl
          have c2 := hI5.cells 2 _ rfl
          have c3 := hI5.cells 3 _ rfl
          have c4 := hI5.cells 4 _ rfl
          have c5 := hI5.cells 5 _ rfl
          have c6 := hI5.cells 6 _ rfl
          have hq := Lib.hid (hN'.out wr (later hI5 hb'.out) s hlt)
          clear hI5
          go_wp2_with fail
          refine hq.out.mono ?_
          rintro e U5 ⟨v5, rfl, hv5, hB5⟩
          clear c0 c1 c2 c3 c4 c5 c6 hq
          obtain ⟨l, hl⟩ : ∃ l, g.getD s [] = l := ⟨_, rfl⟩
          rw [hl] at hv5
          have hl' := Lib.hid hl
          obtain ⟨np, nc, rfl, hnr⟩ := nats_row hv5
          have hle : l.length ≤ 1048576 := hl ▸ hls'.out s
          obtain ⟨t, ht⟩ : ∃ t, l.length = t := ⟨_, rfl⟩
          rw [ht] at hle ⊢
          have ht' := Lib.hid ht
          have hle' := Lib.hid hle
          have hnr' := Lib.hid hnr
          have hS5 := Lib.hid (hS.out.trans (hB5.mono hS.out.size))
          have hI6 := hI4'.out.up hS5.out
          have c2 : U5.cell? ⟨b, 2, none⟩ = some (.slice p.states.p n p.states.cap) := hI6.cells 2 _ rfl
          have hM6 := hM4'.out.up hS5.out
          have hM6' := Lib.hid hM6
          obtain ⟨zz, hzz⟩ := plus_of_below hS5.out
          have hrr5 : RowAt U5 1 bitC rp R := by rw [hzz]; exact hrr'.out.plus zz
          obtain ⟨Rs, hRs⟩ : ∃ x, R[s]? = some x := ⟨_, List.getElem?_eq_getElem (by rw [hK4.out.rlen]; exact hlt)⟩
          obtain ⟨ra, rfl, hrc⟩ := hrr5 s Rs hRs
          rw [Nat.mul_one] at hrc
          have d1 := hrc.c0 _ rfl
          have hrr5' := Lib.hid hrr5
          have hRs' := Lib.hid hRs
          clear hl ht hle hnr hI6 hM6 hzz hv5 hB5 hS hrr5 hRs hrc
          go_wp2_with fail
          go_loopw [13, 90] (fun _ iv wr => ∃ j : Nat, j ≤ t ∧ iv = .int .i64 (j : Int) ∧ wr = U5) (fun _ iv _ => t - (intOf iv).toNat)
          case atStart => exact ⟨0, Nat.zero_le _, rfl, rfl⟩
          case round =>
            obtain ⟨j, hj, rfl, rfl⟩ := hrel
            by_cases hlt2 : j < t
            · obtain ⟨x, hx⟩ : ∃ x, l[j]? = some x := ⟨l[j]'(by rw [ht'.out]; exact hlt2), List.getElem?_eq_getElem _⟩
              obtain ⟨pa, rfl, hc⟩ := hnr'.out j x hx
              rw [Nat.mul_one] at hc
              have d0 := hc.c0 _ rfl
              have hxl : x ∈ g.getD s [] := by rw [hl'.out]; exact List.mem_of_getElem? hx
              have hxn : x < n := by rw [← hK4.out.gn]; exact hK4.out.fits s x hxl
              obtain ⟨a, c, hac, ha, hcc⟩ := at_less hK4.out.ord (s := s) (k := x) (by rw [hK4.out.gn]; exact hlt) hxl (by rw [hK4.out.gn]; exact hxn)
              rw [hK4.out.gn] at ha hcc
              have q1 := map_look hM6'.out (by rw [atW_len]; exact hlen'.out) (m := x) (by rw [atW_len]; exact hxn)
              have q2 := map_look hM6'.out (by rw [atW_len]; exact hlen'.out) (m := s) (by rw [atW_len]; exact hlt)
              rw [hcc] at q1
              rw [ha] at q2
              simp only [Option.getD_some] at q1 q2
              have hle0 : ¬ ((c : Int) + 1 ≤ (a : Int) + 1) := by omega
              obtain ⟨C, hC⟩ : ∃ C : Int, (c : Int) + 1 = C := ⟨_, rfl⟩
              obtain ⟨A, hA⟩ : ∃ A : Int, (a : Int) + 1 = A := ⟨_, rfl⟩
              rw [hC] at q1 hle0
              rw [hA] at q2 hle0
              obtain ⟨Rx, hRx⟩ : ∃ y, R[x]? = some y := ⟨_, List.getElem?_eq_getElem (by rw [hK4.out.rlen]; exact hxn)⟩
              obtain ⟨rb, hrb, hrd⟩ := hrr5'.out x Rx hRx
              obtain rfl : ra = rb := by simpa using hrb
              rw [Nat.mul_one] at hrd
              have d2 := hrd.c0 _ rfl
              have himp : Rs = true → Rx = true := fun e => by
                have h5 := hK4.out.shut s (by show R[s]? = some true; rw [hRs'.out, e]) x hxl
                have h6 : R[x]? = some true := h5
                rw [hRx] at h6
                exact Option.some.inj h6
              have b6 := Lib.hid (wr_succ j t hlt2 hle'.out)
              have hx0 : ¬ ((x : Int) < 0) := by omega
              have hx1 : ¬ ((n : Int) ≤ (x : Int)) := by omega
              have himp' := Lib.hid himp
              clear hx hc hxl hac ha hcc hC hA hRx hrb hrd himp
              cases Rs with
              | true =>
                obtain rfl := himp'.out rfl
                go_wp2
                go_roundw
                case rel => exact ⟨j + 1, hlt2, congrArg (Value.int .i64) b6.out, by trivial⟩
                case measure => exact step_less j t hlt2 b6.out
              | false =>
                go_wp2
                go_roundw
                case rel => exact ⟨j + 1, hlt2, congrArg (Value.int .i64) b6.out, by trivial⟩
                case measure => exact step_less j t hlt2 b6.out
            · obtain rfl : t = j := by omega
              clear hlt2 hj d1
              go_wp2
              go_roundw
              case rel => exact ⟨s + 1, hlt, congrArg (Value.int .i64) a6.out, hS5⟩
              case measure => exact step_less s n hlt a6.out
        · obtain rfl : n = s := by omega
          have hI5' := Lib.hid (hI4'.out.up hS.out)
          by_cases hn0 : n = 0
          · subst hn0
            clear hlt hs
            go_wp2_with fail
            refine (law_known9 wr).mono ?_
            rintro e X ⟨rfl, hB⟩
            have hB' := Lib.hid (hI5'.out.up hB).below
            clear hB
            go_wp2
            go_ret
            exact ⟨rfl, by rw [hb'.out]; exact hB'.out⟩
          · obtain ⟨zz, hzz⟩ := plus_of_below hS.out
            have h0 := hK4.out.first (by omega)
            have hrr5 : RowAt wr 1 bitC rp R := by rw [hzz]; exact hrr'.out.plus zz
            obtain ⟨ra, rfl, hrc⟩ := hrr5 0 true h0
            have d1 : wr.cell? ra = some (.bool true) := hrc.c0 _ rfl
            have hn1 : ((n : Int) == 0) = false := by rw [beq_eq_false_iff_ne]; omega
            have hn2 : ¬ ((n : Int) = 0) := by omega
            have hn3 : (0 : Int) < (n : Int) := by omega
            have hn4 : 0 < n := by omega
            clear hlt hs hzz h0 hrr5 hrc hn0
            go_wp2_with fail
            refine (law_known9 wr).mono ?_
            rintro e X ⟨rfl, hB⟩
            have hB' := Lib.hid (hI5'.out.up hB).below
            clear hB
            go_wp2
            go_ret
            exact ⟨rfl, by rw [hb'.out]; exact hB'.out⟩
end Go.Proofs.Ytplkiadkkefppaa
