/-
  WHAT IS PROVED HERE: the law BddMeans, walked: it hands back true, whatever the calls.
-/
import Derived.Test.YtfphilgdikanfaaBdV
namespace Go.Proofs.Ytfphilgdikanfaa
open Go.RowKit
def BdTrue (w : World) (e : Ending) (w' : World) : Prop := e = .returned (.bool true) ∧ ∃ x, w' = plus w x
set_option maxRecDepth 100000 in
set_option maxHeartbeats 8000000 in
theorem means_many (w : World) (p : Option Addr) (n c : Nat) (hn : 30 < n) : Calls Try.prog 3 #[.slice p n c] w (BdTrue w) := by
  have hN : Calls Try.prog 5 #[.int .i64 1048576] w (NewEnds w 1048576) := st_New w 1048576 (by omega) (by omega)
  have hN' := Lib.hid hN
  have hK := Lib.hid law_known15
  have qb : decide ((30 : Int) < (n : Int)) = true := decide_eq_true (by omega)
  clear hN hn
  go_enter Try.func3, Try.ntmps3
  go_wp2_with fail
  refine hN'.out.mono ?_
  rintro e w1 ⟨bs, L, rfl, hS, hB, hbs, hL⟩
  have hB' := Lib.hid hB
  clear hS hB hbs hL hN'
  go_wp2_with fail
  refine (hK.out _).mono ?_
  rintro r w' ⟨rfl, x, rfl⟩
  go_wp2
  go_ret
  exact ⟨rfl, plus_of_below (hB'.out.trans ((below_plus w1 x).mono hB'.out.size))⟩
set_option maxRecDepth 100000 in
set_option maxHeartbeats 8000000 in
theorem means_walk (w : World) (p : Option Addr) (l : List BOp) (c : Nat) (hl : OpsAt w p l) (hn : l.length ≤ 30) : Calls Try.prog 3 #[.slice p l.length c] w (BdTrue w) := by
  have hN : Calls Try.prog 5 #[.int .i64 1048576] w (NewEnds w 1048576) := st_New w 1048576 (by omega) (by omega)
  have hN' := Lib.hid hN
  have hK := Lib.hid law_known15
  obtain ⟨n, hln⟩ : ∃ n, l.length = n := ⟨_, rfl⟩
  rw [hln] at hn ⊢
  have qb : decide ((30 : Int) < (n : Int)) = false := decide_eq_false (by omega)
  have hl' := Lib.hid hl
  have hln' := Lib.hid hln
  clear hN hl hln
  go_enter Try.func3, Try.ntmps3
  go_wp2_with fail
  refine hN'.out.mono ?_
  rintro e w1 ⟨bs, L, rfl, hS, hB, hbs, hL⟩
  have hM : Hid (MnI w w1 bs L bd0 (.slice none 0 0) [] ∧ BdJ 1048576 l 0 bd0 []) := Lib.hid ⟨⟨hB, hS, hL, hbs, World.ownsRow_nil _ _ _ _⟩, bdJ_start _ l⟩
  clear hS hB hbs hL hN'
  go_wp2_with fail
  go_loopw [5, 7, 39] (fun v _ iv wr => ∃ k : Nat, k ≤ n ∧ iv = .int .i64 (k : Int) ∧ ∃ L R all, Hid (MnI w wr bs L R v all ∧ BdJ 1048576 l k R all)) (fun _ _ iv _ => n - (intOf iv).toNat)
  case atStart => exact ⟨0, Nat.zero_le _, rfl, _, _, _, hM⟩
  case round =>
    obtain ⟨k, hk, rfl, L, R, all, hI⟩ := hrel
    clear hM
    by_cases hlt : k < n
    · obtain ⟨o, ho⟩ : ∃ o, l[k]? = some o := ⟨_, List.getElem?_eq_getElem (by rw [hln'.out]; exact hlt)⟩
      have hlw : OpsAt wr p l := hl'.out.below hI.out.1.below rfl
      obtain ⟨pa, rfl, hc⟩ := hlw k o ho
      have d0 := hc 0 _ rfl
      have d1 : wr.cell? ⟨(pa.add (k * 5)).block, (pa.add (k * 5)).off + 1, none⟩ = _ := hc 1 _ rfl
      have d2 : wr.cell? ⟨(pa.add (k * 5)).block, (pa.add (k * 5)).off + 2, none⟩ = _ := hc 2 _ rfl
      have d3 : wr.cell? ⟨(pa.add (k * 5)).block, (pa.add (k * 5)).off + 3, none⟩ = _ := hc 3 _ rfl
      have d4 : wr.cell? ⟨(pa.add (k * 5)).block, (pa.add (k * 5)).off + 4, none⟩ = _ := hc 4 _ rfl
      rw [bd_add_zero] at d0
      obtain ⟨R', m, hdo, hJ⟩ := bdJ_step hI.out.2 ho (by omega)
      obtain ⟨p2, c2, rfl⟩ := bd_own_slice hI.out.1.own
      obtain ⟨ok, oa, ob, oc, oon⟩ := o
      simp only at d0 d1 d2 d3 d4
      obtain ⟨X, hX, hXB, hXh, hXs⟩ := bd_box wr #[.int .i64 ok, .int .i64 oa, .int .i64 ob, .int .i64 oc, .bool oon] 30
      have hIX := hI.out.1.grow hXB
      have hD := does_walk hIX.st p2 all c2 hIX.nums (by have := hI.out.2.len; omega) hI.out.2.lt ⟨ok, oa, ob, oc, oon⟩ hdo (by have := hI.out.2.size; omega) hI.out.2.low
      have hlen := hI.out.2.len
      rw [hlen] at hD
      have hD' := Lib.hid hD
      have hX' := Lib.hid hX
      have hIX' := Lib.hid hIX
      have hJ' := Lib.hid hJ
      have hlen' := Lib.hid hlen
      rw [hlen]
      have x0 := bd_cell hXh 0 _ rfl
      have x1 := bd_cell hXh 1 _ rfl
      have x2 := bd_cell hXh 2 _ rfl
      have x3 := bd_cell hXh 3 _ rfl
      have x4 := bd_cell hXh 4 _ rfl
      clear hX hXB hXh hXs hIX hD hJ hlen hlw hc ho hdo hI
      go_wp2_with fail
      rw [hX'.out]
      refine hD'.out.mono ?_
      rintro e w2 ⟨L2, hG, hS, rfl⟩
      simp only [Option.getD_some, Option.isNone_some] at hS ⊢
      have hI2 := hIX'.out.go hG hS
      rw [hlen'.out] at hI2
      have hI2' := Lib.hid hI2
      have hown : Hid (w2.ownsRow w.heap.size 3 1 (.slice p2 k c2) k (all.map numV)) := Lib.hid (by have := hI2.own; rwa [hlen'.out] at this)
      have hbase : Hid (w.heap.size ≤ w2.heap.size) := Lib.hid hI2.below.size
      have hsz : Hid (k ≤ 1048576) := Lib.hid (by omega)
      have a6 := Lib.hid (show k + 1 ≤ n from hlt)
      clear hG hS hI2 hD' hX' hIX' x0 x1 x2 x3 x4 d0 d1 d2 d3 d4 hK
      go_wp2_with (at_builtin; go_loud (refine bd_push bd_int_info Try.underlying28 rfl (by decide) (.slice p2 k c2) hown.out hbase.out _ rfl hsz.out _ _ rfl rfl rfl ?_; intro v' w3 h2 h3; have hI3 := Lib.hid (hI2'.out.push h3 (by rw [hlen'.out]; exact h2)); obtain ⟨p3, c3, rfl⟩ := bd_own_slice h2; clear h2 h3))
      go_roundw
      case rel => exact ⟨k + 1, a6.out, by go_num, L2, R', all ++ [m], Lib.hid ⟨hI3.out, hJ'.out⟩⟩
      case measure => have := a6.out; simp [intOf]; omega
    · obtain rfl : k = n := by omega
      have hlenA := hI.out.2.len
      obtain ⟨p2, c2, rfl⟩ := bd_own_slice hI.out.1.own
      rw [hlenA]
      have hlen' := Lib.hid hlenA
      have hI1 : Hid (MnI w wr bs L R (.slice p2 k c2) all) := Lib.hid (by have := hI.out.1; rwa [hlenA] at this)
      have hJ : Hid (BdJ 1048576 l l.length R all) := Lib.hid (by rw [hln'.out]; exact hI.out.2)
      have hmk := bd_make_u64 k (by omega)
      have hm6 := bd_make_six
      have hW0 := MwI.start hI1.out (List.replicate k (Value.int .u64 0)).toArray
      rw [← meansA_0 l k] at hW0
      obtain ⟨mb, hmb⟩ : ∃ mb, wr.heap.size = mb := ⟨_, rfl⟩
      rw [hmb] at hW0
      have hmb' := Lib.hid hmb
      have hW0' := Lib.hid hW0
      rw [← meansA_0 l k] at hmk
      clear hlt hk hI hlenA hI1 hmb hW0
      go_wp2_with fail
      rw [hmb'.out]
      go_loopw [9, 54] (fun _ tv wq => ∃ t : Nat, t ≤ 64 ∧ tv = .int .u8 (t : Int) ∧ Hid (MwI w wq bs L R (.slice p2 k c2) all mb (meansA l 0 t k))) (fun _ tv _ => 64 - (intOf tv).toNat)
      case atStart => exact ⟨0, Nat.zero_le _, rfl, hW0'⟩
      case round =>
        obtain ⟨t, ht, rfl, hW⟩ := hrel
        clear hW0' hmk
        by_cases hlt : t < 64
        · obtain ⟨V, rfl⟩ : ∃ V, V = wr := ⟨_, rfl⟩
          obtain ⟨lb, hlb⟩ : ∃ lb, V.heap.size = lb := ⟨_, rfl⟩
          have hl3 : Hid (Below V.heap.size V (V.alloc (.cells #[.bool false, .bool false, .bool false, .bool false, .bool false, .bool false] 4)) ∧ (V.alloc (.cells #[.bool false, .bool false, .bool false, .bool false, .bool false, .bool false] 4)).heap[lb]? = some (.cells (bits6 t 0) 4 (0, 0))) := Lib.hid ⟨(Below.refl _ _).alloc (Nat.le_refl _) _, by rw [← hlb, heap_alloc_new]; simp [bits6]⟩
          have hlb' := Lib.hid hlb
          clear hlb
          go_wp2_with fail
          rw [hlb'.out]
          go_loopw [11, 60] (fun _ iv wq => ∃ j : Nat, j ≤ 6 ∧ iv = .int .i64 (j : Int) ∧ Hid (Below V.heap.size V wq ∧ wq.heap[lb]? = some (.cells (bits6 t j) 4 (0, 0)))) (fun _ iv _ => 6 - (intOf iv).toNat)
          case atStart => exact ⟨0, Nat.zero_le _, rfl, hl3⟩
          case round =>
            obtain ⟨j, hj, rfl, hQ⟩ := hrel
            clear hl3
            by_cases hlj : j < 6
            · obtain ⟨u, hu⟩ := bits6_at t j hlj
              have d0 := bd_cell hQ.out.2 j u hu
              have fz := bd_free hQ.out.2
              have hbit := Lib.hid (bit_of t j hlt hlj)
              have hlbv : Hid (∀ x, Below V.heap.size V (wr.setCell ⟨lb, j, none⟩ x)) := Lib.hid (fun x => hQ.out.1.setCell (Nat.le_of_eq hlb'.out) x)
              clear hu
              go_wp2
              go_roundw
              case rel => exact ⟨j + 1, hlj, by go_num, Lib.hid ⟨hlbv.out _, by rw [hbit.out]; have := heap_setCell_same _ lb j _ _ (.bool (t.testBit j)) hQ.out.2; rwa [bits6_set t j hlj] at this⟩⟩
              case measure => simp [intOf]; omega
            · obtain rfl : j = 6 := by omega
              have hW1 := hW.out.grow hQ.out.1
              have hbits := six_bits_of hQ.out.2
              have hU := under_walk wr p l c (hl'.out.below hW1.mn.below rfl) (by rw [hln'.out]; exact hn) t hlt
              rw [hln'.out] at hU
              have hW1' := Lib.hid hW1
              have hbits' := Lib.hid hbits
              have hU' := Lib.hid hU
              clear hlj hj hQ hW hW1 hbits hU
              go_wp2_with fail
              refine hU'.out.mono ?_
              rintro e w5 ⟨q, d, rfl, hq, x, rfl⟩
              have hF : Hid (MwI w (plus wr x) bs L R (.slice p2 k c2) all mb (meansA l 0 t k) ∧ BdBits (plus wr x) (some ⟨lb, 0, none⟩) (six t) ∧ BdBits (plus wr x) q (underF (fun v => t.testBit v) l)) := Lib.hid ⟨hW1'.out.grow (below_plus wr x), hbits'.out.plus x, hq⟩
              clear hq hW1' hbits' hU'
              go_wp2_with fail
              go_loopw [12, 13, 76] (fun _ _ iv wq => ∃ i : Nat, i ≤ k ∧ iv = .int .i64 (i : Int) ∧ Hid (MwI w wq bs L R (.slice p2 k c2) all mb (meansA l i t k) ∧ BdBits wq (some ⟨lb, 0, none⟩) (six t) ∧ BdBits wq q (underF (fun v => t.testBit v) l))) (fun _ _ iv _ => k - (intOf iv).toNat)
              case atStart => exact ⟨0, Nat.zero_le _, rfl, hF⟩
              case round =>
                obtain ⟨i, hi, rfl, hG⟩ := hrel
                clear hF
                by_cases hli : i < k
                · obtain ⟨xi, hxi⟩ : ∃ xi, all[i]? = some xi := ⟨_, List.getElem?_eq_getElem (by rw [hlen'.out]; exact hli)⟩
                  have hB0 : (underF (fun v => t.testBit v) l)[i]? = some (meanB l i t) := by
                    unfold meanB
                    rw [List.getD_eq_getElem?_getD, List.getElem?_eq_getElem (by rw [underF_len, hln'.out]; exact hli)]
                    rfl
                  obtain ⟨pq, rfl, hcq⟩ := hG.out.2.2 i _ hB0
                  have hmn := hG.out.1.mn
                  rw [← hlen'.out] at hmn
                  obtain ⟨pn, rfl, hcn⟩ := hmn.nums i xi hxi
                  have hHo : BdPure Try.prog wr 9 #[.pointer (some ⟨bs, 0, none⟩), .int .i64 (xi : Int), .slice (some ⟨lb, 0, none⟩) 6 6] _ := st_Holds hmn.st (xi : Int) (some ⟨lb, 0, none⟩) (six t) 6 hG.out.2.1 (by simp [six])
                  rw [bdKnown_of (hJ.out.lt xi (List.mem_of_getElem? hxi)), mean_holds hJ.out hxi t (six t) (six_F t)] at hHo
                  have dm := fun y => bd_cell (bd_heap_plus wr y hG.out.1.arr) i _ (meansA_at l i t k i hli)
                  have fz := fun y => bd_free (bd_heap_plus wr y hG.out.1.arr)
                  obtain ⟨B, hB⟩ : ∃ B, meanB l i t = B := ⟨_, rfl⟩
                  rw [hB] at hcq hHo
                  have hB' := Lib.hid hB
                  have hHo' := Lib.hid hHo
                  clear hB0 hmn hHo hxi hB
                  rw [if_neg (Nat.lt_irrefl i)] at dm
                  have hG1 := fun y => hG.out.1.grow (below_plus wr y)
                  have hG2 := fun y => hG.out.2.1.plus y
                  have hG3 := fun y => hG.out.2.2.plus y
                  have hGG := Lib.hid (And.intro hG1 (And.intro hG2 hG3))
                  clear hG1 hG2 hG3 hG
                  cases B with
                  | true =>
                    go_wp2_with fail
                    rw [← plus_self wr]
                    refine (hHo'.out _).mono ?_
                    rintro r w' ⟨rfl, y, rfl⟩
                    have hor := mask_or (maskN (meanB l i) t) t (maskN_lt _ t) hlt
                    have hset := (hGG.out.1 y).set i (.int .u64 ((maskN (meanB l i) t + 2 ^ t : Nat) : Int))
                    rw [meansA_set l i t k hB'.out] at hset
                    have hend : Hid (MwI w ((plus wr y).setCell ⟨mb, i, none⟩ (.int .u64 (bits BinOp.or IntKind.u64 ((maskN (meanB l i) t : Nat) : Int) (IntKind.u64.wrap (2 ^ t))))) bs L R (.slice (some pn) k c2) all mb (meansA l (i + 1) t k) ∧ BdBits ((plus wr y).setCell ⟨mb, i, none⟩ (.int .u64 (bits BinOp.or IntKind.u64 ((maskN (meanB l i) t : Nat) : Int) (IntKind.u64.wrap (2 ^ t))))) (some ⟨lb, 0, none⟩) (six t) ∧ BdBits ((plus wr y).setCell ⟨mb, i, none⟩ (.int .u64 (bits BinOp.or IntKind.u64 ((maskN (meanB l i) t : Nat) : Int) (IntKind.u64.wrap (2 ^ t))))) (some pq) (underF (fun v => t.testBit v) l)) := Lib.hid (by
                      rw [hor]
                      exact ⟨hset, (hGG.out.2.1 y).set (hGG.out.1 y).arr (meansA_int l i t k) i _, (hGG.out.2.2 y).set (hGG.out.1 y).arr (meansA_int l i t k) i _⟩)
                    clear hor hset
                    go_wp2
                    go_roundw
                    case rel => exact ⟨i + 1, hli, by go_num, hend⟩
                    case measure => simp [intOf]; omega
                  | false =>
                    go_wp2_with fail
                    rw [← plus_self wr]
                    refine (hHo'.out _).mono ?_
                    rintro r w' ⟨rfl, y, rfl⟩
                    have hend : Hid (MwI w (plus wr y) bs L R (.slice (some pn) k c2) all mb (meansA l (i + 1) t k) ∧ BdBits (plus wr y) (some ⟨lb, 0, none⟩) (six t) ∧ BdBits (plus wr y) (some pq) (underF (fun v => t.testBit v) l)) := Lib.hid (by
                      rw [← meansA_skip l i t k hB'.out]
                      exact ⟨hGG.out.1 y, hGG.out.2.1 y, hGG.out.2.2 y⟩)
                    go_wp2
                    go_roundw
                    case rel => exact ⟨i + 1, hli, by go_num, hend⟩
                    case measure => simp [intOf]; omega
                · obtain rfl : i = k := by omega
                  have hGW : Hid (MwI w wr bs L R (.slice p2 i c2) all mb (meansA l 0 (t + 1) i)) := Lib.hid (by rw [← meansA_next]; exact hG.out.1)
                  clear hG hli hi
                  go_wp2
                  go_roundw
                  case rel => exact ⟨t + 1, hlt, by go_num, hGW⟩
                  case measure => simp [intOf]; omega
        · obtain rfl : t = 64 := by omega
          obtain ⟨V, rfl⟩ : ∃ V, V = wr := ⟨_, rfl⟩
          clear hlt ht hm6
          go_wp2_with fail
          go_loopw [14, 103] (fun _ iv wq => ∃ i : Nat, i ≤ k ∧ iv = .int .i64 (i : Int) ∧ ∃ y, wq = plus V y) (fun _ iv _ => k - (intOf iv).toNat)
          case atStart => exact ⟨0, Nat.zero_le _, rfl, ⟨#[], V.drawn⟩, (plus_self V).symm⟩
          case round =>
            obtain ⟨i, hi, rfl, y, rfl⟩ := hrel
            by_cases hli : i < k
            · go_wp2_with fail
              go_loopw [15, 108] (fun _ iv wq => ∃ j : Nat, j ≤ k ∧ iv = .int .i64 (j : Int) ∧ ∃ y, wq = plus V y) (fun _ iv _ => k - (intOf iv).toNat)
              case atStart => exact ⟨0, Nat.zero_le _, rfl, y, rfl⟩
              case round =>
                obtain ⟨j, hj, rfl, y2, rfl⟩ := hrel
                by_cases hlj : j < k
                · obtain ⟨xi, hxi⟩ : ∃ xi, all[i]? = some xi := ⟨_, List.getElem?_eq_getElem (by rw [hlen'.out]; exact hli)⟩
                  obtain ⟨xj, hxj⟩ : ∃ xj, all[j]? = some xj := ⟨_, List.getElem?_eq_getElem (by rw [hlen'.out]; exact hlj)⟩
                  have hsame := mean_same hJ.out hxi hxj
                  have hmn := hW.out.mn
                  rw [← hlen'.out] at hmn
                  have hnums := fun y => hmn.nums.plus y
                  obtain ⟨pn, rfl, -⟩ := hmn.nums i xi hxi
                  have c1 : ∀ y, (plus V y).cell? (pn.add i) = some (.int .i64 (xi : Int)) := fun y => by
                    obtain ⟨pa, e, h⟩ := hnums y i xi hxi
                    cases e; exact h
                  have c2 : ∀ y, (plus V y).cell? (pn.add j) = some (.int .i64 (xj : Int)) := fun y => by
                    obtain ⟨pa, e, h⟩ := hnums y j xj hxj
                    cases e; exact h
                  have m1 := fun y => bd_cell (bd_heap_plus V y hW.out.arr) i _ (meansA_at l 0 64 k i hli)
                  have m2 := fun y => bd_cell (bd_heap_plus V y hW.out.arr) j _ (meansA_at l 0 64 k j hlj)
                  rw [if_neg (by omega)] at m1 m2
                  generalize maskN (meanB l i) 64 = Mi at hsame m1
                  generalize maskN (meanB l j) 64 = Mj at hsame m2
                  clear hmn hnums hxi hxj
                  by_cases q : xi = xj
                  · have e1 : ((xi : Int) == (xj : Int)) = true := by simp [q]
                    have e2 : ((Mi : Int) == (Mj : Int)) = true := by simp [hsame.1 q]
                    clear hsame q
                    go_wp2_with fail
                    refine wp_region_own (by kernel_rfl) (by kernel_rfl) ?_
                    try simp only [List.append]
                    repeat (go_big_quiet_step (fail))
                    refine wpQuiet_nil ?_
                    rintro _ ⟨y3, rfl⟩
                    go_wp2
                    go_roundw
                    case rel => exact ⟨j + 1, hlj, by go_num, _, rfl⟩
                    case measure => simp [intOf]; omega
                  · have e1 : ((xi : Int) == (xj : Int)) = false := by simp; omega
                    have hM : Mi ≠ Mj := fun z => q (hsame.2 z)
                    have e2 : ((Mi : Int) == (Mj : Int)) = false := by simp; omega
                    clear hsame q hM
                    go_wp2_with fail
                    refine wp_region_own (by kernel_rfl) (by kernel_rfl) ?_
                    try simp only [List.append]
                    repeat (go_big_quiet_step (fail))
                    refine wpQuiet_nil ?_
                    rintro _ ⟨y3, rfl⟩
                    go_wp2
                    go_roundw
                    case rel => exact ⟨j + 1, hlj, by go_num, _, rfl⟩
                    case measure => simp [intOf]; omega
                · obtain rfl : j = k := by omega
                  go_wp2
                  go_roundw
                  case rel => exact ⟨i + 1, hli, by go_num, _, rfl⟩
                  case measure => simp [intOf]; omega
            · obtain rfl : i = k := by omega
              clear hli hi
              have hLn := st_Len hW.out.mn.st
              have hFu := Lib.hid (st_Full hW.out.mn.st)
              have hBV := Lib.hid hW.out.mn.below
              have hSt := Lib.hid hW.out.mn.st
              have hok := Lib.hid hJ.out.ok
              have hsz := hW.out.mn.st.nodes.room
              obtain ⟨N, hN⟩ : ∃ N, R.length = N + 2 := ⟨R.length - 2, by have := hJ.out.ok.two; omega⟩
              rw [hN, Nat.add_sub_cancel] at hLn
              rw [hN] at hsz
              have hN' := Lib.hid hN
              have hLn' := Lib.hid hLn
              clear hN hLn hW
              go_wp2_with fail
              go_loopw [16, 17, 18, 19, 20, 21, 22] (fun av _ _ _ _ _ _ wq => ∃ a : Nat, 2 ≤ a ∧ a ≤ N + 2 ∧ av = .int .i64 (a : Int) ∧ ∃ y, wq = plus V y) (fun av _ _ _ _ _ _ _ => N + 2 - (intOf av).toNat)
              case atStart => exact ⟨2, Nat.le_refl _, by omega, rfl, y, rfl⟩
              case round =>
                obtain ⟨a, ha2, haN, rfl, y2, rfl⟩ := hrel
                go_wp2_with fail
                refine (hLn'.out _).mono ?_
                rintro r w' ⟨rfl, y3, rfl⟩
                by_cases hla : a < N + 2
                · obtain ⟨⟨nv, nl, nh⟩, hnd⟩ : ∃ nd, R[a]? = some nd := ⟨_, List.getElem?_eq_getElem (by rw [hN'.out]; exact hla)⟩
                  obtain ⟨f1, f2, f3⟩ := hSt.out.nodes.fits hnd
                  have g1 := hok.out.ne _ _ hnd ha2
                  have g2 := hok.out.lo _ _ hnd ha2
                  have g3 := hok.out.hi _ _ hnd ha2
                  simp only at f1 f2 f3 g1 g2 g3
                  have hA0 := st_At hSt.out (a : Int)
                  have hv0 : bdAtV R (bdKnown R (a : Int)) = .tuple #[.agg #[.int .i64 (nv : Int), .int .i64 (nl : Int), .int .i64 (nh : Int)], .bool true] := by
                    rw [bdKnown_of (by rw [hN'.out]; exact hla)]
                    unfold bdAtV
                    rw [hnd]
                    simp only
                    rw [if_pos (by omega)]
                  rw [hv0] at hA0
                  obtain ⟨u0, u1, u2, B, hv1, hB⟩ := at_half hok.out hnd ha2 (.inl rfl) rfl
                  obtain ⟨z0, z1, z2, D, hv2, hD⟩ := at_half hok.out hnd ha2 (.inr rfl) rfl
                  simp only at hv1 hB hv2 hD
                  have hA1 : Hid (∀ Z, Below V.heap.size V Z → BdPure Try.prog Z 11 #[.pointer (some ⟨bs, 0, none⟩), .int .i64 (nl : Int)] (.tuple #[.agg #[.int .i64 (u0 : Int), .int .i64 (u1 : Int), .int .i64 (u2 : Int)], .bool B])) := Lib.hid (fun Z hZ => by have := st_At (hSt.out.below hZ) (nl : Int); rwa [hv1] at this)
                  have hA2 : Hid (∀ Z, Below V.heap.size V Z → BdPure Try.prog Z 11 #[.pointer (some ⟨bs, 0, none⟩), .int .i64 (nh : Int)] (.tuple #[.agg #[.int .i64 (z0 : Int), .int .i64 (z1 : Int), .int .i64 (z2 : Int)], .bool D])) := Lib.hid (fun Z hZ => by have := st_At (hSt.out.below hZ) (nh : Int); rwa [hv2] at this)
                  have hA0' := Lib.hid hA0
                  clear hnd hv0 hv1 hv2 hA0
                  have e1 : ((nl : Int) == (nh : Int)) = false := by simp; omega
                  have hBf : B = true → decide (u0 ≤ nv) = false := fun e => decide_eq_false (by have := hB e; omega)
                  have hDf : D = true → decide (z0 ≤ nv) = false := fun e => decide_eq_false (by have := hD e; omega)
                  have e2 : decide (a ≤ nl) = false := decide_eq_false (by omega)
                  have e3 : decide (a ≤ nh) = false := decide_eq_false (by omega)
                  have hBf' := Lib.hid hBf
                  have hDf' := Lib.hid hDf
                  clear hB hD hBf hDf g1 g2 g3
                  go_wp2_with fail
                  refine (hA0'.out _).mono ?_
                  rintro r w' ⟨rfl, y4, rfl⟩
                  go_wp2_with fail
                  obtain ⟨X1, hX1, hB1, hh1, hs1⟩ := bd_box (plus V y4) #[.int .i64 (nv : Int), .int .i64 (nl : Int), .int .i64 (nh : Int)] 39
                  rw [hX1, ← plus_self X1]
                  have hV1 : Below V.heap.size V X1 := (below_plus V y4).trans (hB1.mono (size_plus V y4))
                  obtain ⟨b1, hb1⟩ : ∃ b, (plus V y4).heap.size = b := ⟨_, rfl⟩
                  rw [hb1] at hh1 ⊢
                  have hA1' := Lib.hid (hA1.out X1 hV1)
                  have hV1' := Lib.hid hV1
                  have hh1' := Lib.hid hh1
                  have p0 := fun y o => (bd_cell ((Below.heap_alloc (plus X1 y) o b1 (Nat.lt_of_lt_of_le (Array.getElem?_eq_some_iff.1 hh1).1 (size_plus X1 y))).trans (bd_heap_plus X1 y hh1)) 0 _ rfl)
                  have p2' := fun y o => (bd_cell ((Below.heap_alloc (plus X1 y) o b1 (Nat.lt_of_lt_of_le (Array.getElem?_eq_some_iff.1 hh1).1 (size_plus X1 y))).trans (bd_heap_plus X1 y hh1)) 2 _ rfl)
                  clear hX1 hB1 hh1 hs1 hV1 hb1 hA1
                  refine (hA1'.out _).mono ?_
                  rintro r w' ⟨rfl, y5, rfl⟩
                  go_wp2_with fail
                  clear p0 p2'
                  obtain ⟨X2, hX2, hB2, hh2, hs2⟩ := bd_box (plus X1 y5) #[.int .i64 (u0 : Int), .int .i64 (u1 : Int), .int .i64 (u2 : Int)] 39
                  rw [hX2, ← plus_self X2]
                  have hB12 : Below X1.heap.size X1 X2 := (below_plus X1 y5).trans (hB2.mono (size_plus X1 y5))
                  have hV2 : Below V.heap.size V X2 := hV1'.out.trans (hB12.mono hV1'.out.size)
                  have hh12 : X2.heap[b1]? = _ := (hB12.block b1 (Array.getElem?_eq_some_iff.1 hh1'.out).1).trans hh1'.out
                  obtain ⟨b2, hb2⟩ : ∃ b, (plus X1 y5).heap.size = b := ⟨_, rfl⟩
                  rw [hb2] at hh2 ⊢
                  have hA2' := Lib.hid (hA2.out X2 hV2)
                  have hV2' := Lib.hid hV2
                  have hh2' := Lib.hid hh2
                  have hh12' := Lib.hid hh12
                  clear hX2 hB2 hh2 hs2 hV2 hb2 hA2 hB12 hh12
                  refine (hA2'.out _).mono ?_
                  rintro r w' ⟨rfl, y6, rfl⟩
                  obtain ⟨X3, hX3, hB3, hh3, hs3⟩ := bd_box (plus X2 y6) #[.int .i64 (z0 : Int), .int .i64 (z1 : Int), .int .i64 (z2 : Int)] 39
                  have hB23 : Below X2.heap.size X2 X3 := (below_plus X2 y6).trans (hB3.mono (size_plus X2 y6))
                  have hh13 : X3.heap[b1]? = _ := (hB23.block b1 (Array.getElem?_eq_some_iff.1 hh12'.out).1).trans hh12'.out
                  have hh23 : X3.heap[b2]? = _ := (hB23.block b2 (Array.getElem?_eq_some_iff.1 hh2'.out).1).trans hh2'.out
                  rw [← hX3] at hh13 hh23 hh3
                  have q0 := bd_cell hh13 0 _ rfl
                  have q1 := bd_cell hh13 1 _ rfl
                  have q2 := bd_cell hh13 2 _ rfl
                  have q3 := bd_cell hh23 0 _ rfl
                  have q4 := bd_cell hh3 0 _ rfl
                  have hVend : Hid (∃ y, (plus X2 y6).alloc (.cells #[.int .i64 (z0 : Int), .int .i64 (z1 : Int), .int .i64 (z2 : Int)] 39) = plus V y) := Lib.hid (by rw [hX3]; exact plus_of_below (hV2'.out.trans (hB23.mono hV2'.out.size)))
                  clear hX3 hB3 hh3 hs3 hB23 hh13 hh23 hA1' hA2'
                  cases B <;> cases D
                  all_goals
                    first | have hb := hBf'.out rfl | skip
                    first | have hd := hDf'.out rfl | skip
                    clear hBf' hDf'
                    go_wp2
                    go_roundw
                    case rel =>
                      repeat apply Exists.intro
                      refine ⟨⟨a + 1, by omega, hla, by go_num, hVend.out⟩, ?_⟩
                      rfl
                    case measure => simp [intOf]; omega
                · obtain rfl : a = N + 2 := by omega
                  go_wp2_with fail
                  refine (hFu.out _).mono ?_
                  rintro r w' ⟨rfl, y4, rfl⟩
                  go_wp2_with fail
                  refine (hK.out _).mono ?_
                  rintro r w' ⟨rfl, y5, rfl⟩
                  go_wp2
                  go_ret
                  exact ⟨rfl, plus_of_below (hBV.out.trans (((below_plus V y4).trans ((below_plus _ y5).mono (size_plus V y4))).mono hBV.out.size))⟩
end Go.Proofs.Ytfphilgdikanfaa
