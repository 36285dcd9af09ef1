/-
  WHAT IS PROVED HERE: the law's under, walked: what calls mean under some bits.
-/
import Derived.Test.YtfphilgdikanfaaBdS
namespace Go.Proofs.Ytfphilgdikanfaa
open Go.RowKit
theorem bd_add_zero (a : Addr) : a.add 0 = a := by
  obtain ⟨b, o, s⟩ := a
  cases s <;> simp [Addr.add]
theorem UnI.grow {W V X : World} {b : Nat} {v : Value} {acc : List Bool} (h : UnI W V b v acc) (hB : Below V.heap.size V X) : UnI W X b v acc := by
  have hs := h.size
  refine ⟨h.below.trans (hB.mono (by omega)), by have := hB.size; omega, (hB.block _ (by omega)).trans h.box, ?_⟩
  obtain ⟨hl, h2⟩ := h.own
  refine ⟨hl, ?_⟩
  rcases h2 with h2 | ⟨g, cap, cur, hv, hg, hh, r⟩
  · exact .inl h2
  · exact .inr ⟨g, cap, cur, hv, hg, (hB.block g (Array.getElem?_eq_some_iff.1 hh).1).trans hh, r⟩
theorem UnI.box_grown {W X w' : World} {b : Nat} {v : Value} {acc : List Bool} {o : Obj} (h : UnI W X b v acc) (hg : (X.alloc o).grownBy w' v.ownBlock) : w'.heap[b]? = some (.cells #[v] 33 (0, 0)) := by
  have hs := h.size
  have hnb : some b ≠ v.ownBlock := fun e => by
    obtain ⟨_, ⟨rfl, _⟩ | ⟨g, cap, cur, rfl, hg2, _⟩⟩ := h.own
    · cases e
    · have := Option.some.inj e
      simp only at this
      omega
  exact (hg.block b (by simp; omega) hnb).trans ((Below.heap_alloc _ _ _ (by omega)).trans h.box)
theorem bit_of (u j : Nat) (hu : u < 64) (hj : j < 6) : (bits BinOp.and IntKind.u8 ((u : Int) / 2 ^ j) 1 == 1) = u.testBit j := by
  have key : ∀ (u : Fin 64) (j : Fin 6), (bits BinOp.and IntKind.u8 ((u.val : Int) / 2 ^ j.val) 1 == 1) = u.val.testBit j.val := by decide +kernel
  exact key ⟨u, hu⟩ ⟨j, hj⟩
/-- A truth more. -/
theorem UnI.put {W X w' : World} {b : Nat} {v v' : Value} {acc : List Bool} {r : Bool} (h : UnI W X b v acc) (hg : (X.alloc (.cells #[.bool r] 4)).grownBy w' v.ownBlock) (ho : w'.ownsRow (b + 1) 4 1 v' (acc.length + 1) (acc.map Value.bool ++ [.bool r])) :
    UnI W (w'.setCell ⟨b, 0, none⟩ v') b v' (acc ++ [r]) := by
  have hs := h.size
  have hnb : some b ≠ v.ownBlock := fun e => by
    obtain ⟨_, ⟨rfl, _⟩ | ⟨g, cap, cur, rfl, hg2, _⟩⟩ := h.own
    · cases e
    · have := Option.some.inj e
      simp only at this
      omega
  have hbox : w'.heap[b]? = some (.cells #[v] 33 (0, 0)) := (hg.block b (by simp; omega) hnb).trans ((Below.heap_alloc _ _ _ (by omega)).trans h.box)
  refine ⟨?_, by have := hg.size; simp at this ⊢; omega, heap_setCell_same _ _ _ _ _ _ hbox, ?_⟩
  · refine ⟨hg.os.trans h.below.os, hg.tape.trans h.below.tape, hg.output.trans h.below.output, by have h1 := hg.size; have h2 := h.below.size; simp at h1 ⊢; omega, fun k hk => ?_⟩
    rw [Below.heap_setCell _ _ _ _ (by simp only; omega)]
    have hnk : some k ≠ v.ownBlock := fun e => by
      obtain ⟨_, ⟨rfl, _⟩ | ⟨g, cap, cur, rfl, hg2, _⟩⟩ := h.own
      · cases e
      · have := Option.some.inj e
        simp only at this
        omega
    exact (hg.block k (by simp; omega) hnk).trans ((Below.heap_alloc _ _ _ (by omega)).trans (h.below.block k hk))
  · have e : (acc ++ [r]).length = acc.length + 1 := by simp
    rw [e, List.map_append, List.map_singleton]
    obtain ⟨hl, h2⟩ := ho
    refine ⟨hl, ?_⟩
    rcases h2 with h2 | ⟨g, cap, cur, hv, hg2, hh, q⟩
    · exact .inl h2
    · exact .inr ⟨g, cap, cur, hv, hg2, by rw [Below.heap_setCell _ _ _ _ (by simp only; omega)]; exact hh, q⟩
set_option maxRecDepth 100000 in
set_option maxHeartbeats 8000000 in
theorem under_walk (W : World) (p : Option Addr) (l : List BOp) (c : Nat) (hl : OpsAt W p l) (hn : l.length ≤ 30) (u : Nat) (hu : u < 64) :
    Calls Try.prog 8 #[.slice p l.length c, .int .u8 (u : Int)] W fun e w' => ∃ q d, e = .returned (.slice q l.length d) ∧ BdBits w' q (underF (fun v => u.testBit v) l) ∧ ∃ x, w' = plus W x := by
  have hmf : ∀ (fn : Fn) (first cap : Array Value) (w : World), (Instr.makeFunc fn first cap).run Try.prog w = .ok (.func fn first cap) w := fun _ _ _ _ => rfl
  obtain ⟨f, hf⟩ : ∃ f : Nat → Bool, f = fun v => u.testBit v := ⟨_, rfl⟩
  rw [← hf]
  obtain ⟨n, hln⟩ : ∃ n, l.length = n := ⟨_, rfl⟩
  rw [hln] at hn ⊢
  have hS := UnI.start W
  obtain ⟨V0, hV0⟩ : ∃ V0, W.alloc (.cells #[.slice none 0 0] 33) = V0 := ⟨_, rfl⟩
  obtain ⟨b, hb⟩ : ∃ b, W.heap.size = b := ⟨_, rfl⟩
  rw [hV0, hb] at hS
  have hS' := Lib.hid hS
  have hV0' := Lib.hid hV0
  have hb' := Lib.hid hb
  have hl' := Lib.hid hl
  have hln' := Lib.hid hln
  have hf' := Lib.hid hf
  clear hS hV0 hb hl hln hf
  go_enter Try.func8, Try.ntmps8
  go_wp2_with fail
  rw [hV0'.out, hb'.out]
  go_loopw [8, 9, 10, 11, 12, 16] (fun _ _ _ _ _ iv wr => ∃ k : Nat, k ≤ n ∧ iv = .int .i64 (k : Int) ∧ ∃ v, Hid (UnI W wr b v (underF f (l.take k)))) (fun _ _ _ _ _ iv _ => n - (intOf iv).toNat)
  case atStart => exact ⟨0, Nat.zero_le _, rfl, _, hS'⟩
  case round =>
    obtain ⟨k, hk, rfl, v, hK⟩ := hrel
    clear hS'
    by_cases hlt : k < n
    · obtain ⟨o, ho⟩ : ∃ o, l[k]? = some o := ⟨_, List.getElem?_eq_getElem (by rw [hln'.out]; exact hlt)⟩
      have hlw : OpsAt wr p l := hl'.out.below hK.out.below hb'.out.symm
      obtain ⟨pa, rfl, hc⟩ := hlw k o ho
      have d0 := hc 0 _ rfl
      have d1 : wr.cell? ⟨(pa.add (k * 5)).block, (pa.add (k * 5)).off + 1, none⟩ = _ := hc 1 _ rfl
      have d2 : wr.cell? ⟨(pa.add (k * 5)).block, (pa.add (k * 5)).off + 2, none⟩ = _ := hc 2 _ rfl
      have d3 : wr.cell? ⟨(pa.add (k * 5)).block, (pa.add (k * 5)).off + 3, none⟩ = _ := hc 3 _ rfl
      have d4 : wr.cell? ⟨(pa.add (k * 5)).block, (pa.add (k * 5)).off + 4, none⟩ = _ := hc 4 _ rfl
      rw [bd_add_zero] at d0
      have hstep := Lib.hid (underF_take f l k o ho)
      have hlen : Hid ((underF f (l.take k)).length = k) := Lib.hid (by rw [underF_len, List.length_take, hln'.out]; omega)
      obtain ⟨acc, hacc⟩ : ∃ acc, underF f (l.take k) = acc := ⟨_, rfl⟩
      rw [hacc] at hstep hlen hK
      obtain ⟨p2, c2, rfl⟩ := bd_own_slice hK.out.own
      obtain ⟨ok, oa, ob, oc, oon⟩ := o
      simp only at d0 d1 d2 d3 d4
      obtain ⟨X, hX, hXB, hXh, hXs⟩ := bd_box wr #[.int .i64 ok, .int .i64 oa, .int .i64 ob, .int .i64 oc, .bool oon] 30
      have hKX := hK.out.grow hXB
      have hbits := bd_own_bits hKX.own
      have hbx := fun y => bd_cell (bd_heap_plus X y hKX.box) 0 _ rfl
      have hat := fun i => under_at b p2 acc c2 hbx hbits (by have := hlen.out; omega) i
      have hA := Lib.hid (hat oa)
      have hBb := Lib.hid (hat ob)
      have hCc := Lib.hid (hat oc)
      have x0 := fun y => bd_cell (bd_heap_plus X y hXh) 0 _ rfl
      have x1 := fun y => bd_cell (bd_heap_plus X y hXh) 1 _ rfl
      have x2 := fun y => bd_cell (bd_heap_plus X y hXh) 2 _ rfl
      have x3 := fun y => bd_cell (bd_heap_plus X y hXh) 3 _ rfl
      have hX' := Lib.hid hX
      have hKX' := Lib.hid hKX
      have hbx' := Lib.hid hbx
      clear hX hXB hXh hXs hKX hbits hat hbx hlw hc ho
      go_wp2_with fail
      rw [hX'.out]
      obtain ⟨va, hva⟩ : ∃ va, opAt false acc oa = va := ⟨_, rfl⟩
      obtain ⟨vb, hvb⟩ : ∃ vb, opAt false acc ob = vb := ⟨_, rfl⟩
      obtain ⟨vc, hvc⟩ : ∃ vc, opAt false acc oc = vc := ⟨_, rfl⟩
      have hone : Hid (∀ r, underOne f acc ⟨ok, oa, ob, oc, oon⟩ = r → underF f (l.take (k + 1)) = acc ++ [r]) := Lib.hid (fun r e => by rw [hstep.out, e])
      have hdef : underOne f acc ⟨ok, oa, ob, oc, oon⟩ = (if ok = 1 then (decide (0 ≤ oa) && decide (oa < 6)) && f oa.toNat else if ok = 2 then (va && vb) || (!va && vc) else if ok = 3 then !va else if ok = 4 then va && vb else if ok = 5 then va || vb else if ok = 6 then va != vb else false) := by
        unfold underOne
        simp only [hva, hvb, hvc]
      have hdef' := Lib.hid hdef
      rw [hva] at hA
      rw [hvb] at hBb
      rw [hvc] at hCc
      clear hva hvb hvc hdef hstep d0 d1 d2 d3 d4
      refine wp_region_own0 (by kernel_rfl) (by kernel_rfl) ?_
      repeat (go_big_quiet_step (first | with_reducible exact hA.out _ | with_reducible exact hBb.out _ | with_reducible exact hCc.out _))
      refine wpQuiet_nil ?_
      rintro _ ⟨y, rfl⟩
      have hKY := hKX'.out.grow (below_plus X y)
      have x0 := x0 y
      have x1 := x1 y
      have bx := hbx'.out y
      obtain ⟨Y, hY⟩ : ∃ Y, plus X y = Y := ⟨_, rfl⟩
      rw [hY] at hKY x0 x1 bx ⊢
      have hKY' := Lib.hid hKY
      have a6 := Lib.hid (show k + 1 ≤ n from hlt)
      have fz := bd_free hKY.box
      clear hKY hY hA hBb hCc hX' hKX' hbx' x2 x3 hmf hlt hK
      have hsz : Hid (acc.length ≤ 1048576) := Lib.hid (by have := hlen.out; omega)
      rw [hlen.out] at bx hKY'
      have hown : Hid (Y.ownsRow (b + 1) 4 1 (.slice p2 k c2) k (acc.map Value.bool)) := Lib.hid (by have := hKY'.out.own; rwa [hlen.out] at this)
      have hbase : Hid (b + 1 ≤ Y.heap.size) := Lib.hid hKY'.out.size
      rw [hlen.out] at hsz
      have fin : ∀ (r : Bool) (w2 : World) (p3 : Option Addr) (c3 : Nat), underOne f acc ⟨ok, oa, ob, oc, oon⟩ = r → w2.ownsRow (b + 1) 4 1 (.slice p3 (k + 1) c3) (k + 1) (acc.map Value.bool ++ [.bool r]) → (Y.alloc (.cells #[.bool r] 4)).grownBy w2 (Value.slice p2 k c2).ownBlock → Hid (UnI W (w2.setCell ⟨b, 0, none⟩ (.slice p3 (k + 1) c3)) b (.slice p3 (k + 1) c3) (underF f (l.take (k + 1)))) := fun r w2 p3 c3 e h2 h3 => Lib.hid (by
        rw [hone.out r e]
        exact hKY'.out.put h3 (by rw [hlen.out]; exact h2))
      have fin' := Lib.hid fin
      clear fin
      by_cases k1 : ok = 1
      · subst k1
        have hd := hdef'.out
        rw [if_pos rfl] at hd
        by_cases q1 : 0 ≤ oa
        · by_cases q2 : oa < 6
          · obtain ⟨j, rfl⟩ : ∃ j : Nat, oa = (j : Int) := ⟨oa.toNat, by omega⟩
            have hr : Hid (underOne f acc ⟨1, (j : Int), ob, oc, oon⟩ = (bits BinOp.and IntKind.u8 ((u : Int) / 2 ^ j) 1 == 1)) := Lib.hid (by
              rw [hd, decide_eq_true q1, decide_eq_true q2, Bool.true_and, Bool.true_and, Int.toNat_natCast, hf'.out, bit_of u j hu (by omega)])
            clear hd
            go_wp2_with (at_builtin; go_loud (refine bd_push bd_bool_info Try.underlying33 rfl (by decide) (.slice p2 k c2) hown.out hbase.out _ rfl hsz.out _ _ rfl rfl rfl ?_; intro v' w2 h2 h3; obtain ⟨p3, c3, rfl⟩ := bd_own_slice h2; have g1 := hKY'.out.box_grown h3; have g2 := bd_cell g1 0 _ rfl; have g3 := bd_free g1; have h2' := Lib.hid h2; have h3' := Lib.hid h3; clear h2 h3 g1))
            go_roundw
            case rel => exact ⟨k + 1, a6.out, by go_num, _, fin'.out _ _ _ _ hr.out h2'.out h3'.out⟩
            case measure => have := a6.out; simp [intOf]; omega
          · have q1b : decide (0 ≤ oa) = true := decide_eq_true q1
            have q2b : decide (oa < 6) = false := decide_eq_false q2
            have hr : Hid (underOne f acc ⟨1, oa, ob, oc, oon⟩ = false) := Lib.hid (by rw [hd, q1b, q2b]; rfl)
            clear hd q1 q2
            go_wp2_with (at_builtin; go_loud (refine bd_push bd_bool_info Try.underlying33 rfl (by decide) (.slice p2 k c2) hown.out hbase.out _ rfl hsz.out _ _ rfl rfl rfl ?_; intro v' w2 h2 h3; obtain ⟨p3, c3, rfl⟩ := bd_own_slice h2; have g1 := hKY'.out.box_grown h3; have g2 := bd_cell g1 0 _ rfl; have g3 := bd_free g1; have h2' := Lib.hid h2; have h3' := Lib.hid h3; clear h2 h3 g1))
            go_roundw
            case rel => exact ⟨k + 1, a6.out, by go_num, _, fin'.out _ _ _ _ hr.out h2'.out h3'.out⟩
            case measure => have := a6.out; simp [intOf]; omega
        · have q1b : decide (0 ≤ oa) = false := decide_eq_false q1
          have hr : Hid (underOne f acc ⟨1, oa, ob, oc, oon⟩ = false) := Lib.hid (by rw [hd, q1b]; rfl)
          clear hd q1
          go_wp2_with (at_builtin; go_loud (refine bd_push bd_bool_info Try.underlying33 rfl (by decide) (.slice p2 k c2) hown.out hbase.out _ rfl hsz.out _ _ rfl rfl rfl ?_; intro v' w2 h2 h3; obtain ⟨p3, c3, rfl⟩ := bd_own_slice h2; have g1 := hKY'.out.box_grown h3; have g2 := bd_cell g1 0 _ rfl; have g3 := bd_free g1; have h2' := Lib.hid h2; have h3' := Lib.hid h3; clear h2 h3 g1))
          go_roundw
          case rel => exact ⟨k + 1, a6.out, by go_num, _, fin'.out _ _ _ _ hr.out h2'.out h3'.out⟩
          case measure => have := a6.out; simp [intOf]; omega
      · by_cases k2 : ok = 2
        · subst k2
          have hd := hdef'.out
          rw [if_neg (by decide), if_pos rfl] at hd
          cases va with
          | true =>
            cases vb with
            | true =>
              have hr : Hid (underOne f acc ⟨2, oa, ob, oc, oon⟩ = true) := Lib.hid (hd.trans rfl)
              clear hd
              go_wp2_with (at_builtin; go_loud (refine bd_push bd_bool_info Try.underlying33 rfl (by decide) (.slice p2 k c2) hown.out hbase.out _ rfl hsz.out _ _ rfl rfl rfl ?_; intro v' w2 h2 h3; obtain ⟨p3, c3, rfl⟩ := bd_own_slice h2; have g1 := hKY'.out.box_grown h3; have g2 := bd_cell g1 0 _ rfl; have g3 := bd_free g1; have h2' := Lib.hid h2; have h3' := Lib.hid h3; clear h2 h3 g1))
              go_roundw
              case rel => exact ⟨k + 1, a6.out, by go_num, _, fin'.out _ _ _ _ hr.out h2'.out h3'.out⟩
              case measure => have := a6.out; simp [intOf]; omega
            | false =>
              have hr : Hid (underOne f acc ⟨2, oa, ob, oc, oon⟩ = false) := Lib.hid (hd.trans rfl)
              clear hd
              go_wp2_with (at_builtin; go_loud (refine bd_push bd_bool_info Try.underlying33 rfl (by decide) (.slice p2 k c2) hown.out hbase.out _ rfl hsz.out _ _ rfl rfl rfl ?_; intro v' w2 h2 h3; obtain ⟨p3, c3, rfl⟩ := bd_own_slice h2; have g1 := hKY'.out.box_grown h3; have g2 := bd_cell g1 0 _ rfl; have g3 := bd_free g1; have h2' := Lib.hid h2; have h3' := Lib.hid h3; clear h2 h3 g1))
              go_roundw
              case rel => exact ⟨k + 1, a6.out, by go_num, _, fin'.out _ _ _ _ hr.out h2'.out h3'.out⟩
              case measure => have := a6.out; simp [intOf]; omega
          | false =>
            cases vc with
            | true =>
              have hr : Hid (underOne f acc ⟨2, oa, ob, oc, oon⟩ = true) := Lib.hid (hd.trans rfl)
              clear hd
              go_wp2_with (at_builtin; go_loud (refine bd_push bd_bool_info Try.underlying33 rfl (by decide) (.slice p2 k c2) hown.out hbase.out _ rfl hsz.out _ _ rfl rfl rfl ?_; intro v' w2 h2 h3; obtain ⟨p3, c3, rfl⟩ := bd_own_slice h2; have g1 := hKY'.out.box_grown h3; have g2 := bd_cell g1 0 _ rfl; have g3 := bd_free g1; have h2' := Lib.hid h2; have h3' := Lib.hid h3; clear h2 h3 g1))
              go_roundw
              case rel => exact ⟨k + 1, a6.out, by go_num, _, fin'.out _ _ _ _ hr.out h2'.out h3'.out⟩
              case measure => have := a6.out; simp [intOf]; omega
            | false =>
              have hr : Hid (underOne f acc ⟨2, oa, ob, oc, oon⟩ = false) := Lib.hid (hd.trans rfl)
              clear hd
              go_wp2_with (at_builtin; go_loud (refine bd_push bd_bool_info Try.underlying33 rfl (by decide) (.slice p2 k c2) hown.out hbase.out _ rfl hsz.out _ _ rfl rfl rfl ?_; intro v' w2 h2 h3; obtain ⟨p3, c3, rfl⟩ := bd_own_slice h2; have g1 := hKY'.out.box_grown h3; have g2 := bd_cell g1 0 _ rfl; have g3 := bd_free g1; have h2' := Lib.hid h2; have h3' := Lib.hid h3; clear h2 h3 g1))
              go_roundw
              case rel => exact ⟨k + 1, a6.out, by go_num, _, fin'.out _ _ _ _ hr.out h2'.out h3'.out⟩
              case measure => have := a6.out; simp [intOf]; omega
        · by_cases k3 : ok = 3
          · subst k3
            have hd := hdef'.out
            rw [if_neg (by decide), if_neg (by decide), if_pos rfl] at hd
            have hr : Hid (underOne f acc ⟨3, oa, ob, oc, oon⟩ = !va) := Lib.hid (hd.trans rfl)
            clear hd
            go_wp2_with (at_builtin; go_loud (refine bd_push bd_bool_info Try.underlying33 rfl (by decide) (.slice p2 k c2) hown.out hbase.out _ rfl hsz.out _ _ rfl rfl rfl ?_; intro v' w2 h2 h3; obtain ⟨p3, c3, rfl⟩ := bd_own_slice h2; have g1 := hKY'.out.box_grown h3; have g2 := bd_cell g1 0 _ rfl; have g3 := bd_free g1; have h2' := Lib.hid h2; have h3' := Lib.hid h3; clear h2 h3 g1))
            go_roundw
            case rel => exact ⟨k + 1, a6.out, by go_num, _, fin'.out _ _ _ _ hr.out h2'.out h3'.out⟩
            case measure => have := a6.out; simp [intOf]; omega
          · by_cases k4 : ok = 4
            · subst k4
              have hd := hdef'.out
              rw [if_neg (by decide), if_neg (by decide), if_neg (by decide), if_pos rfl] at hd
              cases va with
              | true =>
                have hr : Hid (underOne f acc ⟨4, oa, ob, oc, oon⟩ = vb) := Lib.hid (hd.trans (by simp))
                clear hd
                go_wp2_with (at_builtin; go_loud (refine bd_push bd_bool_info Try.underlying33 rfl (by decide) (.slice p2 k c2) hown.out hbase.out _ rfl hsz.out _ _ rfl rfl rfl ?_; intro v' w2 h2 h3; obtain ⟨p3, c3, rfl⟩ := bd_own_slice h2; have g1 := hKY'.out.box_grown h3; have g2 := bd_cell g1 0 _ rfl; have g3 := bd_free g1; have h2' := Lib.hid h2; have h3' := Lib.hid h3; clear h2 h3 g1))
                go_roundw
                case rel => exact ⟨k + 1, a6.out, by go_num, _, fin'.out _ _ _ _ hr.out h2'.out h3'.out⟩
                case measure => have := a6.out; simp [intOf]; omega
              | false =>
                have hr : Hid (underOne f acc ⟨4, oa, ob, oc, oon⟩ = false) := Lib.hid (hd.trans rfl)
                clear hd
                go_wp2_with (at_builtin; go_loud (refine bd_push bd_bool_info Try.underlying33 rfl (by decide) (.slice p2 k c2) hown.out hbase.out _ rfl hsz.out _ _ rfl rfl rfl ?_; intro v' w2 h2 h3; obtain ⟨p3, c3, rfl⟩ := bd_own_slice h2; have g1 := hKY'.out.box_grown h3; have g2 := bd_cell g1 0 _ rfl; have g3 := bd_free g1; have h2' := Lib.hid h2; have h3' := Lib.hid h3; clear h2 h3 g1))
                go_roundw
                case rel => exact ⟨k + 1, a6.out, by go_num, _, fin'.out _ _ _ _ hr.out h2'.out h3'.out⟩
                case measure => have := a6.out; simp [intOf]; omega
            · by_cases k5 : ok = 5
              · subst k5
                have hd := hdef'.out
                rw [if_neg (by decide), if_neg (by decide), if_neg (by decide), if_neg (by decide), if_pos rfl] at hd
                cases va with
                | true =>
                  have hr : Hid (underOne f acc ⟨5, oa, ob, oc, oon⟩ = true) := Lib.hid (hd.trans rfl)
                  clear hd
                  go_wp2_with (at_builtin; go_loud (refine bd_push bd_bool_info Try.underlying33 rfl (by decide) (.slice p2 k c2) hown.out hbase.out _ rfl hsz.out _ _ rfl rfl rfl ?_; intro v' w2 h2 h3; obtain ⟨p3, c3, rfl⟩ := bd_own_slice h2; have g1 := hKY'.out.box_grown h3; have g2 := bd_cell g1 0 _ rfl; have g3 := bd_free g1; have h2' := Lib.hid h2; have h3' := Lib.hid h3; clear h2 h3 g1))
                  go_roundw
                  case rel => exact ⟨k + 1, a6.out, by go_num, _, fin'.out _ _ _ _ hr.out h2'.out h3'.out⟩
                  case measure => have := a6.out; simp [intOf]; omega
                | false =>
                  have hr : Hid (underOne f acc ⟨5, oa, ob, oc, oon⟩ = vb) := Lib.hid (hd.trans (by simp))
                  clear hd
                  go_wp2_with (at_builtin; go_loud (refine bd_push bd_bool_info Try.underlying33 rfl (by decide) (.slice p2 k c2) hown.out hbase.out _ rfl hsz.out _ _ rfl rfl rfl ?_; intro v' w2 h2 h3; obtain ⟨p3, c3, rfl⟩ := bd_own_slice h2; have g1 := hKY'.out.box_grown h3; have g2 := bd_cell g1 0 _ rfl; have g3 := bd_free g1; have h2' := Lib.hid h2; have h3' := Lib.hid h3; clear h2 h3 g1))
                  go_roundw
                  case rel => exact ⟨k + 1, a6.out, by go_num, _, fin'.out _ _ _ _ hr.out h2'.out h3'.out⟩
                  case measure => have := a6.out; simp [intOf]; omega
              · by_cases k6 : ok = 6
                · subst k6
                  have hd := hdef'.out
                  rw [if_neg (by decide), if_neg (by decide), if_neg (by decide), if_neg (by decide), if_neg (by decide), if_pos rfl] at hd
                  have hr : Hid (underOne f acc ⟨6, oa, ob, oc, oon⟩ = (va != vb)) := Lib.hid (hd.trans rfl)
                  clear hd
                  go_wp2_with (at_builtin; go_loud (refine bd_push bd_bool_info Try.underlying33 rfl (by decide) (.slice p2 k c2) hown.out hbase.out _ rfl hsz.out _ _ rfl rfl rfl ?_; intro v' w2 h2 h3; obtain ⟨p3, c3, rfl⟩ := bd_own_slice h2; have g1 := hKY'.out.box_grown h3; have g2 := bd_cell g1 0 _ rfl; have g3 := bd_free g1; have h2' := Lib.hid h2; have h3' := Lib.hid h3; clear h2 h3 g1))
                  go_roundw
                  case rel => exact ⟨k + 1, a6.out, by go_num, _, fin'.out _ _ _ _ hr.out h2'.out h3'.out⟩
                  case measure => have := a6.out; simp [intOf]; omega
                · have j1 : (ok == 1) = false := by simp; omega
                  have j2 : (ok == 2) = false := by simp; omega
                  have j3 : (ok == 3) = false := by simp; omega
                  have j4 : (ok == 4) = false := by simp; omega
                  have j5 : (ok == 5) = false := by simp; omega
                  have j6 : (ok == 6) = false := by simp; omega
                  have hr : Hid (underOne f acc ⟨ok, oa, ob, oc, oon⟩ = false) := Lib.hid (by rw [hdef'.out, if_neg k1, if_neg k2, if_neg k3, if_neg k4, if_neg k5, if_neg k6])
                  clear k1 k2 k3 k4 k5 k6
                  go_wp2_with (at_builtin; go_loud (refine bd_push bd_bool_info Try.underlying33 rfl (by decide) (.slice p2 k c2) hown.out hbase.out _ rfl hsz.out _ _ rfl rfl rfl ?_; intro v' w2 h2 h3; obtain ⟨p3, c3, rfl⟩ := bd_own_slice h2; have g1 := hKY'.out.box_grown h3; have g2 := bd_cell g1 0 _ rfl; have g3 := bd_free g1; have h2' := Lib.hid h2; have h3' := Lib.hid h3; clear h2 h3 g1))
                  go_roundw
                  case rel => exact ⟨k + 1, a6.out, by go_num, _, fin'.out _ _ _ _ hr.out h2'.out h3'.out⟩
                  case measure => have := a6.out; simp [intOf]; omega
    · obtain rfl : k = n := by omega
      obtain ⟨p2, c2, rfl⟩ := bd_own_slice hK.out.own
      have hlen : Hid ((underF f (l.take k)).length = k) := Lib.hid (by rw [underF_len, List.length_take, hln'.out]; omega)
      have hbits := Lib.hid (bd_own_bits hK.out.own)
      have bx := bd_cell hK.out.box 0 _ rfl
      rw [hlen.out] at bx
      have hB := Lib.hid hK.out.below
      have htk : Hid (l.take k = l) := Lib.hid (List.take_of_length_le (by rw [hln'.out]; exact Nat.le_refl _))
      clear hlt hk hmf hK
      go_wp2
      go_ret
      refine ⟨p2, c2, rfl, ?_, plus_of_below (by rw [hb'.out]; exact hB.out)⟩
      have := hbits.out
      rwa [htk.out] at this
end Go.Proofs.Ytfphilgdikanfaa
