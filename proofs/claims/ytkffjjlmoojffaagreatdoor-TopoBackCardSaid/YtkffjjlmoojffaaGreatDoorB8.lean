/-
  WHAT IS PROVED HERE: a part of the proof of the claim's theorem: Nd.
-/
import Derived.Test.YtkffjjlmoojffaaGreatDoorRows
import Derived.Test.YtkffjjlmoojffaaGreatDoorB4
import Derived.Test.YtkffjjlmoojffaaGreatDoorB7
import Derived.WalkKit
import Derived.WalkSpells
import Derived.WalkLawsBesides
set_option linter.all false
namespace Go.Proofs.YtkffjjlmoojffaaGreatDoor
open Go.RowKit
theorem digit_bad (r : Nat) (b : Int) (w : World) (h1 : r ≤ 2147483647) (hd : ¬ digV (r : Int) b < b) :
    Calls Tryz.prog 169 #[.int .i32 (r : Int), .int .u64 b] w fun e w' => e = .returned (.tuple #[.int .u64 (digV (r : Int) b), .bool false]) ∧ w = w' :=
  (digit_any r b w (by omega) (by omega)).mono fun e w' ⟨he, hw⟩ => ⟨by rw [he, decide_eq_false hd], hw⟩
theorem digit_good (r : Nat) (b : Int) (w : World) (h1 : r ≤ 2147483647) (hb : 0 ≤ b) (hd : digV (r : Int) b < b) :
    Calls Tryz.prog 169 #[.int .i32 (r : Int), .int .u64 b] w fun e w' => e = .returned (.tuple #[.int .u64 ((digV (r : Int) b).toNat : Int), .bool true]) ∧ w = w' :=
  (digit_any r b w (by omega) (by omega)).mono fun e w' ⟨he, hw⟩ => ⟨by rw [he, decide_eq_true hd, Int.toNat_of_nonneg (digV_pos _ _ hb)], hw⟩
theorem iterPos_at {w : World} {i p : Nat} {t : ByteArray} (h : w.heap[i]? = some (.stringIter t p)) : w.iterPos i = p := by unfold World.iterPos; rw [h]
set_option maxHeartbeats 1000000 in
theorem parse_dec (s : ByteArray) (w : World) (hc : ∀ w, Calls Tryz.prog 168 #[.string s, .string ⟨#[48, 120]⟩] w fun e w' => e = .returned (.tuple #[.string s, .bool false]) ∧ w = w') :
    Calls Tryz.prog 159 #[.string s] w fun e w' => e = .returned (.tuple #[nv (parseR 10 s.data.toList).1, .int .i64 (parseR 10 s.data.toList).2]) ∧ ∃ x, w' = plus w x := by
  have hc' := Lib.hid hc
  clear hc
  by_cases h0 : s.size = 0
  · have e1 := bytes_empty' s h0
    have e2 := Lib.hid (bytes_empty s h0)
    clear h0
    go_enter Tryz.func159, Tryz.ntmps159
    go_wp2_with (go_at_call 168; refine (hc'.out _).mono ?_; rintro e w' ⟨rfl, rfl⟩)
    refine bodyPost_ret (v := .tuple #[.agg #[.int .u64 0, .int .u64 0], .int .i64 4]) (by simp [results, Tryz.results159, go_sem]) rfl ⟨?_, ?_⟩
    · rw [e2.out, parseR_nil]; rfl
    · exact plus_of_below ((Below.refl _ _).alloc (Nat.le_refl _) _)
  · have e1 := bytes_some' s h0
    have e2 := Lib.hid (bytes_some s h0)
    clear h0
    go_enter Tryz.func159, Tryz.ntmps159
    go_wp2_with (go_at_call 168; refine (hc'.out _).mono ?_; rintro e w' ⟨rfl, rfl⟩)
    go_loopw [8] (fun ov wr => ∃ k : Nat, k ≤ s.size ∧ ov = .bool (ovB (valOf 10 (s.data.toList.take k))) ∧ PInv w s 10 k k wr) (fun _ wr => s.size - wr.iterPos (w.heap.size + 1 + 1))
    case atStart => exact ⟨0, Nat.zero_le _, rfl, PInv.start w s 10 _⟩
    case round =>
      obtain ⟨k, hk, hov, hP⟩ := hrel
      have eb : Hid (wr.iterPos (w.heap.size + 1 + 1) = k) := by
        show _ = _
        unfold World.iterPos; rw [hP.it]
      by_cases hlt : k < s.size
      · by_cases hd : digV ((s[k]).toNat : Int) ((10 : Nat) : Int) < ((10 : Nat) : Int)
        · have ha : (s[k]).toNat < 128 := by have := dig_ascii _ _ hd; omega
          have hnx := fun ty => Lib.run_next_ascii_at (P := Tryz.prog) wr (w.heap.size + 1 + 1) s k ty hP.it hlt ha
          have hQ := hP.next (k + 1)
          have hG := Lib.hid (fun W => digit_good (s[k]).toNat 10 W (by omega) (by decide) hd)
          have eN := iterPos_at (hP.next (k + 1)).it
          generalize hW1 : wr.iterAt (w.heap.size + 1 + 1) s (k + 1) = W1 at hnx hQ eN
          generalize hr : (s[k]).toNat = r at hnx hG
          have hr' := Lib.hid hr
          have hd' := Lib.hid hd
          have hlt' := Lib.hid hlt
          have ed : digV (r : Int) ((10 : Nat) : Int) < ((10 : Nat) : Int) := by rw [← hr]; exact hd
          have hD := digV_lt _ _ ed (by decide)
          generalize hdd : (digV (r : Int) ((10 : Nat) : Int)).toNat = d at hD
          have hG : Hid (∀ W, Calls Tryz.prog 169 #[.int .i32 (r : Int), .int .u64 10] W fun e w' => e = .returned (.tuple #[.int .u64 (d : Int), .bool true]) ∧ W = w') := by rw [← hdd]; exact hG
          have hV : Hid (valOf 10 (s.data.toList.take (k + 1)) = valOf 10 (s.data.toList.take k) * 10 + d) := by
            show _ = _
            rw [take_snoc s k hlt, valOf_snoc, hr, hdd]
          clear hd ha hr hW1 ed hdd
          by_cases ho : 2 ^ 128 ≤ valOf 10 (s.data.toList.take k)
          · rw [ovB_true ho] at hov
            subst hov
            have ho' := Lib.hid ho
            have hQ' := Lib.hid hQ
            have hP' := Lib.hid hP
            have eN' := Lib.hid eN
            clear ho hQ hP eN
            go_wp2_with (go_at_call 169; refine (hG.out _).mono ?_; rintro e w' ⟨rfl, rfl⟩)
            go_roundw
            case rel =>
              have hz := hQ'.out.over (by decide) hlt'.out hd'.out ho'.out
              exact ⟨k + 1, by have := hlt'.out; omega, by rw [ovB_true hz.2], hz.1⟩
            case measure => rw [eb.out, eN'.out]; have := hlt'.out; omega
          · rw [ovB_false ho] at hov
            subst hov
            obtain ⟨N, hN, hv, c0, c1⟩ := hQ.n
            have eV := Lib.hid (hv ho)
            have hWd := Lib.hid (with_digit N 10 d hN (by decide) hD)
            have hs := hQ.size
            have c0 : ∀ x, (plus W1 x).cell? ⟨w.heap.size + 1, 0, none⟩ = _ := fun x => (cell_plus W1 x _ _ (by omega)).trans c0
            have c1 : ∀ x, (plus W1 x).cell? ⟨w.heap.size + 1, 1, none⟩ = _ := fun x => (cell_plus W1 x _ _ (by omega)).trans c1
            have f1 : ∀ x o, (plus W1 x).frozen? ⟨w.heap.size + 1, o, none⟩ = false := fun x o => (frozen_plus W1 x _ o (by omega)).trans (hQ.fn o)
            have hQ' := Lib.hid hQ
            have hP' := Lib.hid hP
            have hZ : Hid (∀ x, PInv w s 10 (k + 1) (k + 1) (((plus W1 x).setCell ⟨w.heap.size + 1, 0, none⟩ (.int .u64 (hi ((N * 10 + d) % 340282366920938463463374607431768211456)))).setCell ⟨w.heap.size + 1, 1, none⟩ (.int .u64 (lo ((N * 10 + d) % 340282366920938463463374607431768211456))))) := fun x =>
              hQ.store hlt hd'.out _ (mod_128_lt _) (fun ho => by
                rw [hV.out, ← eV.out] at ho ⊢
                exact Nat.mod_eq_of_lt (by omega)) x
            have hN' := Lib.hid hN
            have eN' := Lib.hid eN
            clear ho hQ hP hv hN hs eN
            go_wp2_with (go_at_call 169; refine (hG.out _).mono ?_; rintro e w' ⟨rfl, rfl⟩)
            refine (hWd.out W1).mono ?_
            rintro e w' ⟨rfl, x, rfl⟩
            go_wp2
            go_roundw
            case rel =>
              exact ⟨k + 1, by have := hlt'.out; omega, by rw [hV.out, ← eV.out]; rfl, hZ.out x⟩
            case measure =>
              have := hlt'.out
              rw [iterPos_at (hZ.out x).it, eb.out]
              omega
        · subst hov
          have hnx := fun ty => Lib.run_next_any_at (P := Tryz.prog) wr (w.heap.size + 1 + 1) s k ty hP.it hlt
          have hQ := hP.next (k + (Utf8.decode s k).2)
          have hG := Lib.hid (fun W => digit_bad (Utf8.decode s k).1 10 W (decode_le s k) (dec_bad _ s k hlt hd))
          have hR := Lib.hid (parseR_bad 10 _ (digs_at 10 s k hlt hd))
          generalize wr.iterAt (w.heap.size + 1 + 1) s (k + (Utf8.decode s k).2) = W1 at hnx hQ
          generalize (Utf8.decode s k).1 = r at hnx hG
          have c0 := hQ.r0
          have c1 := hQ.r1
          have f0 := hQ.fr
          have hQ' := Lib.hid hQ
          clear hQ hd hP
          go_wp2_with (go_at_call 169; refine (hG.out _).mono ?_; rintro e w' ⟨rfl, rfl⟩)
          refine bodyPost_ret (v := .tuple #[.agg #[.int .u64 0, .int .u64 0], .int .i64 4]) (by simp [results, Tryz.results159, go_sem, c0, c1]) rfl ⟨?_, ?_⟩
          · rw [hR.out]; rfl
          · exact plus_of_below ((hQ'.out.below.setCell (by simp) _).setCell (by simp) _)
      · have hks := show k = s.size by omega
        have hnx := fun ty => Lib.run_next_end_at (P := Tryz.prog) wr (w.heap.size + 1 + 1) s k ty hP.it hlt
        have eT : Hid (s.data.toList.take k = s.data.toList) := by rw [hks]; exact take_all s
        obtain ⟨N, hN, hv, n0, n1⟩ := hP.n
        have c0 := hP.r0
        have c1 := hP.r1
        have f0 := hP.fr
        have hds := hP.ds
        rw [eT.out] at hds hv
        have hds' := Lib.hid hds
        have hP' := Lib.hid hP
        by_cases ho : 2 ^ 128 ≤ valOf 10 s.data.toList
        · rw [eT.out, ovB_true ho] at hov
          subst hov
          have hR := Lib.hid (parseR_over 10 _ e2.out hds ho)
          clear ho hP hN hv hds hlt hk hks
          go_wp2
          refine bodyPost_ret (v := .tuple #[.agg #[.int .u64 0, .int .u64 0], .int .i64 5]) (by simp [results, Tryz.results159, go_sem, c0, c1]) rfl ⟨?_, ?_⟩
          · rw [hR.out]; rfl
          · exact plus_of_below ((hP'.out.below.setCell (by simp) _).setCell (by simp) _)
        · rw [eT.out, ovB_false ho] at hov
          subst hov
          have hR := Lib.hid (parseR_ok 10 _ e2.out hds ho)
          have eV := Lib.hid (hv ho)
          clear ho hP hN hv hds hlt hk hks
          go_wp2
          refine bodyPost_ret (v := .tuple #[.agg #[.int .u64 (hi N), .int .u64 (lo N)], .int .i64 0]) (by simp [results, Tryz.results159, go_sem, c0, c1]) rfl ⟨?_, ?_⟩
          · rw [hR.out, ← eV.out]
          · exact plus_of_below ((hP'.out.below.setCell (by simp) _).setCell (by simp) _)
set_option maxHeartbeats 1000000 in
theorem parse_hex (s t : ByteArray) (w : World) (hc : ∀ w, Calls Tryz.prog 168 #[.string s, .string ⟨#[48, 120]⟩] w fun e w' => e = .returned (.tuple #[.string t, .bool true]) ∧ w = w') :
    Calls Tryz.prog 159 #[.string s] w fun e w' => e = .returned (.tuple #[nv (parseR 16 t.data.toList).1, .int .i64 (parseR 16 t.data.toList).2]) ∧ ∃ x, w' = plus w x := by
  have hc' := Lib.hid hc
  clear hc
  by_cases h0 : t.size = 0
  · have e1 := bytes_empty' t h0
    have e2 := Lib.hid (bytes_empty t h0)
    clear h0
    go_enter Tryz.func159, Tryz.ntmps159
    go_wp2_with (go_at_call 168; refine (hc'.out _).mono ?_; rintro e w' ⟨rfl, rfl⟩)
    refine bodyPost_ret (v := .tuple #[.agg #[.int .u64 0, .int .u64 0], .int .i64 4]) (by simp [results, Tryz.results159, go_sem]) rfl ⟨?_, ?_⟩
    · rw [e2.out, parseR_nil]; rfl
    · exact plus_of_below ((Below.refl _ _).alloc (Nat.le_refl _) _)
  · have e1 := bytes_some' t h0
    have e2 := Lib.hid (bytes_some t h0)
    clear h0
    go_enter Tryz.func159, Tryz.ntmps159
    go_wp2_with (go_at_call 168; refine (hc'.out _).mono ?_; rintro e w' ⟨rfl, rfl⟩)
    go_loopw [8] (fun ov wr => ∃ k : Nat, k ≤ t.size ∧ ov = .bool (ovB (valOf 16 (t.data.toList.take k))) ∧ PInv w t 16 k k wr) (fun _ wr => t.size - wr.iterPos (w.heap.size + 1 + 1))
    case atStart => exact ⟨0, Nat.zero_le _, rfl, PInv.start w t 16 _⟩
    case round =>
      obtain ⟨k, hk, hov, hP⟩ := hrel
      have eb : Hid (wr.iterPos (w.heap.size + 1 + 1) = k) := by
        show _ = _
        unfold World.iterPos; rw [hP.it]
      by_cases hlt : k < t.size
      · by_cases hd : digV ((t[k]).toNat : Int) ((16 : Nat) : Int) < ((16 : Nat) : Int)
        · have ha : (t[k]).toNat < 128 := by have := dig_ascii _ _ hd; omega
          have hnx := fun ty => Lib.run_next_ascii_at (P := Tryz.prog) wr (w.heap.size + 1 + 1) t k ty hP.it hlt ha
          have hQ := hP.next (k + 1)
          have hG := Lib.hid (fun W => digit_good (t[k]).toNat 16 W (by omega) (by decide) hd)
          have eN := iterPos_at (hP.next (k + 1)).it
          generalize hW1 : wr.iterAt (w.heap.size + 1 + 1) t (k + 1) = W1 at hnx hQ eN
          generalize hr : (t[k]).toNat = r at hnx hG
          have hr' := Lib.hid hr
          have hd' := Lib.hid hd
          have hlt' := Lib.hid hlt
          have ed : digV (r : Int) ((16 : Nat) : Int) < ((16 : Nat) : Int) := by rw [← hr]; exact hd
          have hD := digV_lt _ _ ed (by decide)
          generalize hdd : (digV (r : Int) ((16 : Nat) : Int)).toNat = d at hD
          have hG : Hid (∀ W, Calls Tryz.prog 169 #[.int .i32 (r : Int), .int .u64 16] W fun e w' => e = .returned (.tuple #[.int .u64 (d : Int), .bool true]) ∧ W = w') := by rw [← hdd]; exact hG
          have hV : Hid (valOf 16 (t.data.toList.take (k + 1)) = valOf 16 (t.data.toList.take k) * 16 + d) := by
            show _ = _
            rw [take_snoc t k hlt, valOf_snoc, hr, hdd]
          clear hd ha hr hW1 ed hdd
          by_cases ho : 2 ^ 128 ≤ valOf 16 (t.data.toList.take k)
          · rw [ovB_true ho] at hov
            subst hov
            have ho' := Lib.hid ho
            have hQ' := Lib.hid hQ
            have hP' := Lib.hid hP
            have eN' := Lib.hid eN
            clear ho hQ hP eN
            go_wp2_with (go_at_call 169; refine (hG.out _).mono ?_; rintro e w' ⟨rfl, rfl⟩)
            go_roundw
            case rel =>
              have hz := hQ'.out.over (by decide) hlt'.out hd'.out ho'.out
              exact ⟨k + 1, by have := hlt'.out; omega, by rw [ovB_true hz.2], hz.1⟩
            case measure => rw [eb.out, eN'.out]; have := hlt'.out; omega
          · rw [ovB_false ho] at hov
            subst hov
            obtain ⟨N, hN, hv, c0, c1⟩ := hQ.n
            have eV := Lib.hid (hv ho)
            have hWd := Lib.hid (with_digit N 16 d hN (by decide) hD)
            have hs := hQ.size
            have c0 : ∀ x, (plus W1 x).cell? ⟨w.heap.size + 1, 0, none⟩ = _ := fun x => (cell_plus W1 x _ _ (by omega)).trans c0
            have c1 : ∀ x, (plus W1 x).cell? ⟨w.heap.size + 1, 1, none⟩ = _ := fun x => (cell_plus W1 x _ _ (by omega)).trans c1
            have f1 : ∀ x o, (plus W1 x).frozen? ⟨w.heap.size + 1, o, none⟩ = false := fun x o => (frozen_plus W1 x _ o (by omega)).trans (hQ.fn o)
            have hQ' := Lib.hid hQ
            have hP' := Lib.hid hP
            have hZ : Hid (∀ x, PInv w t 16 (k + 1) (k + 1) (((plus W1 x).setCell ⟨w.heap.size + 1, 0, none⟩ (.int .u64 (hi ((N * 16 + d) % 340282366920938463463374607431768211456)))).setCell ⟨w.heap.size + 1, 1, none⟩ (.int .u64 (lo ((N * 16 + d) % 340282366920938463463374607431768211456))))) := fun x =>
              hQ.store hlt hd'.out _ (mod_128_lt _) (fun ho => by
                rw [hV.out, ← eV.out] at ho ⊢
                exact Nat.mod_eq_of_lt (by omega)) x
            have hN' := Lib.hid hN
            have eN' := Lib.hid eN
            clear ho hQ hP hv hN hs eN
            go_wp2_with (go_at_call 169; refine (hG.out _).mono ?_; rintro e w' ⟨rfl, rfl⟩)
            refine (hWd.out W1).mono ?_
            rintro e w' ⟨rfl, x, rfl⟩
            go_wp2
            go_roundw
            case rel =>
              exact ⟨k + 1, by have := hlt'.out; omega, by rw [hV.out, ← eV.out]; rfl, hZ.out x⟩
            case measure =>
              have := hlt'.out
              rw [iterPos_at (hZ.out x).it, eb.out]
              omega
        · subst hov
          have hnx := fun ty => Lib.run_next_any_at (P := Tryz.prog) wr (w.heap.size + 1 + 1) t k ty hP.it hlt
          have hQ := hP.next (k + (Utf8.decode t k).2)
          have hG := Lib.hid (fun W => digit_bad (Utf8.decode t k).1 16 W (decode_le t k) (dec_bad _ t k hlt hd))
          have hR := Lib.hid (parseR_bad 16 _ (digs_at 16 t k hlt hd))
          generalize wr.iterAt (w.heap.size + 1 + 1) t (k + (Utf8.decode t k).2) = W1 at hnx hQ
          generalize (Utf8.decode t k).1 = r at hnx hG
          have c0 := hQ.r0
          have c1 := hQ.r1
          have f0 := hQ.fr
          have hQ' := Lib.hid hQ
          clear hQ hd hP
          go_wp2_with (go_at_call 169; refine (hG.out _).mono ?_; rintro e w' ⟨rfl, rfl⟩)
          refine bodyPost_ret (v := .tuple #[.agg #[.int .u64 0, .int .u64 0], .int .i64 4]) (by simp [results, Tryz.results159, go_sem, c0, c1]) rfl ⟨?_, ?_⟩
          · rw [hR.out]; rfl
          · exact plus_of_below ((hQ'.out.below.setCell (by simp) _).setCell (by simp) _)
      · have hks := show k = t.size by omega
        have hnx := fun ty => Lib.run_next_end_at (P := Tryz.prog) wr (w.heap.size + 1 + 1) t k ty hP.it hlt
        have eT : Hid (t.data.toList.take k = t.data.toList) := by rw [hks]; exact take_all t
        obtain ⟨N, hN, hv, n0, n1⟩ := hP.n
        have c0 := hP.r0
        have c1 := hP.r1
        have f0 := hP.fr
        have hds := hP.ds
        rw [eT.out] at hds hv
        have hds' := Lib.hid hds
        have hP' := Lib.hid hP
        by_cases ho : 2 ^ 128 ≤ valOf 16 t.data.toList
        · rw [eT.out, ovB_true ho] at hov
          subst hov
          have hR := Lib.hid (parseR_over 16 _ e2.out hds ho)
          clear ho hP hN hv hds hlt hk hks
          go_wp2
          refine bodyPost_ret (v := .tuple #[.agg #[.int .u64 0, .int .u64 0], .int .i64 5]) (by simp [results, Tryz.results159, go_sem, c0, c1]) rfl ⟨?_, ?_⟩
          · rw [hR.out]; rfl
          · exact plus_of_below ((hP'.out.below.setCell (by simp) _).setCell (by simp) _)
        · rw [eT.out, ovB_false ho] at hov
          subst hov
          have hR := Lib.hid (parseR_ok 16 _ e2.out hds ho)
          have eV := Lib.hid (hv ho)
          clear ho hP hN hv hds hlt hk hks
          go_wp2
          refine bodyPost_ret (v := .tuple #[.agg #[.int .u64 (hi N), .int .u64 (lo N)], .int .i64 0]) (by simp [results, Tryz.results159, go_sem, c0, c1]) rfl ⟨?_, ?_⟩
          · rw [hR.out, ← eV.out]
          · exact plus_of_below ((hP'.out.below.setCell (by simp) _).setCell (by simp) _)
noncomputable def parseS (s : ByteArray) : Nat × Int := if Lib.hasPrefix s.data.toList [48, 120] = true then parseR 16 (Lib.trimPrefix s.data.toList [48, 120]) else parseR 10 s.data.toList
theorem num_parse (s : ByteArray) : Pure Tryz.prog 159 #[.string s] (.tuple #[nv (parseS s).1, .int .i64 (parseS s).2]) := by
  intro w
  unfold parseS
  cases hp : Lib.hasPrefix s.data.toList [48, 120] with
  | true =>
    rw [if_pos rfl]
    have := parse_hex s ⟨(Lib.trimPrefix s.data.toList [48, 120]).toArray⟩ w (fun w => (Tryz.strings_CutPrefix s ⟨#[48, 120]⟩ w).mono fun e w' ⟨he, hw⟩ => ⟨by rw [he, show (⟨#[48, 120]⟩ : ByteArray).data.toList = [48, 120] from rfl, hp], hw.symm⟩)
    simpa using this
  | false =>
    rw [if_neg (by simp)]
    refine parse_dec s w (fun w => (Tryz.strings_CutPrefix s ⟨#[48, 120]⟩ w).mono fun e w' ⟨he, hw⟩ => ⟨?_, hw.symm⟩)
    rw [he, show (⟨#[48, 120]⟩ : ByteArray).data.toList = [48, 120] from rfl, hp]
    unfold Lib.trimPrefix
    rw [if_neg (by rw [hp]; simp)]
end Go.Proofs.YtkffjjlmoojffaaGreatDoor
