/-
  WHAT IS PROVED HERE: a part of the proof of the claim's theorem: Ug.
-/
import Derived.Test.YtkffjjlmoojffaaGreatDoorRows
import Derived.Test.YtkffjjlmoojffaaGreatDoorM7
import Derived.Test.YtkffjjlmoojffaaGreatDoorM10
import Derived.Test.YtkffjjlmoojffaaGreatDoorM2
import Derived.WalkKit
import Derived.WalkSpells
import Derived.WalkLawsBesides
set_option linter.all false
namespace Go.Proofs.YtkffjjlmoojffaaGreatDoor
open Go.RowKit
structure QInv (w : World) (N : Nat) (wr : World) : Prop where
  below : Below w.heap.size w wr
  size : w.heap.size + 1 + 1 + 1 ≤ wr.heap.size
  r0 : wr.cell? ⟨w.heap.size, 0, none⟩ = some (.int .u64 0)
  r1 : wr.cell? ⟨w.heap.size, 1, none⟩ = some (.int .u64 0)
  fr : ∀ o, wr.frozen? ⟨w.heap.size, o, none⟩ = false
  z0 : wr.cell? ⟨w.heap.size + 1, 0, none⟩ = some (.int .u64 0)
  z1 : wr.cell? ⟨w.heap.size + 1, 1, none⟩ = some (.int .u64 0)
  n0 : wr.cell? ⟨w.heap.size + 1 + 1, 0, none⟩ = some (.int .u64 (hi N))
  n1 : wr.cell? ⟨w.heap.size + 1 + 1, 1, none⟩ = some (.int .u64 (lo N))
  fn : ∀ o, wr.frozen? ⟨w.heap.size + 1 + 1, o, none⟩ = false
theorem QInv.plus {w wr : World} {N : Nat} (h : QInv w N wr) (x : Ext) : QInv w N (plus wr x) := by
  have hs := h.size
  exact ⟨h.below.trans ((below_plus wr x).mono h.below.size), Nat.le_trans hs (size_plus wr x), (cell_plus wr x _ 0 (by omega)).trans h.r0, (cell_plus wr x _ 1 (by omega)).trans h.r1, fun o => (frozen_plus wr x _ o (by omega)).trans (h.fr o),
    (cell_plus wr x _ 0 (by omega)).trans h.z0, (cell_plus wr x _ 1 (by omega)).trans h.z1, (cell_plus wr x _ 0 (by omega)).trans h.n0, (cell_plus wr x _ 1 (by omega)).trans h.n1, fun o => (frozen_plus wr x _ o (by omega)).trans (h.fn o)⟩
theorem QInv.alloc {w wr : World} {N : Nat} (h : QInv w N wr) (x : Obj) : QInv w N (wr.alloc x) := by
  have hs := h.size
  exact ⟨h.below.alloc h.below.size _, by simp; omega, (cell_old wr x _ 0 (by omega)).trans h.r0, (cell_old wr x _ 1 (by omega)).trans h.r1, fun o => (frozen_old wr x _ o (by omega)).trans (h.fr o),
    (cell_old wr x _ 0 (by omega)).trans h.z0, (cell_old wr x _ 1 (by omega)).trans h.z1, (cell_old wr x _ 0 (by omega)).trans h.n0, (cell_old wr x _ 1 (by omega)).trans h.n1, fun o => (frozen_old wr x _ o (by omega)).trans (h.fn o)⟩
theorem QInv.set {w wr : World} {N : Nat} (h : QInv w N wr) (b o : Nat) (v : Value) (hb : w.heap.size + 1 + 1 < b) : QInv w N (wr.setCell ⟨b, o, none⟩ v) := by
  refine ⟨h.below.setCell (by show w.heap.size ≤ b; omega) _, by have := h.size; simp [World.setCell]; omega, ?_, ?_, fun o => by rw [World.frozen?_setCell]; exact h.fr o, ?_, ?_, ?_, ?_, fun o => by rw [World.frozen?_setCell]; exact h.fn o⟩
  · rw [World.cell?_setCell_other _ _ _ _ (fun e => by have := congrArg Addr.block e; simp at this; omega)]; exact h.r0
  · rw [World.cell?_setCell_other _ _ _ _ (fun e => by have := congrArg Addr.block e; simp at this; omega)]; exact h.r1
  · rw [World.cell?_setCell_other _ _ _ _ (fun e => by have := congrArg Addr.block e; simp at this; omega)]; exact h.z0
  · rw [World.cell?_setCell_other _ _ _ _ (fun e => by have := congrArg Addr.block e; simp at this; omega)]; exact h.z1
  · rw [World.cell?_setCell_other _ _ _ _ (fun e => by have := congrArg Addr.block e; simp at this; omega)]; exact h.n0
  · rw [World.cell?_setCell_other _ _ _ _ (fun e => by have := congrArg Addr.block e; simp at this; omega)]; exact h.n1
theorem QInv.put {w wr : World} {N : Nat} (h : QInv w N wr) (M : Nat) : QInv w M ((wr.setCell ⟨w.heap.size + 1 + 1, 0, none⟩ (.int .u64 (hi M))).setCell ⟨w.heap.size + 1 + 1, 1, none⟩ (.int .u64 (lo M))) := by
  refine ⟨(h.below.setCell (by show w.heap.size ≤ w.heap.size + 1 + 1; omega) _).setCell (by show w.heap.size ≤ w.heap.size + 1 + 1; omega) _, by have := h.size; simp [World.setCell]; omega, ?_, ?_, fun o => by rw [World.frozen?_setCell, World.frozen?_setCell]; exact h.fr o, ?_, ?_, ?_, ?_, fun o => by rw [World.frozen?_setCell, World.frozen?_setCell]; exact h.fn o⟩
  · rw [World.cell?_setCell_other _ _ _ _ (by simp), World.cell?_setCell_other _ _ _ _ (by simp)]; exact h.r0
  · rw [World.cell?_setCell_other _ _ _ _ (by simp), World.cell?_setCell_other _ _ _ _ (by simp)]; exact h.r1
  · rw [World.cell?_setCell_other _ _ _ _ (by simp), World.cell?_setCell_other _ _ _ _ (by simp)]; exact h.z0
  · rw [World.cell?_setCell_other _ _ _ _ (by simp), World.cell?_setCell_other _ _ _ _ (by simp)]; exact h.z1
  · rw [World.cell?_setCell_other _ _ _ _ (by simp)]; exact World.cell?_setCell_same _ _ _ h.n0
  · refine World.cell?_setCell_same _ _ _ (u := .int .u64 (lo N)) ?_
    rw [World.cell?_setCell_other _ _ _ _ (by simp)]; exact h.n1
structure AInv (w : World) (N ab A : Nat) (wr : World) : Prop where
  q : QInv w N wr
  le : w.heap.size + 1 + 1 < ab
  lt : ab < wr.heap.size
  a0 : wr.cell? ⟨ab, 0, none⟩ = some (.int .u64 (hi A))
  a1 : wr.cell? ⟨ab, 1, none⟩ = some (.int .u64 (lo A))
  fa : ∀ o, wr.frozen? ⟨ab, o, none⟩ = false
theorem AInv.start {w wr : World} {N : Nat} (h : QInv w N wr) (A : Nat) (T : TypeId) : AInv w N wr.heap.size A (wr.alloc (.cells #[.int .u64 (hi A), .int .u64 (lo A)] T)) :=
  ⟨h.alloc _, by have := h.size; omega, by simp, cell_new wr _ T _ 0 rfl, cell_new wr _ T _ 1 rfl, fun o => frozen_new wr _ T _ o rfl⟩
theorem AInv.plus {w wr : World} {N ab A : Nat} (h : AInv w N ab A wr) (x : Ext) : AInv w N ab A (plus wr x) :=
  ⟨h.q.plus x, h.le, Nat.lt_of_lt_of_le h.lt (size_plus wr x), (cell_plus wr x _ 0 h.lt).trans h.a0, (cell_plus wr x _ 1 h.lt).trans h.a1, fun o => (frozen_plus wr x _ o h.lt).trans (h.fa o)⟩
theorem AInv.put {w wr : World} {N ab A : Nat} (h : AInv w N ab A wr) (M : Nat) : AInv w N ab M ((wr.setCell ⟨ab, 0, none⟩ (.int .u64 (hi M))).setCell ⟨ab, 1, none⟩ (.int .u64 (lo M))) := by
  refine ⟨(h.q.set ab 0 _ h.le).set ab 1 _ h.le, h.le, by have := h.lt; simp [World.setCell]; omega, ?_, ?_, fun o => by rw [World.frozen?_setCell, World.frozen?_setCell]; exact h.fa o⟩
  · rw [World.cell?_setCell_other _ _ _ _ (by simp)]; exact World.cell?_setCell_same _ _ _ h.a0
  · refine World.cell?_setCell_same _ _ _ (u := .int .u64 (lo A)) ?_
    rw [World.cell?_setCell_other _ _ _ _ (by simp)]; exact h.a1
theorem rdig_bad {c b : Nat} (h : ¬ digV (c : Int) b < b) : rdig c b = 99 := by unfold rdig; rw [if_neg h]
theorem rdig_good {c b : Nat} (h : digV (c : Int) b < b) (h0 : 0 ≤ digV (c : Int) b) : rdig c b = ((digV (c : Int) b).toNat : Int) := by unfold rdig; rw [if_pos h]; omega
theorem nv_zero : nv 0 = .agg #[.int .u64 0, .int .u64 0] := rfl
theorem QInv.start (w : World) (T U X : TypeId) : QInv w 0 (((w.alloc (.cells #[.int .u64 0, .int .u64 0] T)).alloc (.cells #[.int .u64 0, .int .u64 0] U)).alloc (.cells #[.int .u64 0, .int .u64 0] X)) := by
  obtain ⟨W, hW, hB, hz, ca, cb, cr, fa, fb, fr⟩ := box3 w #[.int .u64 0, .int .u64 0] #[.int .u64 0, .int .u64 0] #[.int .u64 0, .int .u64 0] T U X
  rw [← hW, ← plus_self W]
  refine ⟨hB.trans ((below_plus W _).mono hB.size), Nat.le_trans (by omega) (size_plus W _), ca 0 (some (.int .u64 0)) rfl _, ca 1 (some (.int .u64 0)) rfl _, fa _, cb 0 (some (.int .u64 0)) rfl _, cb 1 (some (.int .u64 0)) rfl _, cr 0 (some (.int .u64 0)) rfl _, cr 1 (some (.int .u64 0)) rfl _, fr _⟩
theorem pre_eq (s : ByteArray) : ((s.extract 0 2).toList == [48, 120]) = Lib.hasPrefix s.data.toList [48, 120] := by
  rw [Lib.toList_data, Lib.extract_data]
  unfold Lib.hasPrefix
  rw [Bool.eq_iff_iff, beq_iff_eq, List.isPrefixOf_iff_prefix, List.prefix_iff_eq_take]
  simp only [List.drop_zero, List.length_cons, List.length_nil]
  exact eq_comm
theorem pre_no (s : ByteArray) (h : 1 < s.size → ((s.extract 0 2).toList == [48, 120]) = false) : parseS s = parseR 10 s.data.toList := by
  unfold parseS
  by_cases h1 : 1 < s.size
  · rw [← pre_eq, h h1, if_neg (by simp)]
  · rw [if_neg]
    intro hp
    unfold Lib.hasPrefix at hp
    have := (List.isPrefixOf_iff_prefix.1 hp).length_le
    have e : s.data.toList.length = s.size := by simp
    simp only [List.length_cons, List.length_nil] at this
    omega
theorem pre_yes (s : ByteArray) (h : ((s.extract 0 2).toList == [48, 120]) = true) : parseS s = parseR 16 (s.extract 2 s.size).data.toList ∧ (s.extract 2 s.size).size ≤ s.size := by
  have hp := (pre_eq s).symm.trans h
  refine ⟨?_, by simp⟩
  have e : (s.data.toList.drop 2).length ≤ s.size - 2 := by simp
  unfold parseS Lib.trimPrefix
  rw [if_pos hp, if_pos hp, Lib.extract_data, List.take_of_length_le e]
  rfl
set_option maxHeartbeats 8000000 in
theorem ref_parse (s : ByteArray) (hs : s.size ≤ 140737488355328) : Pure Tryz.prog 92 #[.string s] (.tuple #[nv (parseS s).1, .int .i64 (parseS s).2]) := by
  intro w
  obtain ⟨vp, hvp⟩ : ∃ vp, Value.tuple #[nv (parseS s).1, .int .i64 (parseS s).2] = vp := ⟨_, rfl⟩
  rw [hvp]
  by_cases h1 : 1 < s.size
  · cases hq : (s.extract 0 2).toList == [48, 120] with
    | true =>
      have hT := pre_yes s hq
      rw [hT.1] at hvp
      obtain ⟨T, hTd⟩ : ∃ T, s.extract 2 s.size = T := ⟨_, rfl⟩
      rw [hTd] at hT hvp
      have hvp' := Lib.hid hvp
      have hTz := hT.2
      clear hvp hT
      go_enter Tryz.func92, Tryz.ntmps92
      go_wp2
      clear hq hTd
      refine abs_world3 (T := QInv w 0) ?_ (QInv.start w _ _ _)
      intro W hQ
      have hQ' := Lib.hid hQ
      clear hQ
      go_loopw [7, 8] (fun ov iv wr => ∃ k N : Nat, k ≤ T.size ∧ iv = .int .i64 (k : Int) ∧ ov = .bool (ovB (valOf 16 (T.data.toList.take k))) ∧ N < B128 ∧ (¬ 2 ^ 128 ≤ valOf 16 (T.data.toList.take k) → N = valOf 16 (T.data.toList.take k)) ∧ digs 16 (T.data.toList.take k) ∧ QInv w N wr) (fun _ iv _ => T.size - (intOf iv).toNat)
      case atStart => exact ⟨0, 0, Nat.zero_le _, rfl, rfl, by decide, fun _ => rfl, digs_nil _, hQ'.out⟩
      case round =>
        obtain ⟨k, N, hk, rfl, rfl, hN, hv, hds, hP⟩ := hrel
        clear hQ'
        have hP' := Lib.hid hP
        have hv' := Lib.hid hv
        have hN' := Lib.hid hN
        clear hP hv hN
        by_cases hlt : k < T.size
        · have hc256 := (T[k]).toNat_lt
          have hsn := take_snoc T k hlt
          have hbad := digs_at 16 T k hlt
          have hgood := digs_snoc 16 (T.data.toList.take k) (T[k]) hds
          have hval := valOf_snoc 16 (T.data.toList.take k) (T[k])
          rw [← hsn] at hgood hval
          generalize hcd : (T[k]).toNat = c at hc256 hbad hgood hval
          have hD := Lib.hid (fun w => ref_digit1 c 16 hc256 (by decide) w)
          have hgood' := Lib.hid hgood
          have hval' := Lib.hid hval
          clear hsn hgood hval hds
          by_cases hd : digV (c : Int) ((16 : Nat) : Int) < ((16 : Nat) : Int)
          · have hd0 := digV_pos (c : Int) ((16 : Nat) : Int) (by decide)
            have hd16 := digV_lt (c : Int) ((16 : Nat) : Int) hd (by decide)
            rw [rdig_good hd hd0] at hD
            have hgood2 := Lib.hid (hgood'.out hd)
            have hval2 := Lib.hid hval'.out
            generalize (digV (c : Int) ((16 : Nat) : Int)).toNat = d at hD hd16 hval2
            have h99 : ((d : Int) == 99) = false := by simp; omega
            have hO := Lib.hid (ref_of d (by omega))
            have hlt' := Lib.hid hlt
            have hd16' := Lib.hid hd16
            clear hbad hgood' hval' hd hd0 hd16
            go_wp2_with (go_at_call 116; refine (hD.out _).mono ?_; rintro e w' ⟨rfl, rfl⟩)
            refine (hO.out _).mono ?_
            rintro e w' ⟨rfl, x, rfl⟩
            have hP2 := hP'.out.plus x
            generalize plus wr x = W1 at hP2 ⊢
            have hP2' := Lib.hid hP2
            clear hP2 hD hO hP'
            go_wp2
            refine abs_world3 (T := AInv w N W1.heap.size d) ?_ (AInv.start hP2'.out d _)
            intro W2 hA2
            generalize W1.heap.size = ab at hA2 ⊢
            clear hP2'
            generalize ho : ovB (valOf 16 (T.data.toList.take k)) = o0
            have ho' := Lib.hid ho
            have hA2' := Lib.hid hA2
            clear hA2 ho
            go_loopw [7, 12] (fun ov jv wr => ∃ j : Nat, j ≤ 16 ∧ jv = .int .u64 (j : Int) ∧ ov = .bool (o0 || decide (B128 ≤ d + j * N)) ∧ AInv w N ab ((d + j * N) % 2 ^ 128) wr) (fun _ jv _ => 16 - (intOf jv).toNat)
            case atStart => exact ⟨0, Nat.zero_le _, rfl, by rw [Nat.zero_mul, Nat.add_zero, decide_eq_false (by have := hd16'.out; unfold B128; omega), Bool.or_false], by rw [Nat.zero_mul, Nat.add_zero, Nat.mod_eq_of_lt (by have := hd16'.out; omega)]; exact hA2'.out⟩
            case round =>
              obtain ⟨j, hj, rfl, rfl, hA⟩ := hrel
              clear hA2'
              have hA' := Lib.hid hA
              clear hA
              by_cases hjB : j < 16
              · have hAlt : (d + j * N) % 2 ^ 128 < B128 := Nat.mod_lt _ (by decide)
                have hS := ref_sum _ N hAlt hN'.out
                have e2 := sums_over o0 d N j hN'.out
                rw [sums_step] at hS e2
                generalize (d + j * N) % 2 ^ 128 = A at hA' hS e2
                have hput := Lib.hid (fun x => (hA'.out.plus x).put ((d + (j + 1) * N) % 2 ^ 128))
                generalize hA2e : (d + (j + 1) * N) % 2 ^ 128 = A2 at hS e2 hput
                have hA2e' := Lib.hid hA2e
                clear hA2e
                generalize decide (A2 < A) = g at hS e2
                generalize (o0 || decide (B128 ≤ d + j * N)) = o at e2 ⊢
                have a0 := hA'.out.a0
                have a1 := hA'.out.a1
                have n0 := hA'.out.q.n0
                have n1 := hA'.out.q.n1
                have pa0 := fun x => (hA'.out.plus x).a0
                have pa1 := fun x => (hA'.out.plus x).a1
                have pf := fun x => (hA'.out.plus x).fa
                have hS' := Lib.hid hS
                have e2' := Lib.hid e2
                clear hS e2 hA' hAlt
                cases o
                all_goals
                  go_wp2_with (go_at_call 118; refine (hS'.out _).mono ?_; rintro e w' ⟨rfl, x, rfl⟩)
                  go_roundw
                  case rel => exact ⟨j + 1, by omega, by go_num, by rw [← e2'.out]; rfl, by rw [hA2e'.out]; exact hput.out x⟩
                  case measure => simp [intOf]; omega
              · have hj' : j = 16 := by omega
                subst hj'
                have a0 := hA'.out.a0
                have a1 := hA'.out.a1
                have n0 := hA'.out.q.n0
                have n1 := hA'.out.q.n1
                have fn := hA'.out.q.fn
                have e3 := Lib.hid (step_over _ N d 16 (by decide) hv'.out)
                have e4 := Lib.hid (step_val _ N d 16 (by decide) hv'.out)
                have hput := Lib.hid (hA'.out.q.put ((d + 16 * N) % 2 ^ 128))
                have hlt2 := Lib.hid (Nat.mod_lt (d + 16 * N) (show 2 ^ 128 > 0 by decide))
                generalize (d + 16 * N) % 2 ^ 128 = A at a0 a1 hput e4 hlt2
                rw [ho'.out, ← hval2.out] at e3
                rw [← hval2.out] at e4
                generalize (o0 || decide (B128 ≤ d + 16 * N)) = o at e3 ⊢
                clear hA'
                go_wp2
                go_roundw
                case rel => exact ⟨k + 1, A, by have := hlt'.out; omega, by go_num, by rw [e3.out], hlt2.out, e4.out, hgood2.out, hput.out⟩
                case measure => simp [intOf]; have := hlt'.out; omega
          · rw [rdig_bad hd] at hD
            have hR := Lib.hid (parseR_bad 16 _ (hbad hd))
            have z0 := hP'.out.z0
            have z1 := hP'.out.z1
            have r0 := hP'.out.r0
            have r1 := hP'.out.r1
            have fr := hP'.out.fr
            clear hbad hgood' hval' hd
            go_wp2_with (go_at_call 116; refine (hD.out _).mono ?_; rintro e w' ⟨rfl, rfl⟩)
            refine bodyPost_ret (v := .tuple #[.agg #[.int .u64 0, .int .u64 0], .int .i64 4]) (by simp [results, Tryz.results92, go_sem, r0, r1]) rfl ⟨?_, ?_⟩
            · rw [← hvp'.out, hR.out]; rfl
            · exact plus_of_below ((hP'.out.below.setCell (Nat.le_refl _) _).setCell (Nat.le_refl _) _)
        · have hk' : k = T.size := by omega
          subst hk'
          rw [take_all] at hds hv'
          rw [take_all]
          have z0 := hP'.out.z0
          have z1 := hP'.out.z1
          have r0 := hP'.out.r0
          have r1 := hP'.out.r1
          have n0 := hP'.out.n0
          have n1 := hP'.out.n1
          have fr := hP'.out.fr
          by_cases he : T.size = 0
          · have hnil : T.data.toList = [] := List.length_eq_zero_iff.1 (by simpa using he)
            have hR := Lib.hid (parseR_nil 16)
            rw [hnil] at hvp'
            clear hds
            go_wp2
            refine bodyPost_ret (v := .tuple #[.agg #[.int .u64 0, .int .u64 0], .int .i64 4]) (by simp [results, Tryz.results92, go_sem, r0, r1]) rfl ⟨?_, ?_⟩
            · rw [← hvp'.out, hR.out]; rfl
            · exact plus_of_below ((hP'.out.below.setCell (Nat.le_refl _) _).setCell (Nat.le_refl _) _)
          · have hne : T.data.toList ≠ [] := fun h => he (by have := congrArg List.length h; simpa using this)
            have he2 : ((T.size : Int) == 0) = false := by rw [beq_eq_false_iff_ne]; omega
            by_cases ho : 2 ^ 128 ≤ valOf 16 T.data.toList
            · have hR := Lib.hid (parseR_over 16 _ hne hds ho)
              rw [ovB_true ho]
              clear hds ho hne
              go_wp2
              refine bodyPost_ret (v := .tuple #[.agg #[.int .u64 0, .int .u64 0], .int .i64 5]) (by simp [results, Tryz.results92, go_sem, r0, r1]) rfl ⟨?_, ?_⟩
              · rw [← hvp'.out, hR.out]; rfl
              · exact plus_of_below ((hP'.out.below.setCell (Nat.le_refl _) _).setCell (Nat.le_refl _) _)
            · have hR := Lib.hid (parseR_ok 16 _ hne hds ho)
              have hNv := Lib.hid (hv'.out ho)
              rw [ovB_false ho]
              clear hds ho hne
              go_wp2
              refine bodyPost_ret (v := .tuple #[.agg #[.int .u64 (hi N), .int .u64 (lo N)], .int .i64 0]) (by simp [results, Tryz.results92, go_sem, r0, r1]) rfl ⟨?_, ?_⟩
              · rw [← hvp'.out, hR.out, ← hNv.out]
              · exact plus_of_below ((hP'.out.below.setCell (Nat.le_refl _) _).setCell (Nat.le_refl _) _)
    | false =>
      rw [pre_no s (fun _ => hq)] at hvp
      have hvp' := Lib.hid hvp
      clear hvp
      go_enter Tryz.func92, Tryz.ntmps92
      go_wp2
      clear hq
      refine abs_world3 (T := QInv w 0) ?_ (QInv.start w _ _ _)
      intro W hQ
      have hQ' := Lib.hid hQ
      clear hQ
      go_loopw [7, 8] (fun ov iv wr => ∃ k N : Nat, k ≤ s.size ∧ iv = .int .i64 (k : Int) ∧ ov = .bool (ovB (valOf 10 (s.data.toList.take k))) ∧ N < B128 ∧ (¬ 2 ^ 128 ≤ valOf 10 (s.data.toList.take k) → N = valOf 10 (s.data.toList.take k)) ∧ digs 10 (s.data.toList.take k) ∧ QInv w N wr) (fun _ iv _ => s.size - (intOf iv).toNat)
      case atStart => exact ⟨0, 0, Nat.zero_le _, rfl, rfl, by decide, fun _ => rfl, digs_nil _, hQ'.out⟩
      case round =>
        obtain ⟨k, N, hk, rfl, rfl, hN, hv, hds, hP⟩ := hrel
        clear hQ'
        have hP' := Lib.hid hP
        have hv' := Lib.hid hv
        have hN' := Lib.hid hN
        clear hP hv hN
        by_cases hlt : k < s.size
        · have hc256 := (s[k]).toNat_lt
          have hsn := take_snoc s k hlt
          have hbad := digs_at 10 s k hlt
          have hgood := digs_snoc 10 (s.data.toList.take k) (s[k]) hds
          have hval := valOf_snoc 10 (s.data.toList.take k) (s[k])
          rw [← hsn] at hgood hval
          generalize hcd : (s[k]).toNat = c at hc256 hbad hgood hval
          have hD := Lib.hid (fun w => ref_digit1 c 10 hc256 (by decide) w)
          have hgood' := Lib.hid hgood
          have hval' := Lib.hid hval
          clear hsn hgood hval hds
          by_cases hd : digV (c : Int) ((10 : Nat) : Int) < ((10 : Nat) : Int)
          · have hd0 := digV_pos (c : Int) ((10 : Nat) : Int) (by decide)
            have hd16 := digV_lt (c : Int) ((10 : Nat) : Int) hd (by decide)
            rw [rdig_good hd hd0] at hD
            have hgood2 := Lib.hid (hgood'.out hd)
            have hval2 := Lib.hid hval'.out
            generalize (digV (c : Int) ((10 : Nat) : Int)).toNat = d at hD hd16 hval2
            have h99 : ((d : Int) == 99) = false := by simp; omega
            have hO := Lib.hid (ref_of d (by omega))
            have hlt' := Lib.hid hlt
            have hd16' := Lib.hid hd16
            clear hbad hgood' hval' hd hd0 hd16
            go_wp2_with (go_at_call 116; refine (hD.out _).mono ?_; rintro e w' ⟨rfl, rfl⟩)
            refine (hO.out _).mono ?_
            rintro e w' ⟨rfl, x, rfl⟩
            have hP2 := hP'.out.plus x
            generalize plus wr x = W1 at hP2 ⊢
            have hP2' := Lib.hid hP2
            clear hP2 hD hO hP'
            go_wp2
            refine abs_world3 (T := AInv w N W1.heap.size d) ?_ (AInv.start hP2'.out d _)
            intro W2 hA2
            generalize W1.heap.size = ab at hA2 ⊢
            clear hP2'
            generalize ho : ovB (valOf 10 (s.data.toList.take k)) = o0
            have ho' := Lib.hid ho
            have hA2' := Lib.hid hA2
            clear hA2 ho
            go_loopw [7, 12] (fun ov jv wr => ∃ j : Nat, j ≤ 10 ∧ jv = .int .u64 (j : Int) ∧ ov = .bool (o0 || decide (B128 ≤ d + j * N)) ∧ AInv w N ab ((d + j * N) % 2 ^ 128) wr) (fun _ jv _ => 10 - (intOf jv).toNat)
            case atStart => exact ⟨0, Nat.zero_le _, rfl, by rw [Nat.zero_mul, Nat.add_zero, decide_eq_false (by have := hd16'.out; unfold B128; omega), Bool.or_false], by rw [Nat.zero_mul, Nat.add_zero, Nat.mod_eq_of_lt (by have := hd16'.out; omega)]; exact hA2'.out⟩
            case round =>
              obtain ⟨j, hj, rfl, rfl, hA⟩ := hrel
              clear hA2'
              have hA' := Lib.hid hA
              clear hA
              by_cases hjB : j < 10
              · have hAlt : (d + j * N) % 2 ^ 128 < B128 := Nat.mod_lt _ (by decide)
                have hS := ref_sum _ N hAlt hN'.out
                have e2 := sums_over o0 d N j hN'.out
                rw [sums_step] at hS e2
                generalize (d + j * N) % 2 ^ 128 = A at hA' hS e2
                have hput := Lib.hid (fun x => (hA'.out.plus x).put ((d + (j + 1) * N) % 2 ^ 128))
                generalize hA2e : (d + (j + 1) * N) % 2 ^ 128 = A2 at hS e2 hput
                have hA2e' := Lib.hid hA2e
                clear hA2e
                generalize decide (A2 < A) = g at hS e2
                generalize (o0 || decide (B128 ≤ d + j * N)) = o at e2 ⊢
                have a0 := hA'.out.a0
                have a1 := hA'.out.a1
                have n0 := hA'.out.q.n0
                have n1 := hA'.out.q.n1
                have pa0 := fun x => (hA'.out.plus x).a0
                have pa1 := fun x => (hA'.out.plus x).a1
                have pf := fun x => (hA'.out.plus x).fa
                have hS' := Lib.hid hS
                have e2' := Lib.hid e2
                clear hS e2 hA' hAlt
                cases o
                all_goals
                  go_wp2_with (go_at_call 118; refine (hS'.out _).mono ?_; rintro e w' ⟨rfl, x, rfl⟩)
                  go_roundw
                  case rel => exact ⟨j + 1, by omega, by go_num, by rw [← e2'.out]; rfl, by rw [hA2e'.out]; exact hput.out x⟩
                  case measure => simp [intOf]; omega
              · have hj' : j = 10 := by omega
                subst hj'
                have a0 := hA'.out.a0
                have a1 := hA'.out.a1
                have n0 := hA'.out.q.n0
                have n1 := hA'.out.q.n1
                have fn := hA'.out.q.fn
                have e3 := Lib.hid (step_over _ N d 10 (by decide) hv'.out)
                have e4 := Lib.hid (step_val _ N d 10 (by decide) hv'.out)
                have hput := Lib.hid (hA'.out.q.put ((d + 10 * N) % 2 ^ 128))
                have hlt2 := Lib.hid (Nat.mod_lt (d + 10 * N) (show 2 ^ 128 > 0 by decide))
                generalize (d + 10 * N) % 2 ^ 128 = A at a0 a1 hput e4 hlt2
                rw [ho'.out, ← hval2.out] at e3
                rw [← hval2.out] at e4
                generalize (o0 || decide (B128 ≤ d + 10 * N)) = o at e3 ⊢
                clear hA'
                go_wp2
                go_roundw
                case rel => exact ⟨k + 1, A, by have := hlt'.out; omega, by go_num, by rw [e3.out], hlt2.out, e4.out, hgood2.out, hput.out⟩
                case measure => simp [intOf]; have := hlt'.out; omega
          · rw [rdig_bad hd] at hD
            have hR := Lib.hid (parseR_bad 10 _ (hbad hd))
            have z0 := hP'.out.z0
            have z1 := hP'.out.z1
            have r0 := hP'.out.r0
            have r1 := hP'.out.r1
            have fr := hP'.out.fr
            clear hbad hgood' hval' hd
            go_wp2_with (go_at_call 116; refine (hD.out _).mono ?_; rintro e w' ⟨rfl, rfl⟩)
            refine bodyPost_ret (v := .tuple #[.agg #[.int .u64 0, .int .u64 0], .int .i64 4]) (by simp [results, Tryz.results92, go_sem, r0, r1]) rfl ⟨?_, ?_⟩
            · rw [← hvp'.out, hR.out]; rfl
            · exact plus_of_below ((hP'.out.below.setCell (Nat.le_refl _) _).setCell (Nat.le_refl _) _)
        · have hk' : k = s.size := by omega
          subst hk'
          rw [take_all] at hds hv'
          rw [take_all]
          have z0 := hP'.out.z0
          have z1 := hP'.out.z1
          have r0 := hP'.out.r0
          have r1 := hP'.out.r1
          have n0 := hP'.out.n0
          have n1 := hP'.out.n1
          have fr := hP'.out.fr
          by_cases he : s.size = 0
          · exact absurd he (by omega)
          · have hne : s.data.toList ≠ [] := fun h => he (by have := congrArg List.length h; simpa using this)
            have he2 : ((s.size : Int) == 0) = false := by rw [beq_eq_false_iff_ne]; omega
            by_cases ho : 2 ^ 128 ≤ valOf 10 s.data.toList
            · have hR := Lib.hid (parseR_over 10 _ hne hds ho)
              rw [ovB_true ho]
              clear hds ho hne
              go_wp2
              refine bodyPost_ret (v := .tuple #[.agg #[.int .u64 0, .int .u64 0], .int .i64 5]) (by simp [results, Tryz.results92, go_sem, r0, r1]) rfl ⟨?_, ?_⟩
              · rw [← hvp'.out, hR.out]; rfl
              · exact plus_of_below ((hP'.out.below.setCell (Nat.le_refl _) _).setCell (Nat.le_refl _) _)
            · have hR := Lib.hid (parseR_ok 10 _ hne hds ho)
              have hNv := Lib.hid (hv'.out ho)
              rw [ovB_false ho]
              clear hds ho hne
              go_wp2
              refine bodyPost_ret (v := .tuple #[.agg #[.int .u64 (hi N), .int .u64 (lo N)], .int .i64 0]) (by simp [results, Tryz.results92, go_sem, r0, r1]) rfl ⟨?_, ?_⟩
              · rw [← hvp'.out, hR.out, ← hNv.out]
              · exact plus_of_below ((hP'.out.below.setCell (Nat.le_refl _) _).setCell (Nat.le_refl _) _)
  · rw [pre_no s (fun h => absurd h h1)] at hvp
    have hvp' := Lib.hid hvp
    clear hvp
    go_enter Tryz.func92, Tryz.ntmps92
    go_wp2
    refine abs_world3 (T := QInv w 0) ?_ (QInv.start w _ _ _)
    intro W hQ
    have hQ' := Lib.hid hQ
    clear hQ
    go_loopw [7, 8] (fun ov iv wr => ∃ k N : Nat, k ≤ s.size ∧ iv = .int .i64 (k : Int) ∧ ov = .bool (ovB (valOf 10 (s.data.toList.take k))) ∧ N < B128 ∧ (¬ 2 ^ 128 ≤ valOf 10 (s.data.toList.take k) → N = valOf 10 (s.data.toList.take k)) ∧ digs 10 (s.data.toList.take k) ∧ QInv w N wr) (fun _ iv _ => s.size - (intOf iv).toNat)
    case atStart => exact ⟨0, 0, Nat.zero_le _, rfl, rfl, by decide, fun _ => rfl, digs_nil _, hQ'.out⟩
    case round =>
      obtain ⟨k, N, hk, rfl, rfl, hN, hv, hds, hP⟩ := hrel
      clear hQ'
      have hP' := Lib.hid hP
      have hv' := Lib.hid hv
      have hN' := Lib.hid hN
      clear hP hv hN
      by_cases hlt : k < s.size
      · have hc256 := (s[k]).toNat_lt
        have hsn := take_snoc s k hlt
        have hbad := digs_at 10 s k hlt
        have hgood := digs_snoc 10 (s.data.toList.take k) (s[k]) hds
        have hval := valOf_snoc 10 (s.data.toList.take k) (s[k])
        rw [← hsn] at hgood hval
        generalize hcd : (s[k]).toNat = c at hc256 hbad hgood hval
        have hD := Lib.hid (fun w => ref_digit1 c 10 hc256 (by decide) w)
        have hgood' := Lib.hid hgood
        have hval' := Lib.hid hval
        clear hsn hgood hval hds
        by_cases hd : digV (c : Int) ((10 : Nat) : Int) < ((10 : Nat) : Int)
        · have hd0 := digV_pos (c : Int) ((10 : Nat) : Int) (by decide)
          have hd16 := digV_lt (c : Int) ((10 : Nat) : Int) hd (by decide)
          rw [rdig_good hd hd0] at hD
          have hgood2 := Lib.hid (hgood'.out hd)
          have hval2 := Lib.hid hval'.out
          generalize (digV (c : Int) ((10 : Nat) : Int)).toNat = d at hD hd16 hval2
          have h99 : ((d : Int) == 99) = false := by simp; omega
          have hO := Lib.hid (ref_of d (by omega))
          have hlt' := Lib.hid hlt
          have hd16' := Lib.hid hd16
          clear hbad hgood' hval' hd hd0 hd16
          go_wp2_with (go_at_call 116; refine (hD.out _).mono ?_; rintro e w' ⟨rfl, rfl⟩)
          refine (hO.out _).mono ?_
          rintro e w' ⟨rfl, x, rfl⟩
          have hP2 := hP'.out.plus x
          generalize plus wr x = W1 at hP2 ⊢
          have hP2' := Lib.hid hP2
          clear hP2 hD hO hP'
          go_wp2
          refine abs_world3 (T := AInv w N W1.heap.size d) ?_ (AInv.start hP2'.out d _)
          intro W2 hA2
          generalize W1.heap.size = ab at hA2 ⊢
          clear hP2'
          generalize ho : ovB (valOf 10 (s.data.toList.take k)) = o0
          have ho' := Lib.hid ho
          have hA2' := Lib.hid hA2
          clear hA2 ho
          go_loopw [7, 12] (fun ov jv wr => ∃ j : Nat, j ≤ 10 ∧ jv = .int .u64 (j : Int) ∧ ov = .bool (o0 || decide (B128 ≤ d + j * N)) ∧ AInv w N ab ((d + j * N) % 2 ^ 128) wr) (fun _ jv _ => 10 - (intOf jv).toNat)
          case atStart => exact ⟨0, Nat.zero_le _, rfl, by rw [Nat.zero_mul, Nat.add_zero, decide_eq_false (by have := hd16'.out; unfold B128; omega), Bool.or_false], by rw [Nat.zero_mul, Nat.add_zero, Nat.mod_eq_of_lt (by have := hd16'.out; omega)]; exact hA2'.out⟩
          case round =>
            obtain ⟨j, hj, rfl, rfl, hA⟩ := hrel
            clear hA2'
            have hA' := Lib.hid hA
            clear hA
            by_cases hjB : j < 10
            · have hAlt : (d + j * N) % 2 ^ 128 < B128 := Nat.mod_lt _ (by decide)
              have hS := ref_sum _ N hAlt hN'.out
              have e2 := sums_over o0 d N j hN'.out
              rw [sums_step] at hS e2
              generalize (d + j * N) % 2 ^ 128 = A at hA' hS e2
              have hput := Lib.hid (fun x => (hA'.out.plus x).put ((d + (j + 1) * N) % 2 ^ 128))
              generalize hA2e : (d + (j + 1) * N) % 2 ^ 128 = A2 at hS e2 hput
              have hA2e' := Lib.hid hA2e
              clear hA2e
              generalize decide (A2 < A) = g at hS e2
              generalize (o0 || decide (B128 ≤ d + j * N)) = o at e2 ⊢
              have a0 := hA'.out.a0
              have a1 := hA'.out.a1
              have n0 := hA'.out.q.n0
              have n1 := hA'.out.q.n1
              have pa0 := fun x => (hA'.out.plus x).a0
              have pa1 := fun x => (hA'.out.plus x).a1
              have pf := fun x => (hA'.out.plus x).fa
              have hS' := Lib.hid hS
              have e2' := Lib.hid e2
              clear hS e2 hA' hAlt
              cases o
              all_goals
                go_wp2_with (go_at_call 118; refine (hS'.out _).mono ?_; rintro e w' ⟨rfl, x, rfl⟩)
                go_roundw
                case rel => exact ⟨j + 1, by omega, by go_num, by rw [← e2'.out]; rfl, by rw [hA2e'.out]; exact hput.out x⟩
                case measure => simp [intOf]; omega
            · have hj' : j = 10 := by omega
              subst hj'
              have a0 := hA'.out.a0
              have a1 := hA'.out.a1
              have n0 := hA'.out.q.n0
              have n1 := hA'.out.q.n1
              have fn := hA'.out.q.fn
              have e3 := Lib.hid (step_over _ N d 10 (by decide) hv'.out)
              have e4 := Lib.hid (step_val _ N d 10 (by decide) hv'.out)
              have hput := Lib.hid (hA'.out.q.put ((d + 10 * N) % 2 ^ 128))
              have hlt2 := Lib.hid (Nat.mod_lt (d + 10 * N) (show 2 ^ 128 > 0 by decide))
              generalize (d + 10 * N) % 2 ^ 128 = A at a0 a1 hput e4 hlt2
              rw [ho'.out, ← hval2.out] at e3
              rw [← hval2.out] at e4
              generalize (o0 || decide (B128 ≤ d + 10 * N)) = o at e3 ⊢
              clear hA'
              go_wp2
              go_roundw
              case rel => exact ⟨k + 1, A, by have := hlt'.out; omega, by go_num, by rw [e3.out], hlt2.out, e4.out, hgood2.out, hput.out⟩
              case measure => simp [intOf]; have := hlt'.out; omega
        · rw [rdig_bad hd] at hD
          have hR := Lib.hid (parseR_bad 10 _ (hbad hd))
          have z0 := hP'.out.z0
          have z1 := hP'.out.z1
          have r0 := hP'.out.r0
          have r1 := hP'.out.r1
          have fr := hP'.out.fr
          clear hbad hgood' hval' hd
          go_wp2_with (go_at_call 116; refine (hD.out _).mono ?_; rintro e w' ⟨rfl, rfl⟩)
          refine bodyPost_ret (v := .tuple #[.agg #[.int .u64 0, .int .u64 0], .int .i64 4]) (by simp [results, Tryz.results92, go_sem, r0, r1]) rfl ⟨?_, ?_⟩
          · rw [← hvp'.out, hR.out]; rfl
          · exact plus_of_below ((hP'.out.below.setCell (Nat.le_refl _) _).setCell (Nat.le_refl _) _)
      · have hk' : k = s.size := by omega
        subst hk'
        rw [take_all] at hds hv'
        rw [take_all]
        have z0 := hP'.out.z0
        have z1 := hP'.out.z1
        have r0 := hP'.out.r0
        have r1 := hP'.out.r1
        have n0 := hP'.out.n0
        have n1 := hP'.out.n1
        have fr := hP'.out.fr
        by_cases he : s.size = 0
        · have hnil : s.data.toList = [] := List.length_eq_zero_iff.1 (by simpa using he)
          have hR := Lib.hid (parseR_nil 10)
          rw [hnil] at hvp'
          clear hds
          go_wp2
          refine bodyPost_ret (v := .tuple #[.agg #[.int .u64 0, .int .u64 0], .int .i64 4]) (by simp [results, Tryz.results92, go_sem, r0, r1]) rfl ⟨?_, ?_⟩
          · rw [← hvp'.out, hR.out]; rfl
          · exact plus_of_below ((hP'.out.below.setCell (Nat.le_refl _) _).setCell (Nat.le_refl _) _)
        · have hne : s.data.toList ≠ [] := fun h => he (by have := congrArg List.length h; simpa using this)
          have he2 : ((s.size : Int) == 0) = false := by rw [beq_eq_false_iff_ne]; omega
          by_cases ho : 2 ^ 128 ≤ valOf 10 s.data.toList
          · have hR := Lib.hid (parseR_over 10 _ hne hds ho)
            rw [ovB_true ho]
            clear hds ho hne
            go_wp2
            refine bodyPost_ret (v := .tuple #[.agg #[.int .u64 0, .int .u64 0], .int .i64 5]) (by simp [results, Tryz.results92, go_sem, r0, r1]) rfl ⟨?_, ?_⟩
            · rw [← hvp'.out, hR.out]; rfl
            · exact plus_of_below ((hP'.out.below.setCell (Nat.le_refl _) _).setCell (Nat.le_refl _) _)
          · have hR := Lib.hid (parseR_ok 10 _ hne hds ho)
            have hNv := Lib.hid (hv'.out ho)
            rw [ovB_false ho]
            clear hds ho hne
            go_wp2
            refine bodyPost_ret (v := .tuple #[.agg #[.int .u64 (hi N), .int .u64 (lo N)], .int .i64 0]) (by simp [results, Tryz.results92, go_sem, r0, r1]) rfl ⟨?_, ?_⟩
            · rw [← hvp'.out, hR.out, ← hNv.out]
            · exact plus_of_below ((hP'.out.below.setCell (Nat.le_refl _) _).setCell (Nat.le_refl _) _)
end Go.Proofs.YtkffjjlmoojffaaGreatDoor
