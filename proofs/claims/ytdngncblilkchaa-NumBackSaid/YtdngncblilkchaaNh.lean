/-
  WHAT IS PROVED HERE: a number's sixteen bytes by num.Bytes, and the number of them by num.From, in whatever world.
-/
import Derived.Test.YtdngncblilkchaaRows
import Derived.Test.YtdngncblilkchaaPlain6
import Derived.Test.YtdngncblilkchaaNf
import Derived.WalkKit
import Derived.WalkSpells
import Derived.WalkLawsBesides
namespace Go.Proofs.Ytdngncblilkchaa
open Go.RowKit
theorem BInv.start (w : World) (n : Nat) (T U : TypeId) : BInv w n 0 ((w.alloc (.cells #[.int .u64 (hi n), .int .u64 (lo n)] T)).alloc (.cells #[.int .u8 0, .int .u8 0, .int .u8 0, .int .u8 0, .int .u8 0, .int .u8 0, .int .u8 0, .int .u8 0, .int .u8 0, .int .u8 0, .int .u8 0, .int .u8 0, .int .u8 0, .int .u8 0, .int .u8 0, .int .u8 0] U)) := by
  have h1 : (w.alloc (.cells #[.int .u64 (hi n), .int .u64 (lo n)] T)).heap.size = w.heap.size + 1 := by simp
  refine ⟨((Below.refl _ _).alloc (Nat.le_refl _) _).alloc (by omega) _, by simp, ?_, ?_, ?_, fun i hi => ?_⟩
  · exact (cell_old _ _ _ 0 (by omega)).trans (cell_new w _ T _ 0 rfl)
  · exact (cell_old _ _ _ 1 (by omega)).trans (cell_new w _ T _ 1 rfl)
  · exact fun o => frozen_new _ _ U _ o h1.symm
  · rw [show bcell n 0 i = 0 from if_neg (by omega)]
    refine (cell_new _ _ U _ i h1.symm).trans ?_
    rw [show (#[.int .u8 0, .int .u8 0, .int .u8 0, .int .u8 0, .int .u8 0, .int .u8 0, .int .u8 0, .int .u8 0, .int .u8 0, .int .u8 0, .int .u8 0, .int .u8 0, .int .u8 0, .int .u8 0, .int .u8 0, .int .u8 0] : Array Value) = Array.replicate 16 (.int .u8 0) from rfl, Array.getElem?_replicate, if_pos hi]
theorem held16 (w : World) : Calls Try.prog 44 #[.int .i64 16, .int .i64 16] w fun e w' => e = .returned (.int .i64 16) ∧ w = w' := by
  go_enter Try.func44, Try.ntmps44
  go_wp2
  go_ret
  exact ⟨rfl, rfl⟩
theorem make16 (w : World) : (Instr.makeSlice 41 (.int .i64 16) (.int .i64 16)).run Try.prog w = .ok (.slice (some ⟨w.heap.size, 0, none⟩) 16 16) (w.alloc (.cells #[.int .u8 0, .int .u8 0, .int .u8 0, .int .u8 0, .int .u8 0, .int .u8 0, .int .u8 0, .int .u8 0, .int .u8 0, .int .u8 0, .int .u8 0, .int .u8 0, .int .u8 0, .int .u8 0, .int .u8 0, .int .u8 0] 5)) := by kernel_rfl
set_option maxHeartbeats 1000000 in
theorem bytes16 (n : Nat) (hn : n < B128) (w : World) : Calls Try.prog 42 #[nv n, .int .i64 16] w fun e w' => e = .returned (.slice (some ⟨w.heap.size + 1, 0, none⟩) 16 16) ∧ BInv w n 16 w' := by
  have hn' := Lib.hid hn
  clear hn
  have hmk := make16
  go_enter Try.func42, Try.ntmps42
  go_wp2_with (go_at_call 44; refine (held16 _).mono ?_; rintro e w' ⟨rfl, rfl⟩)
  go_loopw [12] (fun kk wr => ∃ k : Nat, k ≤ 16 ∧ kk = .int .i64 k ∧ BInv w n k wr) (fun kk _ => 16 - (intOf kk).toNat)
  case atStart => exact ⟨0, Nat.zero_le _, rfl, BInv.start w n _ _⟩
  case round =>
    obtain ⟨k, hk, rfl, hT⟩ := hrel
    by_cases hlt : k < 16
    · have hX := fun x => hT.plus x
      have n0 := hT.n0
      have n1 := hT.n1
      have fb := fun x => (hX x).fb
      obtain ⟨p, hp⟩ : ∃ p, p + k = 15 := ⟨15 - k, by omega⟩
      have bp := fun x => (hX x).b p (by omega)
      have S : Hid (Pure Try.prog 30 #[nv n, .int .i64 ((k : Int) * 8)] (.agg #[.int .u64 (hi (n / 2 ^ hw ((k : Int) * 8))), .int .u64 (lo (n / 2 ^ hw ((k : Int) * 8)))])) := num_shr n _ hn'.out
      have HF := field_lo (n / 2 ^ hw ((k : Int) * 8))
      have hb := byte_wrap n k hlt
      have hS := Lib.hid (fun x => (hX x).store hp)
      have e1 : (15 : Int) - (k : Int) = (p : Int) := by omega
      have hX' := Lib.hid hX
      have hp' := Lib.hid hp
      clear hX hT hp
      go_wp2_with fail
      refine (S.out wr).mono ?_
      rintro e w' ⟨rfl, x, rfl⟩
      go_wp2
      go_roundw
      case rel => exact ⟨k + 1, by omega, by go_num, hS.out x⟩
      case measure => simp [intOf]; omega
    · obtain rfl : k = 16 := by omega
      go_wp2
      go_ret
      exact ⟨rfl, hT⟩
theorem FInv.start (w : World) (g n : Nat) (T : TypeId) (hg : g < w.heap.size) (hb : ∀ i, i < 16 → w.cell? ⟨g, i, none⟩ = some (.int .u8 (byteV n (15 - i)))) : FInv w g n 0 ((w.alloc (.cells #[.int .u64 0, .int .u64 0] T)).alloc (.cells #[.int .u64 0, .int .u64 0] T)) := by
  have h1 : (w.alloc (.cells #[.int .u64 0, .int .u64 0] T)).heap.size = w.heap.size + 1 := by simp
  exact ⟨((Below.refl _ _).alloc (Nat.le_refl _) _).alloc (by omega) _, by simp, cell_new _ _ T _ 0 h1.symm, cell_new _ _ T _ 1 h1.symm,
    (cell_old _ _ _ 0 (by omega)).trans (cell_new w _ T _ 0 rfl), (cell_old _ _ _ 1 (by omega)).trans (cell_new w _ T _ 1 rfl),
    fun o => frozen_new _ _ T _ o h1.symm, fun o => (frozen_old _ _ _ o (by omega)).trans (frozen_new w _ T _ o rfl),
    fun i hi => (cell_old _ _ _ i (by omega)).trans ((cell_old _ _ _ i hg).trans (hb i hi))⟩
set_option maxHeartbeats 1000000 in
theorem from16 (n : Nat) (hn : n < B128) (w : World) (g : Nat) (hg : g < w.heap.size) (hb : ∀ i, i < 16 → w.cell? ⟨g, i, none⟩ = some (.int .u8 (byteV n (15 - i)))) :
    Calls Try.prog 41 #[.slice (some ⟨g, 0, none⟩) 16 16] w fun e w' => e = .returned (nv n) ∧ ∃ x, w' = plus w x := by
  have hn' := Lib.hid hn
  have hb' := Lib.hid hb
  have hg' := Lib.hid hg
  clear hn hb
  go_enter Try.func41, Try.ntmps41
  go_wp2
  go_loopw [14] (fun kk wr => ∃ k : Nat, k ≤ 16 ∧ kk = .int .i64 k ∧ FInv w g n (n / 2 ^ (8 * (16 - k))) wr) (fun kk _ => 16 - (intOf kk).toNat)
  case atStart =>
    have e0 : n / 2 ^ (8 * (16 - 0)) = 0 := Nat.div_eq_of_lt (by have := hn'.out; rw [b128] at this; exact this)
    refine ⟨0, Nat.zero_le _, rfl, ?_⟩
    rw [e0]
    exact FInv.start w g n _ hg'.out hb'.out
  case round =>
    obtain ⟨k, hk, rfl, hT⟩ := hrel
    have hX := fun x => hT.plus hg'.out x
    have n0 := hT.n0
    have n1 := hT.n1
    by_cases hlt : k < 16
    · have bk := hT.b k hlt
      have m0 := fun x => (hX x).n0
      have m1 := fun x => (hX x).n1
      have fn := fun x => (hX x).fn
      have bb := byteV_bounds n (15 - k)
      have hN : byteV n (15 - k) = ((n / 2 ^ (8 * (15 - k)) % 256 : Nat) : Int) := rfl
      have hc := cat_byte n k _ hn'.out hlt rfl
      generalize n / 2 ^ (8 * (16 - k)) = N at n0 n1 m0 m1 hT hX hc
      generalize hM : n / 2 ^ (8 * (16 - (k + 1))) = M at hc
      generalize hx : n / 2 ^ (8 * (15 - k)) % 256 = x at hN hc
      have hxl : x < 256 := by rw [← hx]; exact Nat.mod_lt _ (by decide)
      rw [hN] at bk bb
      have S1 : Hid (Pure Try.prog 14 #[.int .u64 (x : Int)] (nv x)) := num_of x (by omega)
      have S2 : Hid (Pure Try.prog 36 #[nv N, nv x, .int .i64 8] (nv M)) := (num_cat N x 8 (by unfold B128; omega)).eqv (by rw [hc])
      have hS := Lib.hid (fun x => (hX x).store hg'.out M)
      have hM' := Lib.hid hM
      clear hX hT hc hM hx hN
      go_wp2
      refine wp_region_own_tail0 5 (by kernel_rfl) (by kernel_rfl) ?_
      simp only [List.take_succ_cons, List.take_zero, List.drop_succ_cons, List.drop_zero]
      repeat (go_big_quiet_step (first | (go_at_call 14; exact S1.out.at _ _) | (go_at_call 36; exact S2.out.at _ _)))
      refine wpQuiet_nil ?_
      rintro _ ⟨y, rfl⟩
      go_wp2
      go_roundw
      case rel => exact ⟨k + 1, by omega, by go_num, by rw [hM'.out]; exact hS.out y⟩
      case measure => simp [intOf]; omega
    · obtain rfl : k = 16 := by omega
      have r0 := hT.r0
      have r1 := hT.r1
      have fr := hT.fr
      have e0 : n / 2 ^ (8 * (16 - 16)) = n := by simp
      rw [e0] at n0 n1
      have hT' := Lib.hid hT
      clear hX hT
      go_wp2
      exact bodyPost_ret (v := .agg #[.int .u64 (hi n), .int .u64 (lo n)]) (by simp [results, Try.results41, go_sem, r0, r1]) rfl ⟨rfl, plus_of_below ((hT'.out.below.setCell (Nat.le_refl _) _).setCell (Nat.le_refl _) _)⟩
/-- Of the world: what was there stands, a block of the call's own is there. -/
structure RB (w : World) (b : Nat) (V : World) : Prop where
  below : Below w.heap.size w V
  le : w.heap.size ≤ b
  lt : b < V.heap.size
theorem RB.on {w V V' : World} {b : Nat} (h : RB w b V) (hV : Below V.heap.size V V') : RB w b V' := ⟨h.below.trans (hV.mono h.below.size), h.le, Nat.lt_of_lt_of_le h.lt hV.size⟩
theorem RB.cell {w V V' : World} {b : Nat} (h : RB w b V) (hV : Below V.heap.size V V') (c o : Nat) (hc : c ≤ b) (v : Value) (e : V.cell? ⟨c, o, none⟩ = some v) : V'.cell? ⟨c, o, none⟩ = some v := (hV.cell (p := ⟨c, o, none⟩) (Nat.lt_of_le_of_lt hc h.lt)).trans e
/-- The bytes are there. -/
structure GB (n g : Nat) (V : World) : Prop where
  lt : g < V.heap.size
  b : ∀ i, i < 16 → V.cell? ⟨g, i, none⟩ = some (.int .u8 (byteV n (15 - i)))
theorem bytesS (n m : Nat) (hn : n < B128) (w V : World) (b : Nat) (h : V.cell? ⟨w.heap.size, 0, none⟩ = some (.int .u64 (hi n)) ∧ V.cell? ⟨w.heap.size, 1, none⟩ = some (.int .u64 (lo n)) ∧ V.cell? ⟨b, 0, none⟩ = some (.int .u64 (hi m)) ∧ V.cell? ⟨b, 1, none⟩ = some (.int .u64 (lo m)) ∧ RB w b V) :
    Calls Try.prog 42 #[nv n, .int .i64 16] V fun e w' => ∃ g, e = .returned (.slice (some ⟨g, 0, none⟩) 16 16) ∧ GB n g w' ∧ (w'.cell? ⟨w.heap.size, 0, none⟩ = some (.int .u64 (hi n)) ∧ w'.cell? ⟨w.heap.size, 1, none⟩ = some (.int .u64 (lo n)) ∧ w'.cell? ⟨b, 0, none⟩ = some (.int .u64 (hi m)) ∧ w'.cell? ⟨b, 1, none⟩ = some (.int .u64 (lo m)) ∧ RB w b w') :=
  (bytes16 n hn V).mono fun e w' ⟨he, hB⟩ => by
    obtain ⟨h0, h1, h2, h3, hR⟩ := h
    refine ⟨V.heap.size + 1, he, ⟨by have := hB.size; omega, fun i hi => ?_⟩, hR.cell hB.below _ _ hR.le _ h0, hR.cell hB.below _ _ hR.le _ h1, hR.cell hB.below _ _ (Nat.le_refl _) _ h2, hR.cell hB.below _ _ (Nat.le_refl _) _ h3, hR.on hB.below⟩
    rw [← bcell_all n i hi]
    exact hB.b i hi
theorem fromS (n m g : Nat) (hn : n < B128) (w V : World) (b : Nat) (hG : GB n g V) (h : V.cell? ⟨w.heap.size, 0, none⟩ = some (.int .u64 (hi n)) ∧ V.cell? ⟨w.heap.size, 1, none⟩ = some (.int .u64 (lo n)) ∧ V.cell? ⟨b, 0, none⟩ = some (.int .u64 (hi m)) ∧ V.cell? ⟨b, 1, none⟩ = some (.int .u64 (lo m)) ∧ RB w b V) :
    Calls Try.prog 41 #[.slice (some ⟨g, 0, none⟩) 16 16] V fun e w' => e = .returned (nv n) ∧ (w'.cell? ⟨w.heap.size, 0, none⟩ = some (.int .u64 (hi n)) ∧ w'.cell? ⟨w.heap.size, 1, none⟩ = some (.int .u64 (lo n)) ∧ w'.cell? ⟨b, 0, none⟩ = some (.int .u64 (hi m)) ∧ w'.cell? ⟨b, 1, none⟩ = some (.int .u64 (lo m)) ∧ RB w b w') :=
  (from16 n hn V g hG.lt hG.b).mono fun e w' ⟨he, x, hx⟩ => by
    obtain ⟨h0, h1, h2, h3, hR⟩ := h
    subst hx
    have hB := below_plus V x
    exact ⟨he, hR.cell hB _ _ hR.le _ h0, hR.cell hB _ _ hR.le _ h1, hR.cell hB _ _ (Nat.le_refl _) _ h2, hR.cell hB _ _ (Nat.le_refl _) _ h3, hR.on hB⟩
end Go.Proofs.Ytdngncblilkchaa
