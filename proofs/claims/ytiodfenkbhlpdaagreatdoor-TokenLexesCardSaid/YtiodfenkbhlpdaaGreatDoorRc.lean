/-
  WHAT IS PROVED HERE: what the document's calls of layer 1 hand back: masks, cuts, a number turned, in whatever world.
-/
import Derived.Test.YtiodfenkbhlpdaaGreatDoorRb
import Derived.Test.YtiodfenkbhlpdaaGreatDoorNb
namespace Go.Proofs.YtiodfenkbhlpdaaGreatDoor
open Go.RowKit
/-- A loop over one row: the result's block, the row's. -/
structure R1 (w : World) (rb b : Nat) (f : Nat → Bool) (V : World) : Prop where
  below : Below w.heap.size w V
  le : w.heap.size ≤ rb
  lt : rb < b
  blt : b < V.heap.size
  r0 : V.cell? ⟨rb, 0, none⟩ = some (.int .u64 0)
  r1 : V.cell? ⟨rb, 1, none⟩ = some (.int .u64 0)
  fr : ∀ o, V.frozen? ⟨rb, o, none⟩ = false
  row : RowAt V b f
theorem R1.set {w V : World} {rb b : Nat} {f : Nat → Bool} (h : R1 w rb b f V) (k : Nat) (hk : k < 128) (x : Bool) : R1 w rb b (fun i => if i = k then x else f i) (V.setCell ⟨b, k, none⟩ (.bool x)) := by
  have h1 := h.le
  have h2 := h.lt
  exact ⟨h.below.setCell (by show _ ≤ b; omega) _, h.le, h.lt, by simpa [World.setCell] using h.blt, (World.cell?_setCell_other _ _ _ _ (by simp <;> omega)).trans h.r0, (World.cell?_setCell_other _ _ _ _ (by simp <;> omega)).trans h.r1, fun o => by rw [World.frozen?_setCell]; exact h.fr o, h.row.set k hk x⟩
theorem R1.p0 {w V : World} {rb b : Nat} {f : Nat → Bool} (h : R1 w rb b f V) (y : Ext) : (plus V y).cell? ⟨rb, 0, none⟩ = some (.int .u64 0) := (cell_plus V y _ _ (Nat.lt_trans h.lt h.blt)).trans h.r0
theorem R1.p1 {w V : World} {rb b : Nat} {f : Nat → Bool} (h : R1 w rb b f V) (y : Ext) : (plus V y).cell? ⟨rb, 1, none⟩ = some (.int .u64 0) := (cell_plus V y _ _ (Nat.lt_trans h.lt h.blt)).trans h.r1
theorem R1.pf {w V : World} {rb b : Nat} {f : Nat → Bool} (h : R1 w rb b f V) (y : Ext) (o : Nat) : (plus V y).frozen? ⟨rb, o, none⟩ = false := (frozen_plus V y _ _ (Nat.lt_trans h.lt h.blt)).trans (h.fr o)
theorem R1.fin {w V : World} {rb b : Nat} {f : Nat → Bool} (h : R1 w rb b f V) (y : Ext) (u v : Value) : ∃ x, ((plus V y).setCell ⟨rb, 0, none⟩ u).setCell ⟨rb, 1, none⟩ v = plus w x := own_end h.below h.le u v
theorem R1.congr {w V : World} {rb b : Nat} {f g : Nat → Bool} (h : R1 w rb b f V) (e : ∀ i, i < 128 → f i = g i) : R1 w rb b g V := ⟨h.below, h.le, h.lt, h.blt, h.r0, h.r1, h.fr, h.row.congr e⟩
/-- A row is made behind a call: the result's block stands. -/
theorem R1.make {w W : World} {rb : Nat} {x : Ext} (hB : Below w.heap.size w W) (hle : w.heap.size ≤ rb) (hlt : rb < W.heap.size) (r0 : ∀ y, (plus W y).cell? ⟨rb, 0, none⟩ = some (.int .u64 0)) (r1 : ∀ y, (plus W y).cell? ⟨rb, 1, none⟩ = some (.int .u64 0)) (fr : ∀ y o, (plus W y).frozen? ⟨rb, o, none⟩ = false) (f : Nat → Bool) (T : TypeId) :
    R1 w rb (plus W x).heap.size f ((plus W x).alloc (.cells (rowL f).toArray T)) := by
  have hs := size_plus W x
  have h0 := hB.size
  exact ⟨(hB.trans ((below_plus W x).mono h0)).alloc (by omega) _, hle, by omega, by simp, (cell_old _ _ _ 0 (by omega)).trans (r0 x), (cell_old _ _ _ 1 (by omega)).trans (r1 x), fun o => (frozen_old _ _ _ o (by omega)).trans (fr x o), RowAt.new _ f T⟩
/-- Behind k rounds: so many bits are turned into others. -/
def upto (g f : Nat → Bool) (k i : Nat) : Bool := if i < k then g i else f i
theorem upto_zero (g f : Nat → Bool) (i : Nat) : upto g f 0 i = f i := if_neg (by omega)
theorem upto_at (g f : Nat → Bool) (k : Nat) : upto g f k k = f k := if_neg (by omega)
theorem upto_succ (g f : Nat → Bool) (k i : Nat) : (if i = k then g k else upto g f k i) = upto g f (k + 1) i := by
  unfold upto
  by_cases h : i = k
  · subst h; rw [if_pos rfl, if_pos (by omega)]
  · rw [if_neg h]
    by_cases h1 : i < k
    · rw [if_pos h1, if_pos (by omega)]
    · rw [if_neg h1, if_neg (by omega)]
theorem upto_all (g f : Nat → Bool) (i : Nat) (h : i < 128) : upto g f 128 i = g i := if_pos h
/-- The bits below a width. -/
def maskF (k : Int) (i : Nat) : Bool := decide ((i : Int) < k)
theorem mask_num (k : Int) : numF (maskF k) = 2 ^ hw k - 1 := by
  refine numF_eq _ _ (mask_lt k) fun i hi => ?_
  rw [Nat.testBit_two_pow_sub_one]
  unfold maskF hw heldZ
  rw [decide_eq_decide]; omega
/-- The bits below a width, of a number. -/
def cutF (n : Nat) (k : Int) (i : Nat) : Bool := bitF n i && decide ((i : Int) < k)
theorem cut_num (n : Nat) (k : Int) : numF (cutF n k) = n % 2 ^ hw k := by
  refine numF_eq _ _ (mod_hw_lt n k) fun i hi => ?_
  rw [Nat.testBit_mod_two_pow]
  unfold cutF bitF
  rw [Bool.and_comm]
  congr 1
  unfold hw heldZ
  rw [decide_eq_decide]; omega
theorem R1.write {w V : World} {rb b : Nat} {f : Nat → Bool} (h : R1 w rb b f V) (g : Nat → Bool) : R1 w rb b g (V.setCells b 0 (rowL g)) := by
  have h1 := h.le
  have h2 := h.lt
  refine ⟨below_setCells _ _ _ _ _ h.below (by omega), h.le, h.lt, Nat.lt_of_lt_of_le h.blt (below_setCells _ _ _ _ _ (Below.refl 0 V) (Nat.zero_le _)).size, ?_, ?_, fun o => by rw [World.frozen?_setCells]; exact h.fr o, h.row.written g⟩
  · rw [World.cell?_setCells_out _ _ _ _ _ (fun e _ => absurd e (by simp; omega))]; exact h.r0
  · rw [World.cell?_setCells_out _ _ _ _ _ (fun e _ => absurd e (by simp; omega))]; exact h.r1
set_option maxRecDepth 100000 in
set_option maxHeartbeats 1000000 in
theorem ref_cut (n : Nat) (k : Int) (hn : n < B128) : Pure Tryz.prog 52 #[nv n, .int .i64 k] (nv (n % 2 ^ hw k)) := by
  intro w
  have hz := zero_run
  have S := Lib.hid ((ref_num (cutF n k)).eqv (congrArg nv (cut_num n k)))
  have Bt := Lib.hid (ref_bits n hn)
  clear hn
  go_enter Tryz.func52, Tryz.ntmps52
  go_wp2_with fail
  obtain ⟨W, hW, hB, hs, ca, cr, fa, fr⟩ := box2 w _ _ 35 35
  rw [← hW]
  have r0 := cr 0 (some (.int .u64 0)) rfl
  have r1 := cr 1 (some (.int .u64 0)) rfl
  clear ca cr fa hW
  refine (Bt.out W).mono ?_
  rintro e w' ⟨rfl, x, rfl⟩
  have hmk := R1.make (x := x) hB (rb := w.heap.size + 1) (by omega) (by omega) r0 r1 fr (fun _ => false) 95
  have hth := Lib.hid (hmk.row.there' (bitF n))
  have hmk' := Lib.hid (hmk.write (bitF n))
  clear hmk r0 r1 fr hB hs
  go_wp2_with (first | refine wpList_store_mid rfl 95 _ _ rfl (plus W x).heap.size 0 (rowL (bitF n)).toArray rfl rfl hth.out (row_size' _) (row_one _) ?_ | fail)
  generalize hb : (plus W x).heap.size = b at hmk'
  go_loopw [6] (fun kk V => ∃ j : Nat, j ≤ 128 ∧ kk = .int .i64 j ∧ R1 w (w.heap.size + 1) b (upto (cutF n k) (bitF n) j) V) (fun kk _ => 128 - (intOf kk).toNat)
  case atStart => exact ⟨0, Nat.zero_le _, rfl, hmk'.out.congr fun i _ => (upto_zero (cutF n k) (bitF n) i).symm⟩
  case round =>
    obtain ⟨j, hj, rfl, hT⟩ := hrel
    by_cases hlt : j < 128
    · have cj := hT.row.c j hlt
      rw [upto_at] at cj
      have fz := hT.row.fz
      have hS : Hid (∀ x, x = cutF n k j → R1 w (w.heap.size + 1) b (upto (cutF n k) (bitF n) (j + 1)) (wr.setCell ⟨b, j, none⟩ (.bool x))) := fun x hx => by
        subst hx
        exact (hT.set j hlt (cutF n k j)).congr fun i _ => upto_succ (cutF n k) (bitF n) j i
      have hd : Hid (cutF n k j = (bitF n j && decide ((j : Int) < k))) := rfl
      clear hT
      cases hbit : bitF n j <;> rw [hbit] at cj
      · go_wp2
        go_roundw
        case rel => exact ⟨j + 1, by omega, by go_num, hS.out _ (by rw [hd.out, hbit]; rfl)⟩
        case measure => simp [intOf]; omega
      · go_wp2
        go_roundw
        case rel => exact ⟨j + 1, by omega, by go_num, hS.out _ (by rw [hd.out, hbit]; rfl)⟩
        case measure => simp [intOf]; omega
    · obtain rfl : j = 128 := by omega
      have hrow := hT.row.congr (upto_all (cutF n k) _)
      have hrg := Lib.hid hrow.range
      have q0 := hT.p0
      have q1 := hT.p1
      have qf := hT.pf
      have hT' := Lib.hid hT
      clear hT hrow
      go_wp2_with (first | refine wpList_load_mid rfl 95 _ rfl b 0 rfl (rowL (cutF n k)) _ hrg.out Tryz.underlying95 rfl (row_size _) ?_ | fail)
      refine (S.out wr).mono ?_
      rintro e w' ⟨rfl, y, rfl⟩
      go_wp2
      exact bodyPost_ret (v := .agg #[.int .u64 (hi (n % 2 ^ hw k)), .int .u64 (lo (n % 2 ^ hw k))]) (by simp [results, Tryz.results52, go_sem, q0, q1]) rfl ⟨rfl, hT'.out.fin y _ _⟩
end Go.Proofs.YtiodfenkbhlpdaaGreatDoor
