/-
  WHAT IS PROVED HERE: a part of the proof of the claim's theorem: RR.
-/
import Derived.Test.YtkffjjlmoojffaaGreatDoorM1
import Derived.Test.YtkffjjlmoojffaaGreatDoorM4
import Derived.Test.YtkffjjlmoojffaaGreatDoorRows
import Derived.WalkKit
import Derived.Deep.MidRow
import Derived.WalkSpells
import Derived.WalkLawsBesides
import Derived.OrdersHeld
set_option linter.all false
namespace Go.Proofs.YtkffjjlmoojffaaGreatDoor
open Go.RowKit
def rowL (f : Nat → Bool) : List Value := (List.range 128).map fun i => .bool (f i)
abbrev rowV (f : Nat → Bool) : Value := .agg (rowL f).toArray
theorem rowL_length (f : Nat → Bool) : (rowL f).length = 128 := by simp [rowL]
theorem rowL_get (f : Nat → Bool) (i : Nat) (h : i < 128) : (rowL f)[i]? = some (.bool (f i)) := by simp [rowL, h]
structure BitsAt (V : World) (b : Nat) (f : Nat → Bool) : Prop where
  c : ∀ i, i < 128 → V.cell? ⟨b, i, none⟩ = some (.bool (f i))
  fz : ∀ o, V.frozen? ⟨b, o, none⟩ = false
theorem BitsAt.range {V : World} {b : Nat} {f : Nat → Bool} (h : BitsAt V b f) : V.rangeAt b 0 (rowL f) := by
  intro j v hv
  have hj : j < 128 := by have := (List.getElem?_eq_some_iff.1 hv).1; rwa [rowL_length] at this
  rw [rowL_get f j hj] at hv
  rw [← Option.some.inj hv, Nat.zero_add]
  exact h.c j hj
theorem BitsAt.there {V : World} {b : Nat} {f : Nat → Bool} (h : BitsAt V b f) : V.there b 0 128 := fun j hj => by
  rw [Nat.zero_add]
  exact ⟨by rw [h.c j hj]; rfl, h.fz j⟩
theorem BitsAt.congr {V : World} {b : Nat} {f g : Nat → Bool} (h : BitsAt V b f) (e : ∀ i, i < 128 → f i = g i) : BitsAt V b g := ⟨fun i hi => by rw [← e i hi]; exact h.c i hi, h.fz⟩
theorem row_size (f : Nat → Bool) : (Tryz.prog.info? 180).map (·.size) = some (rowL f).length := by rw [rowL_length]; kernel_rfl
theorem row_size' (f : Nat → Bool) : (Tryz.prog.info? 180).map (·.size) = some (rowL f).toArray.size := by rw [List.size_toArray, rowL_length]; kernel_rfl
theorem row_one (f : Nat → Bool) : (rowL f).toArray.all (·.oneCell') = true := all_oneCell_toArray (fun v hv => by
  unfold rowL at hv
  obtain ⟨i, _, rfl⟩ := List.mem_map.1 hv
  rfl)
theorem BitsAt.there' {V : World} {b : Nat} {f : Nat → Bool} (h : BitsAt V b f) (g : Nat → Bool) : V.there b 0 (rowL g).toArray.size := by rw [List.size_toArray, rowL_length]; exact h.there
theorem BitsAt.loadVar {V : World} {b : Nat} {f : Nat → Bool} (h : BitsAt V b f) : (loadVar 180 ⟨b, 0, none⟩).run Tryz.prog V = .ok (rowV f) V :=
  run_loadVar_mid V b 0 180 (rowL f) _ h.range Tryz.underlying180 rfl (by rw [rowL_length]; kernel_rfl)
theorem BitsAt.written {V : World} {b : Nat} {g : Nat → Bool} (h : BitsAt V b g) (f : Nat → Bool) : BitsAt (V.setCells b 0 (rowL f)) b f := by
  refine ⟨fun i hi => ?_, fun o => ?_⟩
  · have := World.rangeAt_setCells_same V b 0 (rowL f) (by rw [rowL_length]; exact h.there) i (.bool (f i)) (rowL_get f i hi)
    rwa [Nat.zero_add] at this
  · rw [World.frozen?_setCells]; exact h.fz o
theorem BitsAt.below {V V' : World} {b B : Nat} {f : Nat → Bool} (h : BitsAt V b f) (hV : Below B V V') (hb : b < B) : BitsAt V' b f :=
  ⟨fun i hi => (hV.cell (p := ⟨b, i, none⟩) hb).trans (h.c i hi), fun o => (hV.frozen (p := ⟨b, o, none⟩) hb).trans (h.fz o)⟩
theorem BitsAt.plus {V : World} {b : Nat} {f : Nat → Bool} (h : BitsAt V b f) (hb : b < V.heap.size) (x : Ext) : BitsAt (plus V x) b f := h.below (below_plus V x) hb
theorem BitsAt.other {V : World} {b : Nat} {f : Nat → Bool} (h : BitsAt V b f) (a : Addr) (ha : a.block ≠ b) (v : Value) : BitsAt (V.setCell a v) b f :=
  ⟨fun i hi => (World.cell?_setCell_other _ _ _ _ (fun e => ha (by rw [e]))).trans (h.c i hi), fun o => by rw [World.frozen?_setCell]; exact h.fz o⟩
theorem BitsAt.set {V : World} {b : Nat} {f : Nat → Bool} (h : BitsAt V b f) (k : Nat) (hk : k < 128) (x : Bool) : BitsAt (V.setCell ⟨b, k, none⟩ (.bool x)) b (fun i => if i = k then x else f i) := by
  refine ⟨fun i hi => ?_, fun o => by rw [World.frozen?_setCell]; exact h.fz o⟩
  by_cases e : i = k
  · subst e
    rw [if_pos rfl]
    exact World.cell?_setCell_same _ _ _ (h.c i hi)
  · rw [if_neg e, World.cell?_setCell_other _ _ _ _ (by intro h; injection h with _ h2; omega)]
    exact h.c i hi
theorem BitsAt.new (w : World) (f : Nat → Bool) (T : TypeId) : BitsAt (w.alloc (.cells (rowL f).toArray T)) w.heap.size f :=
  ⟨fun i hi => (cell_new w _ T _ i rfl).trans (by simpa using rowL_get f i hi), fun o => frozen_new w _ T _ o rfl⟩
theorem BitsAt.old {V : World} {b : Nat} {f : Nat → Bool} (h : BitsAt V b f) (hb : b < V.heap.size) (o : Obj) : BitsAt (V.alloc o) b f := h.below ((Below.refl _ _).alloc (Nat.le_refl _) o) hb
theorem below_setCells {B : Nat} : ∀ (vs : List Value) (o : Nat) (a w : World) (b : Nat), Below B a w → B ≤ b → Below B a (w.setCells b o vs)
  | [], _, _, _, _, h, _ => h
  | v :: r, o, a, w, b, h, hb => by
    rw [World.setCells]
    exact below_setCells r (o + 1) a _ b (h.setCell hb v) hb
theorem box_run (f : Nat → Bool) (w : World) : (Instr.box 180 (rowV f)).run Tryz.prog w = .ok (.pointer (some ⟨w.heap.size, 0, none⟩)) (w.alloc (.cells (rowL f).toArray 180)) := by
  kernel_rfl
theorem results_one {P : Program} {fn : Func} {p : Tmp} {ty : TypeId} (h : fn.results = #[.cell p ty]) (tmps : Array Value) (w : World) (a : Addr) (ha : tmps.getD p undef = .pointer (some a)) (v : Value) (hv : (loadVar ty a).run P w = .ok v w) :
    (results fn tmps).run P w = .ok v w := by
  have ha' : tmps[p]?.getD undef = .pointer (some a) := by simpa using ha
  simp only [results, h]
  simp [ha', asAddr, hv]
end Go.Proofs.YtkffjjlmoojffaaGreatDoor
namespace Go.Proofs.YtkffjjlmoojffaaGreatDoor
open Go.RowKit
theorem zero_run (w : World) : (zeroValue 180).run Tryz.prog w = .ok (rowV fun _ => false) w := by kernel_rfl
def bitF (n i : Nat) : Bool := n.testBit i
theorem lo_bit (n k : Nat) (hk : k < 64) : (((n % 2 ^ 64 / 2 ^ k : Nat) : Int) % 2 == 1) = bitF n k := by
  unfold bitF
  rw [Nat.testBit_eq_decide_div_mod_eq]
  have h : n % 2 ^ 64 / 2 ^ k % 2 = n / 2 ^ k % 2 := by
    have e1 := Nat.testBit_mod_two_pow n 64 k
    rw [Nat.testBit_eq_decide_div_mod_eq, Nat.testBit_eq_decide_div_mod_eq, decide_eq_true hk, Bool.true_and, decide_eq_decide] at e1
    omega
  rw [← h, Bool.eq_iff_iff, beq_iff_eq, decide_eq_true_eq]
  omega
theorem hi_bit (n k : Nat) : (((n / 2 ^ 64 / 2 ^ k : Nat) : Int) % 2 == 1) = bitF n (64 + k) := by
  unfold bitF
  rw [Nat.testBit_eq_decide_div_mod_eq, Nat.pow_add, ← Nat.div_div_eq_div_mul, Bool.eq_iff_iff, beq_iff_eq, decide_eq_true_eq]
  omega
theorem half (a k : Nat) : ((a / 2 ^ k : Nat) : Int) / 2 = ((a / 2 ^ (k + 1) : Nat) : Int) := by rw [Nat.pow_succ, ← Nat.div_div_eq_div_mul]; rfl
def bitsF (n k i : Nat) : Bool := (decide (i < k) || (decide (64 ≤ i) && decide (i < 64 + k))) && bitF n i
theorem bitsF_all (n i : Nat) (h : i < 128) : bitsF n 64 i = bitF n i := by
  unfold bitsF
  by_cases h1 : i < 64
  · simp [h1]
  · simp [h1, h, show 64 ≤ i by omega]
theorem bitsF_zero (n i : Nat) : bitsF n 0 i = false := by
  unfold bitsF
  by_cases h1 : 64 ≤ i
  · simp; omega
  · simp [h1]
theorem bitsF_succ (n k i : Nat) (hk : k < 64) : (if i = 64 + k then bitF n (64 + k) else if i = k then bitF n k else bitsF n k i) = bitsF n (k + 1) i := by
  unfold bitsF
  by_cases h1 : i = 64 + k
  · subst h1; rw [if_pos rfl]; simp
  · rw [if_neg h1]
    by_cases h2 : i = k
    · subst h2; rw [if_pos rfl]; simp
    · rw [if_neg h2]
      congr 1
      rw [Bool.eq_iff_iff]
      simp only [Bool.or_eq_true, Bool.and_eq_true, decide_eq_true_eq]
      omega
structure BitsInv (w : World) (n k : Nat) (V : World) : Prop where
  below : Below w.heap.size w V
  size : w.heap.size + 1 + 1 + 1 ≤ V.heap.size
  n0 : V.cell? ⟨w.heap.size, 0, none⟩ = some (.int .u64 ((n / 2 ^ 64 / 2 ^ k : Nat) : Int))
  n1 : V.cell? ⟨w.heap.size, 1, none⟩ = some (.int .u64 ((n % 2 ^ 64 / 2 ^ k : Nat) : Int))
  fn : ∀ o, V.frozen? ⟨w.heap.size, o, none⟩ = false
  res : BitsAt V (w.heap.size + 1) fun _ => false
  row : BitsAt V (w.heap.size + 1 + 1) (bitsF n k)
theorem BitsInv.start (w : World) (n : Nat) (T : TypeId) : BitsInv w n 0 (((w.alloc (.cells #[.int .u64 (hi n), .int .u64 (lo n)] T)).alloc (.cells (rowL fun _ => false).toArray 180)).alloc (.cells (rowL fun _ => false).toArray 180)) := by
  have h1 : (w.alloc (.cells #[.int .u64 (hi n), .int .u64 (lo n)] T)).heap.size = w.heap.size + 1 := by simp
  have h2 : ((w.alloc (.cells #[.int .u64 (hi n), .int .u64 (lo n)] T)).alloc (.cells (rowL fun _ => false).toArray 180)).heap.size = w.heap.size + 1 + 1 := by simp
  refine ⟨(((Below.refl _ _).alloc (Nat.le_refl _) _).alloc (by omega) _).alloc (by omega) _, by simp, ?_, ?_, ?_, ?_, ?_⟩
  · rw [Nat.pow_zero, Nat.div_one]; exact (cell_old _ _ _ 0 (by omega)).trans ((cell_old _ _ _ 0 (by omega)).trans (cell_new w _ T _ 0 rfl))
  · rw [Nat.pow_zero, Nat.div_one]; exact (cell_old _ _ _ 1 (by omega)).trans ((cell_old _ _ _ 1 (by omega)).trans (cell_new w _ T _ 1 rfl))
  · exact fun o => (frozen_old _ _ _ o (by omega)).trans ((frozen_old _ _ _ o (by omega)).trans (frozen_new w _ T _ o rfl))
  · have := (BitsAt.new (w.alloc (.cells #[.int .u64 (hi n), .int .u64 (lo n)] T)) (fun _ => false) 180).old (by simp) (.cells (rowL fun _ => false).toArray 180)
    rwa [h1] at this
  · have := BitsAt.new ((w.alloc (.cells #[.int .u64 (hi n), .int .u64 (lo n)] T)).alloc (.cells (rowL fun _ => false).toArray 180)) (fun _ => false) 180
    rw [h2] at this
    exact this.congr fun i _ => (bitsF_zero n i).symm
theorem BitsInv.step {w V : World} {n k : Nat} (h : BitsInv w n k V) (hk : k < 64) (N M : Int) (hN : N = ((n / 2 ^ 64 / 2 ^ (k + 1) : Nat) : Int)) (hM : M = ((n % 2 ^ 64 / 2 ^ (k + 1) : Nat) : Int)) :
    BitsInv w n (k + 1) ((((V.setCell ⟨w.heap.size + 1 + 1, k, none⟩ (.bool (bitF n k))).setCell ⟨w.heap.size + 1 + 1, 64 + k, none⟩ (.bool (bitF n (64 + k)))).setCell ⟨w.heap.size, 1, none⟩ (.int .u64 M)).setCell ⟨w.heap.size, 0, none⟩ (.int .u64 N)) := by
  subst hN hM
  refine ⟨(((h.below.setCell (Nat.le_add_right _ 2) _).setCell (Nat.le_add_right _ 2) _).setCell (Nat.le_refl _) _).setCell (Nat.le_refl _) _, by have := h.size; simp [World.setCell]; omega, ?_, ?_, ?_, ?_, ?_⟩
  · refine World.cell?_setCell_same _ _ _ (u := .int .u64 ((n / 2 ^ 64 / 2 ^ k : Nat) : Int)) ?_
    rw [World.cell?_setCell_other _ _ _ _ (by simp), World.cell?_setCell_other _ _ _ _ (by simp), World.cell?_setCell_other _ _ _ _ (by simp)]; exact h.n0
  · rw [World.cell?_setCell_other _ _ _ _ (by simp)]
    refine World.cell?_setCell_same _ _ _ (u := .int .u64 ((n % 2 ^ 64 / 2 ^ k : Nat) : Int)) ?_
    rw [World.cell?_setCell_other _ _ _ _ (by simp), World.cell?_setCell_other _ _ _ _ (by simp)]; exact h.n1
  · intro o; simp only [World.frozen?_setCell]; exact h.fn o
  · exact (((h.res.other _ (by simp) _).other _ (by simp) _).other _ (by simp) _).other _ (by simp) _
  · refine (((((h.row.set k (by omega) _).set (64 + k) (by omega) _).other _ (by simp <;> omega) _).other _ (by simp <;> omega) _)).congr fun i _ => ?_
    exact bitsF_succ n k i hk
set_option maxRecDepth 100000 in
set_option maxHeartbeats 1000000 in
theorem ref_bits (n : Nat) (hn : n < B128) : Pure Tryz.prog 140 #[nv n] (rowV (bitF n)) := by
  intro w
  have hz := zero_run
  have hn' := Lib.hid hn
  clear hn
  go_enter Tryz.func140, Tryz.ntmps140
  go_wp2
  go_loopw [4] (fun kk V => ∃ k : Nat, k ≤ 64 ∧ kk = .int .i64 k ∧ BitsInv w n k V) (fun kk _ => 64 - (intOf kk).toNat)
  case atStart => exact ⟨0, Nat.zero_le _, rfl, BitsInv.start w n _⟩
  case round =>
    obtain ⟨k, hk, rfl, hT⟩ := hrel
    by_cases hlt : k < 64
    · have n0 := hT.n0
      have n1 := hT.n1
      have fn := hT.fn
      have fr := hT.row.fz
      have ck := hT.row.c k (by omega)
      have ck2 := hT.row.c (64 + k) (by omega)
      have hb1 := lo_bit n k hlt
      have hb2 := hi_bit n k
      have hS := Lib.hid (hT.step hlt (((n / 2 ^ 64 / 2 ^ k : Nat) : Int) / 2) (((n % 2 ^ 64 / 2 ^ k : Nat) : Int) / 2) (half _ k) (half _ k))
      have u1 : ((n / 2 ^ 64 / 2 ^ k : Nat) : Int) ≤ 18446744073709551615 := by
        have h1 := hn'.out
        rw [b128] at h1
        have : n / 2 ^ 64 / 2 ^ k ≤ n / 2 ^ 64 := Nat.div_le_self _ _
        omega
      have u2 : ((n % 2 ^ 64 / 2 ^ k : Nat) : Int) ≤ 18446744073709551615 := by
        have : n % 2 ^ 64 / 2 ^ k ≤ n % 2 ^ 64 := Nat.div_le_self _ _
        omega
      generalize n / 2 ^ 64 / 2 ^ k = H at *
      generalize n % 2 ^ 64 / 2 ^ k = L at *
      generalize bitF n k = x1 at *
      generalize bitF n (64 + k) = x2 at *
      clear hT
      go_wp2
      go_roundw
      case rel => exact ⟨k + 1, by omega, by go_num, hS.out⟩
      case measure => simp [intOf]; omega
    · obtain rfl : k = 64 := by omega
      have hrow := hT.row.congr (bitsF_all n)
      have hrg := Lib.hid hrow.range
      have hth := Lib.hid (hT.res.there' (bitF n))
      have hv := (hT.res.written (bitF n)).loadVar
      have hT' := Lib.hid hT
      clear hT hrow
      go_wp2_with (first | refine wpList_load_mid rfl 180 _ rfl (w.heap.size + 1 + 1) 0 rfl (rowL (bitF n)) _ hrg.out Tryz.underlying180 rfl (row_size _) ?_ | refine wpList_store_mid rfl 180 _ _ rfl (w.heap.size + 1) 0 (rowL (bitF n)).toArray rfl rfl hth.out (row_size' _) (row_one _) ?_)
      exact bodyPost_ret (v := rowV (bitF n)) (results_one Tryz.results140 _ _ ⟨w.heap.size + 1, 0, none⟩ rfl _ hv) rfl ⟨rfl, plus_of_below (below_setCells _ _ _ _ _ hT'.out.below (Nat.le_add_right _ 1))⟩
end Go.Proofs.YtkffjjlmoojffaaGreatDoor
namespace Go.Proofs.YtkffjjlmoojffaaGreatDoor
open Go.RowKit
def accF (f : Nat → Bool) (b : Nat) : Nat → Nat
  | 0 => 0
  | k + 1 => 2 * accF f b k + (f (b + 63 - k)).toNat
theorem accF_lt (f : Nat → Bool) (b : Nat) : ∀ k, accF f b k < 2 ^ k
  | 0 => by simp [accF]
  | k + 1 => by
    have := accF_lt f b k
    have h2 : (f (b + 63 - k)).toNat ≤ 1 := by cases f (b + 63 - k) <;> simp
    rw [accF, Nat.pow_succ]; omega
theorem accF_bit (f : Nat → Bool) (b : Nat) : ∀ k i, k ≤ 64 → (accF f b k).testBit i = (decide (i < k) && f (b + (64 - k) + i))
  | 0, i, _ => by simp [accF]
  | k + 1, 0, hk => by
    rw [accF, Nat.testBit_zero]
    cases h : f (b + 63 - k) <;> rw [show b + (64 - (k + 1)) + 0 = b + 63 - k by omega, h] <;> simp
  | k + 1, i + 1, hk => by
    rw [accF, Nat.testBit_succ]
    have : (2 * accF f b k + (f (b + 63 - k)).toNat) / 2 = accF f b k := by
      have h2 : (f (b + 63 - k)).toNat ≤ 1 := by cases f (b + 63 - k) <;> simp
      omega
    rw [this, accF_bit f b k i (by omega), show b + (64 - (k + 1)) + (i + 1) = b + (64 - k) + i by omega]
    simp
def numF (f : Nat → Bool) : Nat := accF f 64 64 * 2 ^ 64 + accF f 0 64
theorem numF_hi (f : Nat → Bool) : hi (numF f) = (accF f 64 64 : Nat) := by
  have h2 := accF_lt f 0 64
  unfold hi numF; omega
theorem numF_lo (f : Nat → Bool) : lo (numF f) = (accF f 0 64 : Nat) := by
  have h2 := accF_lt f 0 64
  unfold lo numF; omega
theorem numF_bit (f : Nat → Bool) (i : Nat) : (numF f).testBit i = (decide (i < 128) && f i) := by
  have h2 := accF_lt f 0 64
  unfold numF
  rw [Nat.mul_comm, Nat.testBit_two_pow_mul_add _ h2]
  split
  · rename_i h
    rw [accF_bit f 0 64 i (by omega), show 0 + (64 - 64) + i = i by omega]
    simp [h, show i < 128 by omega]
  · rename_i h
    rw [accF_bit f 64 64 (i - 64) (by omega), show 64 + (64 - 64) + (i - 64) = i by omega]
    congr 1
    rw [decide_eq_decide]; omega
theorem numF_eq (f : Nat → Bool) (n : Nat) (hn : n < B128) (h : ∀ i, i < 128 → f i = n.testBit i) : numF f = n := by
  apply Nat.eq_of_testBit_eq
  intro i
  rw [numF_bit]
  by_cases hi : i < 128
  · simp [hi, h i hi]
  · rw [b128] at hn
    have : n.testBit i = false := Nat.testBit_lt_two_pow (Nat.lt_of_lt_of_le hn (Nat.pow_le_pow_right (by decide) (by omega)))
    simp [hi, this]
structure N2 (w : World) (f : Nat → Bool) (h l : Int) (V : World) : Prop where
  below : Below w.heap.size w V
  size : w.heap.size + 1 + 1 + 1 ≤ V.heap.size
  n0 : V.cell? ⟨w.heap.size + 1 + 1, 0, none⟩ = some (.int .u64 h)
  n1 : V.cell? ⟨w.heap.size + 1 + 1, 1, none⟩ = some (.int .u64 l)
  r0 : V.cell? ⟨w.heap.size + 1, 0, none⟩ = some (.int .u64 0)
  r1 : V.cell? ⟨w.heap.size + 1, 1, none⟩ = some (.int .u64 0)
  fn : ∀ o, V.frozen? ⟨w.heap.size + 1 + 1, o, none⟩ = false
  fr : ∀ o, V.frozen? ⟨w.heap.size + 1, o, none⟩ = false
  row : BitsAt V w.heap.size f
theorem N2.set0 {w V : World} {f : Nat → Bool} {h l : Int} (H : N2 w f h l V) (v : Int) : N2 w f v l (V.setCell ⟨w.heap.size + 1 + 1, 0, none⟩ (.int .u64 v)) :=
  ⟨H.below.setCell (Nat.le_add_right _ 2) _, by have := H.size; simp [World.setCell]; omega, World.cell?_setCell_same _ _ _ H.n0, (World.cell?_setCell_other _ _ _ _ (by simp)).trans H.n1, (World.cell?_setCell_other _ _ _ _ (by simp)).trans H.r0, (World.cell?_setCell_other _ _ _ _ (by simp)).trans H.r1,
    fun o => by rw [World.frozen?_setCell]; exact H.fn o, fun o => by rw [World.frozen?_setCell]; exact H.fr o, H.row.other _ (by simp <;> omega) _⟩
theorem N2.set1 {w V : World} {f : Nat → Bool} {h l : Int} (H : N2 w f h l V) (v : Int) : N2 w f h v (V.setCell ⟨w.heap.size + 1 + 1, 1, none⟩ (.int .u64 v)) :=
  ⟨H.below.setCell (Nat.le_add_right _ 2) _, by have := H.size; simp [World.setCell]; omega, (World.cell?_setCell_other _ _ _ _ (by simp)).trans H.n0, World.cell?_setCell_same _ _ _ H.n1, (World.cell?_setCell_other _ _ _ _ (by simp)).trans H.r0, (World.cell?_setCell_other _ _ _ _ (by simp)).trans H.r1,
    fun o => by rw [World.frozen?_setCell]; exact H.fn o, fun o => by rw [World.frozen?_setCell]; exact H.fr o, H.row.other _ (by simp <;> omega) _⟩
theorem N2.cast {w V : World} {f : Nat → Bool} {h l h' l' : Int} (H : N2 w f h l V) (e : h = h') (e' : l = l') : N2 w f h' l' V := by subst e e'; exact H
theorem N2.start (w : World) (f : Nat → Bool) (T : TypeId) : N2 w f 0 0 (((w.alloc (.cells (rowL f).toArray 180)).alloc (.cells #[.int .u64 0, .int .u64 0] T)).alloc (.cells #[.int .u64 0, .int .u64 0] T)) := by
  have h1 : (w.alloc (.cells (rowL f).toArray 180)).heap.size = w.heap.size + 1 := by simp
  have h2 : ((w.alloc (.cells (rowL f).toArray 180)).alloc (.cells #[.int .u64 0, .int .u64 0] T)).heap.size = w.heap.size + 1 + 1 := by simp
  exact ⟨(((Below.refl _ _).alloc (Nat.le_refl _) _).alloc (by omega) _).alloc (by omega) _, by simp, cell_new _ _ T _ 0 h2.symm, cell_new _ _ T _ 1 h2.symm,
    (cell_old _ _ _ 0 (by omega)).trans (cell_new _ _ T _ 0 h1.symm), (cell_old _ _ _ 1 (by omega)).trans (cell_new _ _ T _ 1 h1.symm), fun o => frozen_new _ _ T _ o h2.symm, fun o => (frozen_old _ _ _ o (by omega)).trans (frozen_new _ _ T _ o h1.symm),
    ((BitsAt.new w f 180).old (by simp) _).old (by omega) _⟩
set_option maxRecDepth 100000 in
set_option maxHeartbeats 4000000 in
theorem ref_num (f : Nat → Bool) : Pure Tryz.prog 141 #[rowV f] (nv (numF f)) := by
  intro w
  have hb := box_run f
  go_enter Tryz.func141, Tryz.ntmps141
  go_wp2
  go_loopw [4] (fun kk V => ∃ j : Nat, j ≤ 64 ∧ kk = .int .i64 (63 - (j : Int)) ∧ N2 w f ((accF f 64 j : Nat) : Int) ((accF f 0 j : Nat) : Int) V) (fun kk _ => (1 + intOf kk).toNat)
  case atStart => exact ⟨0, Nat.zero_le _, rfl, N2.start w f _⟩
  case round =>
    obtain ⟨j, hj, rfl, hT⟩ := hrel
    by_cases hlt : j < 64
    · obtain ⟨i, hi⟩ : ∃ i : Nat, i + j = 63 := ⟨63 - j, by omega⟩
      have e63 : (63 : Int) - (j : Int) = (i : Int) := by omega
      rw [e63]
      have n0 := hT.n0
      have n1 := hT.n1
      have fn := hT.fn
      have c1 := hT.row.c i (by omega)
      have c2 := hT.row.c (64 + i) (by omega)
      have u0 : ((accF f 64 j : Nat) : Int) ≤ 9223372036854775807 := by
        have := accF_lt f 64 j
        have h2 : 2 ^ j ≤ 2 ^ 63 := Nat.pow_le_pow_right (by decide) (by omega)
        omega
      have u1 : ((accF f 0 j : Nat) : Int) ≤ 9223372036854775807 := by
        have := accF_lt f 0 j
        have h2 : 2 ^ j ≤ 2 ^ 63 := Nat.pow_le_pow_right (by decide) (by omega)
        omega
      have s0 : Hid (accF f 64 (j + 1) = 2 * accF f 64 j + (f (64 + i)).toNat) := by
        show _ = _
        rw [accF, show 64 + 63 - j = 64 + i by omega]
      have s1 : Hid (accF f 0 (j + 1) = 2 * accF f 0 j + (f i).toNat) := by
        show _ = _
        rw [accF, show 0 + 63 - j = i by omega]
      have hi' := Lib.hid hi
      have hib : i ≤ 63 := by omega
      have e63' := Lib.hid e63
      have hT' := Lib.hid hT
      clear hT hi e63
      generalize accF f 64 j = H at *
      generalize accF f 0 j = L at *
      cases hf1 : f i <;> cases hf2 : f (64 + i) <;> rw [hf1] at c1 s1 <;> rw [hf2] at c2 s0 <;> clear hf1 hf2
      · go_wp2
        go_roundw
        case rel =>
          refine ⟨j + 1, by omega, by congr 1; have := hi'.out; omega, ?_⟩
          rw [s0.out, s1.out]
          exact ((hT'.out.set1 _).set0 _).cast (by simp; omega) (by simp; omega)
        case measure => simp [intOf]; omega
      · go_wp2
        go_roundw
        case rel =>
          refine ⟨j + 1, by omega, by congr 1; have := hi'.out; omega, ?_⟩
          rw [s0.out, s1.out]
          exact (((hT'.out.set1 _).set0 _).set0 _).cast (by simp; omega) (by simp; omega)
        case measure => simp [intOf]; omega
      · go_wp2
        go_roundw
        case rel =>
          refine ⟨j + 1, by omega, by congr 1; have := hi'.out; omega, ?_⟩
          rw [s0.out, s1.out]
          exact (((hT'.out.set1 _).set0 _).set1 _).cast (by simp; omega) (by simp; omega)
        case measure => simp [intOf]; omega
      · go_wp2
        go_roundw
        case rel =>
          refine ⟨j + 1, by omega, by congr 1; have := hi'.out; omega, ?_⟩
          rw [s0.out, s1.out]
          exact ((((hT'.out.set1 _).set0 _).set1 _).set0 _).cast (by simp; omega) (by simp; omega)
        case measure => simp [intOf]; omega
    · obtain rfl : j = 64 := by omega
      have n0 := hT.n0
      have n1 := hT.n1
      have r0 := hT.r0
      have r1 := hT.r1
      have fr := hT.fr
      have E : Hid (Value.agg #[.int .u64 ((accF f 64 64 : Nat) : Int), .int .u64 ((accF f 0 64 : Nat) : Int)] = nv (numF f)) := by
        show _ = _
        unfold nv
        rw [numF_hi, numF_lo]
      have hT' := Lib.hid hT
      clear hT hlt hj
      generalize accF f 64 64 = H at *
      generalize accF f 0 64 = L at *
      go_wp2
      exact bodyPost_ret (v := .agg #[.int .u64 (H : Int), .int .u64 (L : Int)]) (by simp [results, Tryz.results141, go_sem, r0, r1]) rfl ⟨congrArg Ending.returned E.out, plus_of_below ((hT'.out.below.setCell (Nat.le_add_right _ 1) _).setCell (Nat.le_add_right _ 1) _)⟩
end Go.Proofs.YtkffjjlmoojffaaGreatDoor
namespace Go.Proofs.YtkffjjlmoojffaaGreatDoor
open Go.RowKit
structure R1 (w : World) (rb b : Nat) (f : Nat → Bool) (V : World) : Prop where
  below : Below w.heap.size w V
  le : w.heap.size ≤ rb
  lt : rb < b
  blt : b < V.heap.size
  r0 : V.cell? ⟨rb, 0, none⟩ = some (.int .u64 0)
  r1 : V.cell? ⟨rb, 1, none⟩ = some (.int .u64 0)
  fr : ∀ o, V.frozen? ⟨rb, o, none⟩ = false
  row : BitsAt V b f
theorem R1.set {w V : World} {rb b : Nat} {f : Nat → Bool} (h : R1 w rb b f V) (k : Nat) (hk : k < 128) (x : Bool) : R1 w rb b (fun i => if i = k then x else f i) (V.setCell ⟨b, k, none⟩ (.bool x)) := by
  have h1 := h.le
  have h2 := h.lt
  exact ⟨h.below.setCell (by show _ ≤ b; omega) _, h.le, h.lt, by simpa [World.setCell] using h.blt, (World.cell?_setCell_other _ _ _ _ (by simp <;> omega)).trans h.r0, (World.cell?_setCell_other _ _ _ _ (by simp <;> omega)).trans h.r1, fun o => by rw [World.frozen?_setCell]; exact h.fr o, h.row.set k hk x⟩
theorem R1.p0 {w V : World} {rb b : Nat} {f : Nat → Bool} (h : R1 w rb b f V) (y : Ext) : (plus V y).cell? ⟨rb, 0, none⟩ = some (.int .u64 0) := (cell_plus V y _ _ (Nat.lt_trans h.lt h.blt)).trans h.r0
theorem R1.p1 {w V : World} {rb b : Nat} {f : Nat → Bool} (h : R1 w rb b f V) (y : Ext) : (plus V y).cell? ⟨rb, 1, none⟩ = some (.int .u64 0) := (cell_plus V y _ _ (Nat.lt_trans h.lt h.blt)).trans h.r1
theorem R1.pf {w V : World} {rb b : Nat} {f : Nat → Bool} (h : R1 w rb b f V) (y : Ext) (o : Nat) : (plus V y).frozen? ⟨rb, o, none⟩ = false := (frozen_plus V y _ _ (Nat.lt_trans h.lt h.blt)).trans (h.fr o)
theorem R1.fin {w V : World} {rb b : Nat} {f : Nat → Bool} (h : R1 w rb b f V) (y : Ext) (u v : Value) : ∃ x, ((plus V y).setCell ⟨rb, 0, none⟩ u).setCell ⟨rb, 1, none⟩ v = plus w x := own_end h.below h.le u v
theorem R1.congr {w V : World} {rb b : Nat} {f g : Nat → Bool} (h : R1 w rb b f V) (e : ∀ i, i < 128 → f i = g i) : R1 w rb b g V := ⟨h.below, h.le, h.lt, h.blt, h.r0, h.r1, h.fr, h.row.congr e⟩
theorem R1.make {w W : World} {rb : Nat} {x : Ext} (hB : Below w.heap.size w W) (hle : w.heap.size ≤ rb) (hlt : rb < W.heap.size) (r0 : ∀ y, (plus W y).cell? ⟨rb, 0, none⟩ = some (.int .u64 0)) (r1 : ∀ y, (plus W y).cell? ⟨rb, 1, none⟩ = some (.int .u64 0)) (fr : ∀ y o, (plus W y).frozen? ⟨rb, o, none⟩ = false) (f : Nat → Bool) (T : TypeId) :
    R1 w rb (plus W x).heap.size f ((plus W x).alloc (.cells (rowL f).toArray T)) := by
  have hs := size_plus W x
  have h0 := hB.size
  exact ⟨(hB.trans ((below_plus W x).mono h0)).alloc (by omega) _, hle, by omega, by simp, (cell_old _ _ _ 0 (by omega)).trans (r0 x), (cell_old _ _ _ 1 (by omega)).trans (r1 x), fun o => (frozen_old _ _ _ o (by omega)).trans (fr x o), BitsAt.new _ f T⟩
def upto (g f : Nat → Bool) (k i : Nat) : Bool := if i < k then g i else f i
theorem upto_zero (g f : Nat → Bool) (i : Nat) : upto g f 0 i = f i := if_neg (by omega)
theorem upto_at (g f : Nat → Bool) (k : Nat) : upto g f k k = f k := if_neg (by omega)
theorem upto_succ (g f : Nat → Bool) (k i : Nat) : (if i = k then g k else upto g f k i) = upto g f (k + 1) i := by
  unfold upto
  by_cases h : i = k
  · subst h; rw [if_pos rfl, if_pos (by omega)]
  · rw [if_neg h]
    by_cases h1 : i < k
    · rw [if_pos h1, if_pos (by omega)]
    · rw [if_neg h1, if_neg (by omega)]
theorem upto_all (g f : Nat → Bool) (i : Nat) (h : i < 128) : upto g f 128 i = g i := if_pos h
def cutF (n : Nat) (k : Int) (i : Nat) : Bool := bitF n i && decide ((i : Int) < k)
theorem cut_num (n : Nat) (k : Int) : numF (cutF n k) = n % 2 ^ hw k := by
  refine numF_eq _ _ (mod_hw_lt n k) fun i hi => ?_
  rw [Nat.testBit_mod_two_pow]
  unfold cutF bitF
  rw [Bool.and_comm]
  congr 1
  unfold hw heldZ
  rw [decide_eq_decide]; omega
theorem R1.write {w V : World} {rb b : Nat} {f : Nat → Bool} (h : R1 w rb b f V) (g : Nat → Bool) : R1 w rb b g (V.setCells b 0 (rowL g)) := by
  have h1 := h.le
  have h2 := h.lt
  refine ⟨below_setCells _ _ _ _ _ h.below (by omega), h.le, h.lt, Nat.lt_of_lt_of_le h.blt (below_setCells _ _ _ _ _ (Below.refl 0 V) (Nat.zero_le _)).size, ?_, ?_, fun o => by rw [World.frozen?_setCells]; exact h.fr o, h.row.written g⟩
  · rw [World.cell?_setCells_out _ _ _ _ _ (fun e _ => absurd e (by simp; omega))]; exact h.r0
  · rw [World.cell?_setCells_out _ _ _ _ _ (fun e _ => absurd e (by simp; omega))]; exact h.r1
set_option maxRecDepth 100000 in
set_option maxHeartbeats 1000000 in
theorem ref_cut (n : Nat) (k : Int) (hn : n < B128) : Pure Tryz.prog 119 #[nv n, .int .i64 k] (nv (n % 2 ^ hw k)) := by
  intro w
  have hz := zero_run
  have S := Lib.hid ((ref_num (cutF n k)).eqv (congrArg nv (cut_num n k)))
  have Bt := Lib.hid (ref_bits n hn)
  clear hn
  go_enter Tryz.func119, Tryz.ntmps119
  go_wp2_with fail
  obtain ⟨W, hW, hB, hs, ca, cr, fa, fr⟩ := box2 w _ _ 58 58
  rw [← hW]
  have r0 := cr 0 (some (.int .u64 0)) rfl
  have r1 := cr 1 (some (.int .u64 0)) rfl
  clear ca cr fa hW
  refine (Bt.out W).mono ?_
  rintro e w' ⟨rfl, x, rfl⟩
  have hmk := R1.make (x := x) hB (rb := w.heap.size + 1) (by omega) (by omega) r0 r1 fr (fun _ => false) 180
  have hth := Lib.hid (hmk.row.there' (bitF n))
  have hmk' := Lib.hid (hmk.write (bitF n))
  clear hmk r0 r1 fr hB hs
  go_wp2_with (first | refine wpList_store_mid rfl 180 _ _ rfl (plus W x).heap.size 0 (rowL (bitF n)).toArray rfl rfl hth.out (row_size' _) (row_one _) ?_ | fail)
  generalize hb : (plus W x).heap.size = b at hmk'
  go_loopw [6] (fun kk V => ∃ j : Nat, j ≤ 128 ∧ kk = .int .i64 j ∧ R1 w (w.heap.size + 1) b (upto (cutF n k) (bitF n) j) V) (fun kk _ => 128 - (intOf kk).toNat)
  case atStart => exact ⟨0, Nat.zero_le _, rfl, hmk'.out.congr fun i _ => (upto_zero (cutF n k) (bitF n) i).symm⟩
  case round =>
    obtain ⟨j, hj, rfl, hT⟩ := hrel
    by_cases hlt : j < 128
    · have cj := hT.row.c j hlt
      rw [upto_at] at cj
      have fz := hT.row.fz
      have hS : Hid (∀ x, x = cutF n k j → R1 w (w.heap.size + 1) b (upto (cutF n k) (bitF n) (j + 1)) (wr.setCell ⟨b, j, none⟩ (.bool x))) := fun x hx => by
        subst hx
        exact (hT.set j hlt (cutF n k j)).congr fun i _ => upto_succ (cutF n k) (bitF n) j i
      have hd : Hid (cutF n k j = (bitF n j && decide ((j : Int) < k))) := rfl
      clear hT
      cases hbit : bitF n j <;> rw [hbit] at cj
      · go_wp2
        go_roundw
        case rel => exact ⟨j + 1, by omega, by go_num, hS.out _ (by rw [hd.out, hbit]; rfl)⟩
        case measure => simp [intOf]; omega
      · go_wp2
        go_roundw
        case rel => exact ⟨j + 1, by omega, by go_num, hS.out _ (by rw [hd.out, hbit]; rfl)⟩
        case measure => simp [intOf]; omega
    · obtain rfl : j = 128 := by omega
      have hrow := hT.row.congr (upto_all (cutF n k) _)
      have hrg := Lib.hid hrow.range
      have q0 := hT.p0
      have q1 := hT.p1
      have qf := hT.pf
      have hT' := Lib.hid hT
      clear hT hrow
      go_wp2_with (first | refine wpList_load_mid rfl 180 _ rfl b 0 rfl (rowL (cutF n k)) _ hrg.out Tryz.underlying180 rfl (row_size _) ?_ | fail)
      refine (S.out wr).mono ?_
      rintro e w' ⟨rfl, y, rfl⟩
      go_wp2
      exact bodyPost_ret (v := .agg #[.int .u64 (hi (n % 2 ^ hw k)), .int .u64 (lo (n % 2 ^ hw k))]) (by simp [results, Tryz.results119, go_sem, q0, q1]) rfl ⟨rfl, hT'.out.fin y _ _⟩
end Go.Proofs.YtkffjjlmoojffaaGreatDoor
namespace Go.Proofs.YtkffjjlmoojffaaGreatDoor
open Go.RowKit
set_option maxHeartbeats 400000 in
theorem ref_of (n : Nat) (hn : n < 18446744073709551616) : Pure Tryz.prog 117 #[.int .u64 (n : Int)] (nv n) := by
  intro w
  have e : Hid (Value.agg #[.int .u64 0, .int .u64 (n : Int)] = nv n) := by
    show _ = _
    unfold nv hi lo
    rw [Nat.div_eq_of_lt hn, Nat.mod_eq_of_lt hn]
    rfl
  clear hn
  go_enter Tryz.func117, Tryz.ntmps117
  go_wp2
  refine bodyPost_ret (v := .agg #[.int .u64 0, .int .u64 (n : Int)]) (by simp [results, Tryz.results117, go_sem]) rfl ⟨congrArg Ending.returned e.out, ?_⟩
  exact plus_of_below ((Below.refl _ _).alloc (Nat.le_refl _) _)
set_option maxHeartbeats 400000 in
theorem ref_fits (n : Nat) (k : Int) (hn : n < B128) : Pure Tryz.prog 93 #[nv n, .int .i64 k] (.bool (decide (n % 2 ^ hw k = n))) := by
  intro w
  have S := Lib.hid (ref_cut n k hn)
  have eqN := eql_nv
  clear hn
  go_enter Tryz.func93, Tryz.ntmps93
  go_wp2
  obtain ⟨W, hW, hB, hs, ca, fa⟩ := box1 w _ 58
  rw [← hW]
  have ca0 := ca 0 (some (.int .u64 (hi n))) rfl
  have ca1 := ca 1 (some (.int .u64 (lo n))) rfl
  clear hW fa ca
  refine wp_region_own0 (by kernel_rfl) (by kernel_rfl) ?_
  repeat (go_big_quiet_step (exact S.out.at _ _))
  refine wpQuiet_nil ?_
  rintro _ ⟨y, rfl⟩
  go_wp2
  go_ret
  exact ⟨rfl, plus_of_below (hB.trans ((below_plus W y).mono hB.size))⟩
end Go.Proofs.YtkffjjlmoojffaaGreatDoor
namespace Go.Proofs.YtkffjjlmoojffaaGreatDoor
open Go.RowKit
structure R2 (w : World) (rb bx b : Nat) (f g : Nat → Bool) (V : World) : Prop where
  one : R1 w rb b g V
  lx : rb < bx
  xb : bx < b
  x : BitsAt V bx f
theorem R2.set {w V : World} {rb bx b : Nat} {f g : Nat → Bool} (h : R2 w rb bx b f g V) (k : Nat) (hk : k < 128) (x : Bool) : R2 w rb bx b f (fun i => if i = k then x else g i) (V.setCell ⟨b, k, none⟩ (.bool x)) := by
  have := h.xb
  exact ⟨h.one.set k hk x, h.lx, h.xb, h.x.other _ (by simp; omega) _⟩
theorem R2.congr {w V : World} {rb bx b : Nat} {f g g' : Nat → Bool} (h : R2 w rb bx b f g V) (e : ∀ i, i < 128 → g i = g' i) : R2 w rb bx b f g' V := ⟨h.one.congr e, h.lx, h.xb, h.x⟩
theorem R2.make {w V : World} {rb bx : Nat} {f : Nat → Bool} (h : R1 w rb bx f V) (T : TypeId) : R2 w rb bx V.heap.size f (fun _ => false) (V.alloc (.cells (rowL fun _ => false).toArray T)) := by
  have h1 := h.lt
  have h2 := h.blt
  have h3 := h.below.size
  exact ⟨⟨h.below.alloc (by omega) _, h.le, by omega, by simp, (cell_old _ _ _ 0 (by omega)).trans h.r0, (cell_old _ _ _ 1 (by omega)).trans h.r1, fun o => (frozen_old _ _ _ o (by omega)).trans (h.fr o), BitsAt.new V _ T⟩, h1, h2, h.row.old h2 _⟩
end Go.Proofs.YtkffjjlmoojffaaGreatDoor
namespace Go.Proofs.YtkffjjlmoojffaaGreatDoor
open Go.RowKit
end Go.Proofs.YtkffjjlmoojffaaGreatDoor
namespace Go.Proofs.YtkffjjlmoojffaaGreatDoor
open Go.RowKit
theorem wpAny_inv {P : Program} {md : Region.Mode} {ops : Array Oper} {Q : Exit → Act → World → Prop} (I : Array Bool → Act → World → Prop)
    (hd : ∀ l a w, I l a w → Region.ready md ops l = [] → Q .normal a w)
    (hs : ∀ l a w i, I l a w → i ∈ Region.ready md ops l → wpOp P ops Q i (I (l.setIfInBounds i true)) a w) :
    ∀ (fuel : Nat) (l : Array Bool) (a : Act) (w : World), l.toList.count false ≤ fuel → I l a w → wpAny P md ops Q fuel l a w := by
  have key : ∀ (l : Array Bool) (j : Nat), j ∈ Region.ready md ops l → ∃ h : j < l.toList.length, l.toList[j] = false := fun l j hj => by
    have h1 := (mem_ready.1 hj).1
    by_cases h : j < l.size
    · exact ⟨by simpa using h, by simpa [Array.getD, h] using h1⟩
    · simp [Array.getD, h] at h1
  intro fuel
  induction fuel with
  | zero =>
    intro l a w hc hI
    have h0 : Region.ready md ops l = [] := by
      refine List.eq_nil_iff_forall_not_mem.2 fun j hj => ?_
      obtain ⟨h, e⟩ := key l j hj
      have h2 : false ∈ l.toList := e ▸ List.getElem_mem h
      have := List.count_pos_iff.2 h2
      omega
    exact ⟨h0, hd l a w hI h0⟩
  | succ n ih =>
    intro l a w hc hI
    refine ⟨hd l a w hI, fun i hi => ?_⟩
    obtain ⟨h, e⟩ := key l i hi
    have h2 : (l.setIfInBounds i true).toList.count false ≤ n := by
      have h3 := List.count_pos_iff.2 (e ▸ List.getElem_mem h : false ∈ l.toList)
      rw [Array.toList_setIfInBounds, List.count_set h, e, if_pos (beq_self_eq_true false), if_neg (by decide)]
      omega
    exact wpOp_mono (fun a' w' h' => ih _ a' w' h2 h') (hs l a w i hI hi)
structure Laid (B : Nat) (V : World) (t : Value) (on wr : Bool) (f : Nat → Bool) : Prop where
  row : on = true → ∃ p, t = .pointer (some ⟨p, 0, none⟩) ∧ B ≤ p ∧ p < V.heap.size ∧ ∃ g, BitsAt V p g ∧ (wr = true → g = f)
  need : wr = true → on = true
structure TwoRows (w W : World) (va vb : Value) (f g : Nat → Bool) (b0 b1 b2 b3 b4 b5 b6 b7 : Bool) (t5 t6 t8 t9 t10 t11 : Value) (V : World) : Prop where
  below : Below W.heap.size W V
  e0 : b0 = true → t8 = va
  e1 : b1 = true → t9 = rowV f
  e2 : b2 = true → t10 = vb
  e3 : b3 = true → t11 = rowV g
  x : Laid W.heap.size V t5 b4 b6 f
  y : Laid W.heap.size V t6 b5 b7 g
  apart : b4 = true → b5 = true → ∀ p q, t5 = .pointer (some ⟨p, 0, none⟩) → t6 = .pointer (some ⟨q, 0, none⟩) → p ≠ q
theorem Laid.go {B : Nat} {V V' : World} {t : Value} {on wr : Bool} {f : Nat → Bool} (h : Laid B V t on wr f) (hV : ∀ B, B = V.heap.size → Below B V V') : Laid B V' t on wr f := by
  refine ⟨fun e => ?_, h.need⟩
  obtain ⟨p, e1, e2, e3, g, e4, e5⟩ := h.row e
  exact ⟨p, e1, e2, Nat.lt_of_lt_of_le e3 (hV _ rfl).size, g, e4.below (hV _ rfl) e3, e5⟩
def chk (b0 b1 b2 b3 b4 b5 : Bool) (i : Nat) : Bool := match i with
  | 0 => true
  | 1 => b0
  | 2 => true
  | 3 => b2
  | 4 => !b4
  | 5 => !b5
  | 6 => b1 && b4
  | 7 => b3 && b5
  | _ => false
theorem chk_cases (b0 b1 b2 b3 b4 b5 : Bool) (i : Nat) (h : chk b0 b1 b2 b3 b4 b5 i = true) :
    i = 0 ∨ (i = 1 ∧ b0 = true) ∨ i = 2 ∨ (i = 3 ∧ b2 = true) ∨ (i = 4 ∧ b4 = false) ∨ (i = 5 ∧ b5 = false) ∨ (i = 6 ∧ b1 = true ∧ b4 = true) ∨ (i = 7 ∧ b3 = true ∧ b5 = true) := by
  unfold chk at h
  split at h <;> simp_all
theorem TwoRows.start {w W : World} {va vb : Value} {f g : Nat → Bool} {t5 t6 t8 t9 t10 t11 : Value} (x : Ext) : TwoRows w W va vb f g false false false false false false false false t5 t6 t8 t9 t10 t11 (plus W x) :=
  ⟨below_plus W x, by simp, by simp, by simp, by simp, ⟨by simp, by simp⟩, ⟨by simp, by simp⟩, by simp⟩
section
variable {w W V : World} {va vb : Value} {f g : Nat → Bool} {b0 b1 b2 b3 b4 b5 b6 b7 : Bool} {t5 t6 t8 t9 t10 t11 : Value}
theorem TwoRows.call1 (h : TwoRows w W va vb f g b0 b1 b2 b3 b4 b5 b6 b7 t5 t6 t8 t9 t10 t11 V) (x : Ext) : TwoRows w W va vb f g b0 true b2 b3 b4 b5 b6 b7 t5 t6 t8 (rowV f) t10 t11 (plus V x) :=
  ⟨h.below.trans ((below_plus V x).mono h.below.size), h.e0, fun _ => rfl, h.e2, h.e3, h.x.go fun _ e => e ▸ below_plus V x, h.y.go fun _ e => e ▸ below_plus V x, h.apart⟩
theorem TwoRows.call3 (h : TwoRows w W va vb f g b0 b1 b2 b3 b4 b5 b6 b7 t5 t6 t8 t9 t10 t11 V) (x : Ext) : TwoRows w W va vb f g b0 b1 b2 true b4 b5 b6 b7 t5 t6 t8 t9 t10 (rowV g) (plus V x) :=
  ⟨h.below.trans ((below_plus V x).mono h.below.size), h.e0, h.e1, h.e2, fun _ => rfl, h.x.go fun _ e => e ▸ below_plus V x, h.y.go fun _ e => e ▸ below_plus V x, h.apart⟩
theorem TwoRows.load0 (h : TwoRows w W va vb f g b0 b1 b2 b3 b4 b5 b6 b7 t5 t6 t8 t9 t10 t11 V) : TwoRows w W va vb f g true b1 b2 b3 b4 b5 b6 b7 t5 t6 va t9 t10 t11 V :=
  ⟨h.below, fun _ => rfl, h.e1, h.e2, h.e3, h.x, h.y, h.apart⟩
theorem TwoRows.load2 (h : TwoRows w W va vb f g b0 b1 b2 b3 b4 b5 b6 b7 t5 t6 t8 t9 t10 t11 V) : TwoRows w W va vb f g b0 b1 true b3 b4 b5 b6 b7 t5 t6 t8 t9 vb t11 V :=
  ⟨h.below, h.e0, h.e1, fun _ => rfl, h.e3, h.x, h.y, h.apart⟩
theorem Laid.new (V : World) (B : Nat) (hB : B ≤ V.heap.size) (T : TypeId) (f : Nat → Bool) : Laid B (V.alloc (.cells (rowL fun _ => false).toArray T)) (.pointer (some ⟨V.heap.size, 0, none⟩)) true false f :=
  ⟨fun _ => ⟨V.heap.size, rfl, hB, by simp, _, BitsAt.new V _ T, by simp⟩, by simp⟩
theorem TwoRows.alloc4 (h : TwoRows w W va vb f g b0 b1 b2 b3 false b5 b6 b7 t5 t6 t8 t9 t10 t11 V) (T : TypeId) : TwoRows w W va vb f g b0 b1 b2 b3 true b5 false b7 (.pointer (some ⟨V.heap.size, 0, none⟩)) t6 t8 t9 t10 t11 (V.alloc (.cells (rowL fun _ => false).toArray T)) := by
  have hV : ∀ B, B = V.heap.size → Below B V (V.alloc (.cells (rowL fun _ => false).toArray T)) := fun B e => (Below.refl B V).alloc (by omega) _
  refine ⟨h.below.trans ((hV _ rfl).mono h.below.size), h.e0, h.e1, h.e2, h.e3, Laid.new V _ h.below.size T f, h.y.go hV, fun _ e p q e1 e2 => ?_⟩
  obtain ⟨q', e3, _, e4, _⟩ := h.y.row e
  simp only [e3, Value.pointer.injEq, Option.some.injEq, Addr.mk.injEq] at e1 e2
  omega
theorem TwoRows.alloc5 (h : TwoRows w W va vb f g b0 b1 b2 b3 b4 false b6 b7 t5 t6 t8 t9 t10 t11 V) (T : TypeId) : TwoRows w W va vb f g b0 b1 b2 b3 b4 true b6 false t5 (.pointer (some ⟨V.heap.size, 0, none⟩)) t8 t9 t10 t11 (V.alloc (.cells (rowL fun _ => false).toArray T)) := by
  have hV : ∀ B, B = V.heap.size → Below B V (V.alloc (.cells (rowL fun _ => false).toArray T)) := fun B e => (Below.refl B V).alloc (by omega) _
  refine ⟨h.below.trans ((hV _ rfl).mono h.below.size), h.e0, h.e1, h.e2, h.e3, h.x.go hV, Laid.new V _ h.below.size T g, fun e _ p q e1 e2 => ?_⟩
  obtain ⟨q', e3, _, e4, _⟩ := h.x.row e
  simp only [e3, Value.pointer.injEq, Option.some.injEq, Addr.mk.injEq] at e1 e2
  omega
theorem TwoRows.off6 (h : TwoRows w W va vb f g b0 b1 b2 b3 false b5 b6 b7 t5 t6 t8 t9 t10 t11 V) : b6 = false := by
  cases b6
  · rfl
  · exact absurd (h.x.need rfl) (by simp)
theorem TwoRows.off7 (h : TwoRows w W va vb f g b0 b1 b2 b3 b4 false b6 b7 t5 t6 t8 t9 t10 t11 V) : b7 = false := by
  cases b7
  · rfl
  · exact absurd (h.y.need rfl) (by simp)
theorem BitsAt.away {V : World} {b p : Nat} {f : Nat → Bool} (h : BitsAt V b f) (hp : p ≠ b) (l : List Value) : BitsAt (V.setCells p 0 l) b f :=
  ⟨fun i hi => (World.cell?_setCells_out _ _ _ _ _ (fun e _ => absurd e (by simpa using fun e => hp e.symm))).trans (h.c i hi), fun o => by rw [World.frozen?_setCells]; exact h.fz o⟩
theorem TwoRows.store6 {p : Nat} (h : TwoRows w W va vb f g b0 b1 b2 b3 true b5 b6 b7 (.pointer (some ⟨p, 0, none⟩)) t6 t8 t9 t10 t11 V) : TwoRows w W va vb f g b0 b1 b2 b3 true b5 true b7 (.pointer (some ⟨p, 0, none⟩)) t6 t8 t9 t10 t11 (V.setCells p 0 (rowL f)) := by
  obtain ⟨p', e1, e2, e3, k, e4, e5⟩ := h.x.row rfl
  simp only [Value.pointer.injEq, Option.some.injEq, Addr.mk.injEq, and_true] at e1
  subst e1
  have hsz := (below_setCells (B := 0) (rowL f) 0 V V p (Below.refl 0 V) (Nat.zero_le _)).size
  refine ⟨below_setCells _ _ _ _ _ h.below e2, h.e0, h.e1, h.e2, h.e3, ⟨fun _ => ⟨p, rfl, e2, by omega, f, e4.written f, fun _ => rfl⟩, fun _ => rfl⟩, ⟨fun e => ?_, h.y.need⟩, h.apart⟩
  obtain ⟨q, c1, c2, c3, k', c4, c5⟩ := h.y.row e
  exact ⟨q, c1, c2, by omega, k', c4.away (h.apart rfl e _ _ rfl c1) _, c5⟩
theorem TwoRows.store7 {q : Nat} (h : TwoRows w W va vb f g b0 b1 b2 b3 b4 true b6 b7 t5 (.pointer (some ⟨q, 0, none⟩)) t8 t9 t10 t11 V) : TwoRows w W va vb f g b0 b1 b2 b3 b4 true b6 true t5 (.pointer (some ⟨q, 0, none⟩)) t8 t9 t10 t11 (V.setCells q 0 (rowL g)) := by
  obtain ⟨p', e1, e2, e3, k, e4, e5⟩ := h.y.row rfl
  simp only [Value.pointer.injEq, Option.some.injEq, Addr.mk.injEq, and_true] at e1
  subst e1
  have hsz := (below_setCells (B := 0) (rowL g) 0 V V q (Below.refl 0 V) (Nat.zero_le _)).size
  refine ⟨below_setCells _ _ _ _ _ h.below e2, h.e0, h.e1, h.e2, h.e3, ⟨fun e => ?_, h.x.need⟩, ⟨fun _ => ⟨q, rfl, e2, by omega, g, e4.written g, fun _ => rfl⟩, fun _ => rfl⟩, h.apart⟩
  obtain ⟨p, c1, c2, c3, k', c4, c5⟩ := h.x.row e
  exact ⟨p, c1, c2, by omega, k', c4.away (fun hh => h.apart e rfl _ _ c1 rfl hh.symm) _, c5⟩
end
end Go.Proofs.YtkffjjlmoojffaaGreatDoor
namespace Go.Proofs.YtkffjjlmoojffaaGreatDoor
open Go.RowKit
theorem neqB_run (p q : Bool) (w : World) : (binOp .neq 4 (.bool p) (.bool q)).run Tryz.prog w = .ok (.bool (bne p q)) w := by
  cases p <;> cases q <;> go_simp
structure R3 (w : World) (rb p q : Nat) (f g : Nat → Bool) (V : World) : Prop where
  one : R1 w rb p f V
  apart : p ≠ q
  y : BitsAt V q g
theorem R3.set {w V : World} {rb p q : Nat} {f g : Nat → Bool} (h : R3 w rb p q f g V) (k : Nat) (hk : k < 128) (x : Bool) : R3 w rb p q (fun i => if i = k then x else f i) g (V.setCell ⟨p, k, none⟩ (.bool x)) :=
  ⟨h.one.set k hk x, h.apart, h.y.other _ h.apart _⟩
theorem R3.yl {w V : World} {rb p q : Nat} {f g : Nat → Bool} (h : R3 w rb p q f g V) : q < V.heap.size := World.block_lt_of_cell? V ⟨q, 0, none⟩ (h.y.c 0 (by omega))
theorem R3.grow {w V : World} {rb p q : Nat} {f g : Nat → Bool} (h : R3 w rb p q f g V) (x : Ext) : R3 w rb p q f g (plus V x) :=
  ⟨⟨h.one.below.trans ((below_plus V x).mono h.one.below.size), h.one.le, h.one.lt, Nat.lt_of_lt_of_le h.one.blt (size_plus V x), h.one.p0 x, h.one.p1 x, h.one.pf x, h.one.row.plus h.one.blt x⟩, h.apart, h.y.plus h.yl x⟩
theorem R3.congr {w V : World} {rb p q : Nat} {f f' g : Nat → Bool} (h : R3 w rb p q f g V) (e : ∀ i, i < 128 → f i = f' i) : R3 w rb p q f' g V := ⟨h.one.congr e, h.apart, h.y⟩
theorem R3.make {w W V : World} {p q : Nat} {f g : Nat → Bool} {rb : Nat} (hB : Below w.heap.size w W) (hrb : w.heap.size ≤ rb) (hs : rb < W.heap.size) (r0 : ∀ y, (plus W y).cell? ⟨rb, 0, none⟩ = some (.int .u64 0)) (r1 : ∀ y, (plus W y).cell? ⟨rb, 1, none⟩ = some (.int .u64 0)) (fr : ∀ y o, (plus W y).frozen? ⟨rb, o, none⟩ = false)
    (hV : Below W.heap.size W V) (p1 : W.heap.size ≤ p) (p2 : p < V.heap.size) (p3 : BitsAt V p f) (q3 : BitsAt V q g) (hpq : p ≠ q) : R3 w rb p q f g V := by
  have e0 := r0 ⟨#[], W.drawn⟩
  have e1 := r1 ⟨#[], W.drawn⟩
  have e2 := fr ⟨#[], W.drawn⟩
  rw [plus_self] at e0 e1 e2
  exact ⟨⟨hB.trans (hV.mono hB.size), hrb, by omega, p2, (hV.cell (p := ⟨rb, 0, none⟩) hs).trans e0, (hV.cell (p := ⟨rb, 1, none⟩) hs).trans e1, fun o => (hV.frozen (p := ⟨rb, o, none⟩) hs).trans (e2 o), p3⟩, hpq, q3⟩
end Go.Proofs.YtkffjjlmoojffaaGreatDoor
namespace Go.Proofs.YtkffjjlmoojffaaGreatDoor
open Go.RowKit
theorem bit_above (n i : Nat) (hn : n < B128) (hi : 128 ≤ i) : n.testBit i = false := by
  rw [b128] at hn
  exact Nat.testBit_lt_two_pow (Nat.lt_of_lt_of_le hn (Nat.pow_le_pow_right (by decide) hi))
theorem cmp_same (m n : Nat) (hm : m < B128) (hn : n < B128) (h : ∀ i, 0 ≤ i → i < 128 → bitF m i = bitF n i) : cmpN m n = 0 := by
  have : m = n := Nat.eq_of_testBit_eq fun i => by
    by_cases hi : i < 128
    · exact h i (Nat.zero_le _) hi
    · rw [bit_above m i hm (by omega), bit_above n i hn (by omega)]
  unfold cmpN; rw [if_pos this]
theorem cmp_less (m n k : Nat) (hm : m < B128) (hn : n < B128) (h : ∀ i, k + 1 ≤ i → i < 128 → bitF m i = bitF n i) (h1 : bitF m k = false) (h2 : bitF n k = true) : m < n := by
  have e : m / 2 ^ (k + 1) = n / 2 ^ (k + 1) := Nat.eq_of_testBit_eq fun i => by
    rw [Nat.testBit_div_two_pow, Nat.testBit_div_two_pow]
    by_cases h8 : i + (k + 1) < 128
    · exact h _ (by omega) h8
    · rw [bit_above m _ hm (by omega), bit_above n _ hn (by omega)]
  rw [Nat.pow_succ, ← Nat.div_div_eq_div_mul, ← Nat.div_div_eq_div_mul] at e
  unfold bitF at h1 h2
  rw [Nat.testBit_eq_decide_div_mod_eq, decide_eq_false_iff_not] at h1
  rw [Nat.testBit_eq_decide_div_mod_eq, decide_eq_true_eq] at h2
  rcases Nat.lt_or_ge m n with h3 | h3
  · exact h3
  · have := Nat.div_le_div_right (c := 2 ^ k) h3
    omega
theorem cmp_up (m n k : Nat) (hm : m < B128) (hn : n < B128) (h : ∀ i, k + 1 ≤ i → i < 128 → bitF m i = bitF n i) (h1 : bitF m k = true) (h2 : bitF n k = false) : cmpN m n = 1 := by
  have := cmp_less n m k hn hm (fun i a b => (h i a b).symm) h2 h1
  unfold cmpN; rw [if_neg (by omega), if_neg (by omega)]
theorem cmp_down (m n k : Nat) (hm : m < B128) (hn : n < B128) (h : ∀ i, k + 1 ≤ i → i < 128 → bitF m i = bitF n i) (h1 : bitF m k = false) (h2 : bitF n k = true) : cmpN m n = -1 := by
  have := cmp_less m n k hm hn h h1 h2
  unfold cmpN; rw [if_neg (by omega), if_pos this]
set_option maxRecDepth 100000 in
set_option maxHeartbeats 4000000 in
theorem ref_cmp (m n : Nat) (hm : m < B128) (hn : n < B128) : Pure Tryz.prog 139 #[nv m, nv n] (.int .i64 (cmpN m n)) := by
  intro w
  have hz := zero_run
  have Bm := Lib.hid (ref_bits m hm)
  have Bn := Lib.hid (ref_bits n hn)
  have E0 := Lib.hid (cmp_same m n hm hn)
  have E1 := Lib.hid (fun k => cmp_up m n k hm hn)
  have E2 := Lib.hid (fun k => cmp_down m n k hm hn)
  clear hm hn
  go_enter Tryz.func139, Tryz.ntmps139
  go_wp2_with fail
  obtain ⟨W, hW, hB, hs, ca, cb, fa, fb⟩ := box2 w _ _ 58 58
  rw [← hW]
  have a0 := ca 0 (some (.int .u64 (hi m))) rfl ⟨#[], W.drawn⟩
  have a1 := ca 1 (some (.int .u64 (lo m))) rfl ⟨#[], W.drawn⟩
  have b0 := cb 0 (some (.int .u64 (hi n))) rfl ⟨#[], W.drawn⟩
  have b1 := cb 1 (some (.int .u64 (lo n))) rfl ⟨#[], W.drawn⟩
  rw [plus_self] at a0 a1 b0 b1
  clear hW ca cb fa fb
  have hcell : Hid (∀ V, Below W.heap.size W V → V.cell? ⟨w.heap.size, 0, none⟩ = some (.int .u64 (hi m)) ∧ V.cell? ⟨w.heap.size, 1, none⟩ = some (.int .u64 (lo m)) ∧ V.cell? ⟨w.heap.size + 1, 0, none⟩ = some (.int .u64 (hi n)) ∧ V.cell? ⟨w.heap.size + 1, 1, none⟩ = some (.int .u64 (lo n))) := fun V hV =>
    ⟨(hV.cell (p := ⟨w.heap.size, 0, none⟩) (by show w.heap.size < _; omega)).trans a0, (hV.cell (p := ⟨w.heap.size, 1, none⟩) (by show w.heap.size < _; omega)).trans a1, (hV.cell (p := ⟨w.heap.size + 1, 0, none⟩) (by show w.heap.size + 1 < _; omega)).trans b0, (hV.cell (p := ⟨w.heap.size + 1, 1, none⟩) (by show w.heap.size + 1 < _; omega)).trans b1⟩
  clear a0 a1 b0 b1
  refine wp_region_any (by kernel_rfl) ?_
  rw [drawn_plus]
  refine wpAny_inv (fun l a V => ∃ b0 b1 b2 b3 b4 b5 b6 b7 t5 t6 t8 t9 t10 t11, l = #[b0, b1, b2, b3, b4, b5, b6, b7] ∧ a = ⟨#[nv m, nv n, .pointer (some ⟨w.heap.size, 0, none⟩), .pointer (some ⟨w.heap.size + 1, 0, none⟩), .int .i64 0, t5, t6, undef, t8, t9, t10, t11, undef, undef, undef, undef, undef, undef, undef, undef, undef, undef, undef, undef, undef, undef, undef, undef, undef, undef, undef, undef, undef, undef], []⟩ ∧ TwoRows w W (nv m) (nv n) (bitF m) (bitF n) b0 b1 b2 b3 b4 b5 b6 b7 t5 t6 t8 t9 t10 t11 V) ?hd ?hs _ _ _ _ (by decide) ⟨false, false, false, false, false, false, false, false, undef, undef, undef, undef, undef, undef, rfl, rfl, TwoRows.start _⟩
  case hs =>
    rintro l a V i ⟨b0, b1, b2, b3, b4, b5, b6, b7, t5, t6, t8, t9, t10, t11, rfl, rfl, hT⟩ hi
    have hc : chk b0 b1 b2 b3 b4 b5 i = true := by
      refine List.all_eq_true.1 ?_ i hi
      clear hi hT
      revert b0 b1 b2 b3 b4 b5 b6 b7
      decide +kernel
    clear hi
    obtain ⟨c0, c1, c2, c3⟩ := hcell.out V hT.below
    have hT := Lib.hid hT
    rcases chk_cases _ _ _ _ _ _ _ hc with rfl | ⟨rfl, rfl⟩ | rfl | ⟨rfl, rfl⟩ | ⟨rfl, rfl⟩ | ⟨rfl, rfl⟩ | ⟨rfl, rfl, rfl⟩ | ⟨rfl, rfl, rfl⟩
    · refine wpOp_step rfl fun K hK => ?_
      rw [if_pos (by rfl)]
      go_simp
      exact hK _ _ ⟨true, b1, b2, b3, b4, b5, b6, b7, t5, t6, _, t9, t10, t11, rfl, rfl, hT.out.load0⟩
    · obtain rfl := hT.out.e0 rfl
      refine wpOp_step rfl fun K hK => ?_
      rw [if_pos (by rfl)]
      go_simp
      refine (Bm.out V).mono ?_
      rintro e w' ⟨rfl, x, rfl⟩
      try go_simp
      exact hK _ _ ⟨true, true, b2, b3, b4, b5, b6, b7, t5, t6, _, _, t10, t11, rfl, rfl, hT.out.call1 x⟩
    · refine wpOp_step rfl fun K hK => ?_
      rw [if_pos (by rfl)]
      go_simp
      exact hK _ _ ⟨b0, b1, true, b3, b4, b5, b6, b7, t5, t6, t8, t9, _, t11, rfl, rfl, hT.out.load2⟩
    · obtain rfl := hT.out.e2 rfl
      refine wpOp_step rfl fun K hK => ?_
      rw [if_pos (by rfl)]
      go_simp
      refine (Bn.out V).mono ?_
      rintro e w' ⟨rfl, x, rfl⟩
      try go_simp
      exact hK _ _ ⟨b0, b1, true, true, b4, b5, b6, b7, t5, t6, t8, t9, _, _, rfl, rfl, hT.out.call3 x⟩
    · obtain rfl := hT.out.off6
      refine wpOp_step rfl fun K hK => ?_
      rw [if_pos (by rfl)]
      go_simp
      exact hK _ _ ⟨b0, b1, b2, b3, true, b5, false, b7, _, t6, t8, t9, t10, t11, rfl, rfl, hT.out.alloc4 _⟩
    · obtain rfl := hT.out.off7
      refine wpOp_step rfl fun K hK => ?_
      rw [if_pos (by rfl)]
      go_simp
      exact hK _ _ ⟨b0, b1, b2, b3, b4, true, b6, false, t5, _, t8, t9, t10, t11, rfl, rfl, hT.out.alloc5 _⟩
    · obtain rfl := hT.out.e1 rfl
      obtain ⟨p, rfl, _, _, k, hk, _⟩ := hT.out.x.row rfl
      refine wpOp_step rfl fun K hK => ?_
      rw [if_pos (by rfl)]
      refine Go.wp_store_mid _ _ _ rfl p 0 (rowL (bitF m)).toArray rfl rfl (hk.there' _) (row_size' _) (row_one _) ?_
      exact hK _ _ ⟨b0, true, b2, b3, true, b5, true, b7, _, t6, t8, _, t10, t11, rfl, rfl, hT.out.store6⟩
    · obtain rfl := hT.out.e3 rfl
      obtain ⟨p, rfl, _, _, k, hk, _⟩ := hT.out.y.row rfl
      refine wpOp_step rfl fun K hK => ?_
      rw [if_pos (by rfl)]
      refine Go.wp_store_mid _ _ _ rfl p 0 (rowL (bitF n)).toArray rfl rfl (hk.there' _) (row_size' _) (row_one _) ?_
      exact hK _ _ ⟨b0, b1, b2, true, b4, true, b6, true, t5, _, t8, t9, t10, _, rfl, rfl, hT.out.store7⟩
  case hd =>
    rintro l a V ⟨b0, b1, b2, b3, b4, b5, b6, b7, t5, t6, t8, t9, t10, t11, rfl, rfl, hT⟩ hi
    have hc : (b0 && b1 && b2 && b3 && b4 && b5 && b6 && b7) = true := by
      clear hT
      revert b0 b1 b2 b3 b4 b5 b6 b7
      decide +kernel
    clear hi
    simp only [Bool.and_eq_true] at hc
    obtain ⟨⟨⟨⟨⟨⟨⟨rfl, rfl⟩, rfl⟩, rfl⟩, rfl⟩, rfl⟩, rfl⟩, rfl⟩ := hc
    obtain rfl := hT.e0 rfl
    obtain rfl := hT.e1 rfl
    obtain rfl := hT.e2 rfl
    obtain rfl := hT.e3 rfl
    obtain ⟨p, rfl, p1, p2, f', p3, p4⟩ := hT.x.row rfl
    obtain ⟨q, rfl, q1, q2, g', q3, q4⟩ := hT.y.row rfl
    obtain rfl := p4 rfl
    obtain rfl := q4 rfl
    have hbl := Lib.hid (hB.trans (hT.below.mono hB.size))
    have hx := Lib.hid p3
    have hy := Lib.hid q3
    clear p1 p2 p3 p4 q1 q2 q3 q4 hT hcell Bm Bn hB hs
    go_wp2
    go_loopw [7] (fun kk U => ∃ j : Nat, j ≤ 128 ∧ kk = .int .i64 ((j : Int) - 1) ∧ U = V ∧ Hid (∀ i, j ≤ i → i < 128 → bitF m i = bitF n i)) (fun kk _ => (intOf kk + 1).toNat)
    case atStart => exact ⟨128, Nat.le_refl _, rfl, rfl, Lib.hid fun i h1 h2 => absurd h2 (by omega)⟩
    case round =>
      obtain ⟨j, hj, rfl, rfl, hT⟩ := hrel
      rcases j with _ | k
      · have e0 := E0.out hT.out
        clear hT
        go_wp2
        go_ret
        exact ⟨congrArg (fun z : Int => Ending.returned (.int .i64 z)) e0.symm, plus_of_below hbl.out⟩
      · have e : ((k + 1 : Nat) : Int) - 1 = (k : Int) := by omega
        rw [e]
        have cj := hx.out.c k (by omega)
        have dj := hy.out.c k (by omega)
        cases hbit : bitF m k <;> rw [hbit] at cj <;> cases hbit2 : bitF n k <;> rw [hbit2] at dj
        · go_wp2
          go_roundw
          case rel => exact ⟨k, by omega, by go_num, trivial, Lib.hid fun i h1 h2 => by
            rcases Nat.lt_or_ge k i with h | h
            · exact hT.out i h h2
            · obtain rfl : i = k := by omega
              rw [hbit, hbit2]⟩
          case measure => simp [intOf]
        · have e0 := E2.out k hT.out hbit hbit2
          clear hT
          go_wp2
          go_ret
          exact ⟨congrArg (fun z : Int => Ending.returned (.int .i64 z)) e0.symm, plus_of_below hbl.out⟩
        · have e0 := E1.out k hT.out hbit hbit2
          clear hT
          go_wp2
          go_ret
          exact ⟨congrArg (fun z : Int => Ending.returned (.int .i64 z)) e0.symm, plus_of_below hbl.out⟩
        · go_wp2
          go_roundw
          case rel => exact ⟨k, by omega, by go_num, trivial, Lib.hid fun i h1 h2 => by
            rcases Nat.lt_or_ge k i with h | h
            · exact hT.out i h h2
            · obtain rfl : i = k := by omega
              rw [hbit, hbit2]⟩
          case measure => simp [intOf]
end Go.Proofs.YtkffjjlmoojffaaGreatDoor
