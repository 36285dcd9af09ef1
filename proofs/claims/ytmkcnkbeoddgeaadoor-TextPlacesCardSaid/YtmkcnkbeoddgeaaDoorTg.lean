/-
  WHAT IS PROVED HERE: what the document's Dec hands back, of any number, and strconv.Itoa. Itoa's contract speaks of worlds in which the library's table of powers of ten holds what the library's text says.
-/
import Derived.Test.YtmkcnkbeoddgeaaDoorRows
import Derived.Test.YtmkcnkbeoddgeaaDoorKit
import Derived.Test.YtmkcnkbeoddgeaaDoorTShelf
import Derived.Lib.ItoaLen
import Derived.WalkKit
import Derived.WalkSpells
import Derived.WalkLawsBesides
namespace Go.Proofs.YtmkcnkbeoddgeaaDoor
open Go.RowKit
abbrev decB (n : Nat) : ByteArray := ⟨(Lib.decDigits n).toArray⟩
theorem decB_more (n : Nat) (h : ¬ n < 10) : decB (n / 10) ++ decB (n % 10) = decB n := by
  have h1 : Lib.decDigits n = Lib.decDigits (n / 10) ++ [UInt8.ofNat (48 + n % 10)] := by rw [Lib.decDigits, dif_neg h]
  have h2 := Lib.decDigits_one (i := n % 10) (by omega)
  unfold decB
  rw [h1, h2]
  apply ByteArray.ext
  simp
theorem dec_len (n : Nat) (h : n < 18446744073709551616) : (Lib.decDigits n).length ≤ 20 := by rw [Lib.decDigits_length]; exact Lib.nDigits_le20 n h
set_option maxHeartbeats 1000000 in
theorem ref_digits : ∀ (b n : Nat), n < b → n < 18446744073709551616 → Pure Tryd.prog 23 #[.int .u64 (n : Int)] (.string (decB n))
  | 0, n, h, _ => absurd h (by omega)
  | b + 1, n, h, hn => by
    intro w
    by_cases h10 : n < 10
    · have hn8 : (UInt8.ofNat (48 + n)).toNat = 48 + n := by simp; omega
      have hcell : (w.alloc (.cells #[.int .u8 (48 + (n : Int))] 5)).cell? ⟨w.heap.size, 0, none⟩ = some (.int .u8 (48 + (n : Int))) := cell_new w _ _ _ 0 rfl
      have hcv := run_convert_bytes_back (P := Tryd.prog) (w.alloc (.cells #[.int .u8 (48 + (n : Int))] 5)) 44 9 5 ⟨w.heap.size, 0, none⟩ 1 [UInt8.ofNat (48 + n)] Tryd.underlying44 Tryd.underlying5 Tryd.underlying9 (fun j hj => by
        have hj0 : j = 0 := by simp at hj; omega
        subst hj0
        rw [Addr.add_lit, Nat.zero_add, hcell]
        simp
        omega)
      have e : (⟨[UInt8.ofNat (48 + n)].toArray⟩ : ByteArray) = decB n := by unfold decB; rw [Lib.decDigits_one h10]
      rw [e] at hcv
      simp only [List.length_singleton] at hcv
      clear e hcell hn8
      go_enter Tryd.func23, Tryd.ntmps23
      go_wp2
      go_ret
      exact ⟨rfl, plus_of_below ((Below.refl _ _).alloc (Nat.le_refl _) _)⟩
    · have i1 := Lib.hid (ref_digits b (n / 10) (by omega) (by omega))
      have i2 := Lib.hid (ref_digits b (n % 10) (by omega) (by omega))
      have e := Lib.hid (decB_more n h10)
      have l1 := dec_len (n / 10) (by omega)
      have l2 := dec_len (n % 10) (by omega)
      go_enter Tryd.func23, Tryd.ntmps23
      go_wp2_with fail
      refine (i1.out _).mono ?_
      rintro r w' ⟨rfl, x, rfl⟩
      go_wp2_with fail
      refine (i2.out.at _ _).mono ?_
      rintro r w' ⟨rfl, y, rfl⟩
      go_wp2
      go_ret
      exact ⟨by rw [← e.out]; rfl, y, rfl⟩
abbrev itoaB (n : Int) : ByteArray := ⟨(Lib.itoa n).toArray⟩
theorem ref_dec (n : Int) (h0 : -9223372036854775808 ≤ n) (h1 : n ≤ 9223372036854775807) : Pure Tryd.prog 20 #[.int .i64 n] (.string (itoaB n)) := by
  intro w
  by_cases hn : n < 0
  · have hD := ref_digits (n.natAbs + 1) n.natAbs (by omega) (by omega)
    have e : ((n.natAbs : Nat) : Int) = IntKind.u64.wrap (-IntKind.u64.wrap n) := by simp only [IntKind.wrap_u64]; omega
    rw [e] at hD
    have l1 := dec_len n.natAbs (by omega)
    have e2 : (⟨#[45]⟩ : ByteArray) ++ decB n.natAbs = itoaB n := by
      unfold decB itoaB Lib.itoa; rw [if_pos hn]; apply ByteArray.ext; simp
    have hD := Lib.hid hD
    have e2 := Lib.hid e2
    generalize hm : decB n.natAbs = v at hD e2
    have hv : v.size ≤ 20 := by rw [← hm]; simpa [ByteArray.size] using l1
    clear hm l1 e
    go_enter Tryd.func20, Tryd.ntmps20
    go_wp2_with fail
    refine (hD.out _).mono ?_
    rintro r w' ⟨rfl, x, rfl⟩
    go_wp2
    go_ret
    exact ⟨by rw [← e2.out]; rfl, x, rfl⟩
  · have hD := ref_digits (n.toNat + 1) n.toNat (by omega) (by omega)
    have e : ((n.toNat : Nat) : Int) = n := by omega
    rw [e] at hD
    have e2 : decB n.toNat = itoaB n := by unfold decB itoaB Lib.itoa; rw [if_neg hn]
    rw [e2] at hD
    have hD := Lib.hid hD
    clear e e2
    go_enter Tryd.func20, Tryd.ntmps20
    go_wp2_with fail
    refine (hD.out _).mono ?_
    rintro r w' ⟨rfl, x, rfl⟩
    go_wp2
    go_ret
    exact ⟨rfl, x, rfl⟩
/-- The library's table of powers of ten holds what the library's text says. -/
abbrev Tab (w : World) : Prop := Lib.TabIs Tryd.prog w "internal/strconv.uint64pow10" .u64 Lib.pow10Tab
theorem tab_plus {w : World} (h : Tab w) (x : Ext) : Tab (plus w x) := by
  unfold Tab Lib.TabIs World.var? at *
  cases hg : Tryd.prog.globalNamed "internal/strconv.uint64pow10" with
  | none => rw [hg] at h; cases h
  | some g =>
    rw [hg] at h
    cases ho : w.heap[g]? with
    | none => simp [ho] at h
    | some o =>
      have hlt : g < w.heap.size := (Array.getElem?_eq_some_iff.1 ho).1
      have e : (plus w x).heap[g]? = w.heap[g]? := by simp [plus, Array.getElem?_append, hlt]
      simpa only [Option.bind_some, e] using h
/-- Pure, in worlds in which that table stands. -/
def Pure' (f : FuncId) (args : Array Value) (v : Value) : Prop := ∀ w, Tab w → Calls Tryd.prog f args w fun e w' => e = .returned v ∧ ∃ x, w' = plus w x
theorem Pure'.at {f : FuncId} {args : Array Value} {v : Value} (h : Pure' f args v) (w : World) (hT : Tab w) (x : Ext) :
    Calls Tryd.prog f args (plus w x) fun e w' => e = .returned v ∧ ∃ y, w' = plus w y :=
  (h _ (tab_plus hT x)).mono fun _ _ ⟨he, y, hy⟩ => ⟨he, ⟨x.blocks ++ y.blocks, y.draws⟩, by rw [hy, plus_plus]⟩
theorem lib_itoa (n : Int) (h0 : -9223372036854775808 ≤ n) (h1 : n ≤ 9223372036854775807) : Pure' 19 #[.int .i64 n] (.string (itoaB n)) := by
  intro w hT
  refine (Tryd.strconv_Itoa n h0 h1 w hT).mono ?_
  rintro e w' ⟨rfl, k, os, rfl⟩
  exact ⟨rfl, ⟨os, w.drawn + k⟩, rfl⟩
theorem itoa_len (n : Int) (h0 : -9223372036854775808 ≤ n) (h1 : n ≤ 9223372036854775807) : (itoaB n).size ≤ 21 := Lib.itoa_length_le n h0 h1
end Go.Proofs.YtmkcnkbeoddgeaaDoor
