/-
  WHAT IS PROVED HERE: what text.Where's and text.At's function literals leave, and text.eachLineEnd with either of them. No condition but that the text has at most 2^47 bytes.
-/
import Derived.Test.YtiodfenkbhlpdaaDoorRows
import Derived.Test.YtiodfenkbhlpdaaDoorKit
import Derived.Test.YtiodfenkbhlpdaaDoorTa
import Derived.WalkKit
import Derived.WalkSpells
import Derived.WalkLawsBesides
namespace Go.Proofs.YtiodfenkbhlpdaaDoor
open Go.RowKit
theorem where_lit (base : World) (ba : Nat) (l c a e : Int) (hl : ba < base.heap.size) (hc : base.cell? ⟨ba, 0, none⟩ = some (.int .i64 a))
    (l0 : 0 ≤ l) (l1 : l ≤ 281474976710656) (a0 : 0 ≤ a) (a1 : a ≤ 281474976710656) (e0 : 0 ≤ e) (e1 : e ≤ 281474976710656) :
    Calls Tryd.prog 43 #[.int .i64 e, .pointer (some ⟨base.heap.size, 0, none⟩), .pointer (some ⟨ba, 0, none⟩)] (base.alloc (.cells #[.int .i64 l, .int .i64 c] 26)) fun r w' => r = .returned (.tuple #[]) ∧ w' = base.alloc (.cells #[.int .i64 (l + 1), .int .i64 (a - e)] 26) := by
  have hc' : ∀ x, (base.alloc x).cell? ⟨ba, 0, none⟩ = some (.int .i64 a) := fun x => (cell_old base x ba 0 hl).trans hc
  have hne : ¬ ba = base.heap.size := by omega
  go_enter Tryd.func43, Tryd.ntmps43
  go_wp2
  go_end0
  exact ⟨rfl, rfl⟩
set_option maxHeartbeats 1000000 in
theorem each_any (s : ByteArray) (hs : s.size ≤ 140737488355328) (g : FuncId) (caps : Array Value) (W : Nat → World)
    (hent : ∀ args w, (callFunc g args).run Tryd.prog w = .ok (.enter g args) w)
    (hyes : ∀ k, k < s.size → nl s k = true → Calls Tryd.prog g (#[.int .i64 (k : Int)] ++ caps) (W k) fun e w' => e = .returned (.tuple #[]) ∧ w' = W (k + 1))
    (hno : ∀ k, nl s k = false → W (k + 1) = W k) :
    Calls Tryd.prog 42 #[.string s, .func (.func g) #[] caps] (W 0) fun e w' => e = .returned (.tuple #[]) ∧ w' = W s.size := by
  have hyes' := Lib.hid hyes
  have hno' := Lib.hid hno
  clear hyes hno
  go_enter Tryd.func42, Tryd.ntmps42
  go_wp2
  go_loopw [7] (fun iv wr => ∃ k : Nat, k ≤ s.size ∧ iv = .int .i64 (k : Int) ∧ wr = W k) (fun iv _ => s.size - (intOf iv).toNat)
  case atStart => exact ⟨0, Nat.zero_le _, rfl, rfl⟩
  case round =>
    obtain ⟨k, hk, rfl, rfl⟩ := hrel
    by_cases hlt : k < s.size
    · cases hn : nl s k with
      | true =>
        have hb : (((s[k]).toNat : Int) == 10) = true := nl_is hlt hn
        have hY := hyes'.out k hlt hn
        have hlt' := Lib.hid hlt
        have hY' := Lib.hid hY
        clear hY hn
        go_wp2_with (refine hY'.out.mono ?_; rintro e w' ⟨rfl, rfl⟩)
        go_roundw
        case rel => exact ⟨k + 1, by have := hlt'.out; omega, by go_num, rfl⟩
        case measure => simp [intOf]; have := hlt'.out; omega
      | false =>
        have hb : (((s[k]).toNat : Int) == 10) = false := nl_isnt hlt hn
        have hN := Lib.hid (hno'.out k hn)
        have hlt' := Lib.hid hlt
        clear hn
        go_wp2
        go_roundw
        case rel => exact ⟨k + 1, by have := hlt'.out; omega, by go_num, hN.out.symm⟩
        case measure => simp [intOf]; have := hlt'.out; omega
    · have hk' : k = s.size := by omega
      have hk2 := Lib.hid hk'
      clear hk'
      go_wp2
      go_end0
      exact ⟨rfl, by rw [hk2.out]⟩
end Go.Proofs.YtiodfenkbhlpdaaDoor
