/-
  WHAT IS PROVED HERE: what the document's names and fields of layer 4 hand back, of any such slice that lies in memory and is not too great.
-/
import Derived.Test.YtpnaibfefpeikaaRows
import Derived.Test.YtpnaibfefpeikaaSb
import Derived.Test.YtpnaibfefpeikaaSc
import Derived.WalkKit
import Derived.Lib.Hide
import Derived.WalkSpells
import Derived.WalkLawsBesides
namespace Go.Proofs.Ytpnaibfefpeikaa
open Go.RowKit
/-- Called with these in whatever world that has more than this one: this is handed back, and the world has blocks and draws of the call's own. -/
abbrev PureIn (P : Program) (w : World) (f : FuncId) (args : Array Value) (v : Value) : Prop := ∀ y, Calls P f args (plus w y) fun e w' => e = .returned v ∧ ∃ x, w' = plus w x
theorem strSize_pos (s : ByteArray) : 1 ≤ strSize s := by unfold strSize; omega
theorem Fd.sz_pos (s : Fd) : 1 ≤ s.sz := by unfold Fd.sz; omega
theorem sum_strSize : ∀ l : List ByteArray, (l.map strSize).sum = (l.map ByteArray.size).sum + l.length
  | [] => rfl
  | a :: l => by
    have := sum_strSize l
    simp only [List.map_cons, List.sum_cons, List.length_cons, strSize]
    omega
theorem sum_fdSize : ∀ l : List Fd, (l.map Fd.sz).sum = (l.map fun x => x.name.size).sum + l.length
  | [] => rfl
  | a :: l => by
    have := sum_fdSize l
    simp only [List.map_cons, List.sum_cons, List.length_cons, Fd.sz]
    omega
set_option maxHeartbeats 8000000 in
theorem ref_names (L : Sl ByteArray) (w : World) (hin : L.In w 1 strCells strOk) (hb : L.size strSize ≤ 1048576) : PureIn Try.prog w 15 #[L.v] (.int .i64 (L.size strSize : Int)) := by
  intro y0
  obtain ⟨p, cap, l⟩ := L
  obtain ⟨h1, h2, hrow, _⟩ := hin
  simp only [Sl.size, Sl.v] at hb h1 hrow ⊢
  have hn : ∃ n, l.length = n := ⟨_, rfl⟩
  obtain ⟨n, hn⟩ := hn
  have hl : n ≤ 1048576 := by have := length_le_sum strSize strSize_pos l; omega
  have hsum : (l.map strSize).sum = (l.map ByteArray.size).sum + n := by rw [← hn]; exact sum_strSize l
  rw [hn]
  have hR : ∃ R, (l.map strSize).sum = R := ⟨_, rfl⟩
  obtain ⟨R, hR⟩ := hR
  rw [hR] at hb hsum ⊢
  have hrow' := Lib.hid (hrow.plus y0)
  have hsum' := Lib.hid hsum
  have hb' := Lib.hid hb
  have hn' := Lib.hid hn
  have hl' := Lib.hid hl
  clear hrow hsum hb hn hl hR h1 h2
  obtain ⟨W, hW⟩ : ∃ W, plus w y0 = W := ⟨_, rfl⟩
  rw [hW] at hrow' ⊢
  have hW' := Lib.hid hW
  clear hW
  go_enter Try.func15, Try.ntmps15
  go_wp2
  have h0 : (n : Int) = (tally ByteArray.size n l 0 : Int) := by rw [tally_zero]
  rw [show Value.int .i64 (n : Int) = Value.int .i64 (tally ByteArray.size n l 0 : Int) from congrArg _ h0]
  go_loopw [3, 4] (fun nv iv wr => ∃ k : Nat, k ≤ n ∧ iv = .int .i64 (k : Int) ∧ nv = .int .i64 (tally ByteArray.size n l k : Int) ∧ wr = W) (fun _ iv _ => n - (intOf iv).toNat)
  case atStart => exact ⟨0, Nat.zero_le _, rfl, rfl, rfl⟩
  case round =>
    obtain ⟨k, hk, rfl, rfl, rfl⟩ := hrel
    by_cases hlt : k < n
    · obtain ⟨s, hs⟩ : ∃ s, l[k]? = some s := ⟨l[k]'(by rw [hn'.out]; exact hlt), List.getElem?_eq_getElem _⟩
      obtain ⟨a, rfl, hc⟩ := hrow'.out k s hs
      have d0 := hc.c0 _ rfl
      simp only [Nat.mul_one] at d0
      have a3 := tally_succ ByteArray.size n l k s hs
      have a4 := tally_le ByteArray.size n l (k + 1)
      have a6 := wr_succ k n hlt hl'.out
      have a7 : wrap64 ((tally ByteArray.size n l k : Int) + (s.size : Int)) = (tally ByteArray.size n l (k + 1) : Int) := by
        have := hsum'.out
        have := hb'.out
        rw [wr_in _ (by omega), a3]
        simp
      clear a3 a4 hs hc
      go_wp2
      go_roundw
      case rel => exact ⟨k + 1, hlt, congrArg (Value.int .i64) a6, congrArg (Value.int .i64) a7, trivial⟩
      case measure => exact step_less k n hlt a6
    · obtain rfl : k = n := by omega
      have hR : (tally ByteArray.size k l k : Int) = (R : Int) := by
        have := hsum'.out
        rw [tally_all ByteArray.size _ l k hn'.out]
        omega
      have hR' := Lib.hid hR
      clear hR
      go_wp2
      go_ret
      exact ⟨congrArg (fun z => Ending.returned (Value.int .i64 z)) hR'.out, _, hW'.out.symm⟩
set_option maxHeartbeats 8000000 in
theorem ref_fields (L : Sl Fd) (w : World) (hin : L.In w 2 Fd.cells (Fd.In w)) (hb : L.size Fd.sz ≤ 1048576) : PureIn Try.prog w 13 #[L.v] (.int .i64 (L.size Fd.sz : Int)) := by
  intro y0
  obtain ⟨p, cap, l⟩ := L
  obtain ⟨h1, h2, hrow, _⟩ := hin
  simp only [Sl.size, Sl.v] at hb h1 hrow ⊢
  have hn : ∃ n, l.length = n := ⟨_, rfl⟩
  obtain ⟨n, hn⟩ := hn
  have hl : n ≤ 1048576 := by have := length_le_sum Fd.sz Fd.sz_pos l; omega
  have hsum : (l.map Fd.sz).sum = (l.map fun x => x.name.size).sum + n := by rw [← hn]; exact sum_fdSize l
  rw [hn]
  have hR : ∃ R, (l.map Fd.sz).sum = R := ⟨_, rfl⟩
  obtain ⟨R, hR⟩ := hR
  rw [hR] at hb hsum ⊢
  have hrow' := Lib.hid (hrow.plus y0)
  have hsum' := Lib.hid hsum
  have hb' := Lib.hid hb
  have hn' := Lib.hid hn
  have hl' := Lib.hid hl
  clear hrow hsum hb hn hl hR h1 h2
  obtain ⟨W, hW⟩ : ∃ W, plus w y0 = W := ⟨_, rfl⟩
  rw [hW] at hrow' ⊢
  have hW' := Lib.hid hW
  clear hW
  go_enter Try.func13, Try.ntmps13
  go_wp2
  have h0 : (n : Int) = (tally (fun x : Fd => x.name.size) n l 0 : Int) := by rw [tally_zero]
  rw [show Value.int .i64 (n : Int) = Value.int .i64 (tally (fun x : Fd => x.name.size) n l 0 : Int) from congrArg _ h0]
  go_loopw [3, 4] (fun nv iv wr => ∃ k : Nat, k ≤ n ∧ iv = .int .i64 (k : Int) ∧ nv = .int .i64 (tally (fun x : Fd => x.name.size) n l k : Int) ∧ wr = W) (fun _ iv _ => n - (intOf iv).toNat)
  case atStart => exact ⟨0, Nat.zero_le _, rfl, rfl, rfl⟩
  case round =>
    obtain ⟨k, hk, rfl, rfl, rfl⟩ := hrel
    by_cases hlt : k < n
    · obtain ⟨s, hs⟩ : ∃ s, l[k]? = some s := ⟨l[k]'(by rw [hn'.out]; exact hlt), List.getElem?_eq_getElem _⟩
      obtain ⟨a, rfl, hc⟩ := hrow'.out k s hs
      have d0 := hc.c0 _ rfl
      have a3 := tally_succ (fun x : Fd => x.name.size) n l k s hs
      have a4 := tally_le (fun x : Fd => x.name.size) n l (k + 1)
      have a6 := wr_succ k n hlt hl'.out
      have a7 : wrap64 ((tally (fun x : Fd => x.name.size) n l k : Int) + (s.name.size : Int)) = (tally (fun x : Fd => x.name.size) n l (k + 1) : Int) := by
        have := hsum'.out
        have := hb'.out
        rw [wr_in _ (by omega), a3]
        simp
      clear a3 a4 hs hc
      go_wp2
      go_roundw
      case rel => exact ⟨k + 1, hlt, congrArg (Value.int .i64) a6, congrArg (Value.int .i64) a7, trivial⟩
      case measure => exact step_less k n hlt a6
    · obtain rfl : k = n := by omega
      have hR : (tally (fun x : Fd => x.name.size) k l k : Int) = (R : Int) := by
        have := hsum'.out
        rw [tally_all (fun x : Fd => x.name.size) _ l k hn'.out]
        omega
      have hR' := Lib.hid hR
      clear hR
      go_wp2
      go_ret
      exact ⟨congrArg (fun z => Ending.returned (Value.int .i64 z)) hR'.out, _, hW'.out.symm⟩
end Go.Proofs.Ytpnaibfefpeikaa
