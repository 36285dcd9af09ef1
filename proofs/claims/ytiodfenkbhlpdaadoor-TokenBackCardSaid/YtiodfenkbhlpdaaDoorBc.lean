/-
  WHAT IS PROVED HERE: the law TokenBack is true of texts that are too long, and of those that have a fault, in worlds in which the program's table of marks and strconv's errors stand.
-/
import Derived.Test.YtiodfenkbhlpdaaDoorRows
import Derived.Test.YtiodfenkbhlpdaaDoorBb
import Derived.Test.YtiodfenkbhlpdaaDoorUn
import Derived.WalkKit
import Derived.WalkSpells
import Derived.WalkLawsBesides
namespace Go.Proofs.YtiodfenkbhlpdaaDoor
open Go.RowKit
theorem neq_fv3 (a b c : Int) (h : ¬ a = 0) (w : World) : (binOp .neq 28 (fv a b c) (fv 0 0 0)).run Tryd.prog w = .ok (.bool true) w := by
  have h2 : (a == 0) = false := by simpa using h
  go_simp
theorem neq_fv0 (w : World) : (binOp .neq 28 (fv 0 0 0) (fv 0 0 0)).run Tryd.prog w = .ok (.bool false) w := by
  go_simp
theorem back_long (s : ByteArray) (b : Int) (h : 1500 < s.size) : PureS 3 #[.string s, .int .u8 b] (.bool true) := by
  intro w hS
  have hK := Lib.hid (known3 w hS)
  have h' : (1500 : Int) < s.size := by omega
  clear hS
  go_enter Tryd.func3, Tryd.ntmps3
  go_wp2_with fail
  refine hK.out.mono ?_
  rintro e w' ⟨rfl, x, rfl⟩
  go_wp2
  go_ret
  exact ⟨rfl, x, rfl⟩
set_option maxHeartbeats 4000000 in
theorem back_fault (s : ByteArray) (b : Int) (h : ¬ 1500 < s.size) (h0 : ¬ (lexR s).2.2 = 0) : PureS 3 #[.string s, .int .u8 b] (.bool true) := by
  intro w hS
  have hL := tok_lex s (by omega) w hS
  have hK := Lib.hid known3
  have hS' := Lib.hid hS
  unfold LexEnds at hL
  rw [fault1 s (lexR s) h0, lexR_none s h0] at hL
  generalize (lexR s).2.2 = E at hL h0
  generalize lineOf s (lexR s).2.1 = l at hL
  generalize colOf s (lexR s).2.1 = c at hL
  have q := neq_fv3 E (l : Nat) (c : Nat) h0
  have hL' := Lib.hid hL
  have h' : ¬ (1500 : Int) < s.size := by omega
  clear hL hS h h0
  go_enter Tryd.func3, Tryd.ntmps3
  go_wp2_with fail
  refine hL'.out.mono ?_
  rintro e W1 ⟨v1, rfl, own1, hB1⟩
  obtain ⟨a0, c0, rfl⟩ : ∃ a c, v1 = .slice a 0 c := by
    rcases own1.2 with ⟨rfl, _⟩ | ⟨g, cap, cur, rfl, _⟩
    · exact ⟨_, _, rfl⟩
    · exact ⟨_, _, rfl⟩
  have hB2 := Lib.hid (hB1.alloc hB1.size (.cells #[.int .i64 E, .int .i64 (l : Nat), .int .i64 (c : Nat)] 28))
  clear own1 hB1
  go_wp2_with fail
  refine (hK.out _ (hS'.out.below hB2.out)).mono ?_
  rintro e w' ⟨rfl, x, rfl⟩
  go_wp2
  go_ret
  exact ⟨rfl, plus_of_below (hB2.out.trans ((below_plus _ x).mono hB2.out.size))⟩
end Go.Proofs.YtiodfenkbhlpdaaDoor
