/-
  WHAT IS PROVED HERE: a part of the proof (made narrower and merged by program; the parts: Vb Vc).
-/
import Derived.Test.YtheaknidbcbneaaGreatM23
import Derived.Test.YtheaknidbcbneaaGreatM27
set_option maxRecDepth 100000
set_option maxHeartbeats 8000000
set_option linter.all false
namespace Go.Proofs.YtheaknidbcbneaaGreat
open Go.RowKit Go.Proofs.Tryz
open Go.RowKit
abbrev FA(w:Int)(tr fr:Bool):Value:=.agg #[.int .i64 w,.bool tr,.bool fr]
abbrev Fz(r:Int × Ty):Value:=.tuple #[FA r.2.w r.2.tr r.2.fr,.int .i64 r.1]
theorem ZE{W W2:World}{z:ZA}{a:Addr}{v:Option Value}(hz:W2=plus W z)(h:∀y,(plus W y).cell? a=v):∀y,(plus W2 y).cell? a=v:=fun y=>by rw[hz,Zx];exact h _
end Go.Proofs.YtheaknidbcbneaaGreat
