/-
  WHAT IS PROVED HERE: a part of the proof (made narrower and merged by program; the parts: Ph).
-/
import Derived.Test.YtbelaghcmgefaaaGreatDoorRows
import Derived.Lib.ItoaNum
import Derived.Test.YtbelaghcmgefaaaGreatDoorM29
import Derived.Test.YtbelaghcmgefaaaGreatDoorM9
import Derived.Test.YtbelaghcmgefaaaGreatDoorM34
namespace Go.Proofs.YtbelaghcmgefaaaGreatDoor
open Go.RowKit
theorem digB_dec (n J:Nat) (hz:n / 10 ^ (J + 1) = 0) (hnz:∀ j,j < J → n / 10 ^ (j + 1) ≠ 0):digB n J = Lib.decDigits n:=by
 have h1:n < 10 ^ (J + 1):=by
  rcases Nat.lt_or_ge n (10 ^ (J + 1)) with h | h
  ·exact h
  ·have:=Nat.div_pos h (Nat.pow_pos (by decide))
   omega
 have h2:Lib.nDigits n = J + 1:=by
  cases J with
  | zero=>exact Lib.nDigits_small (by simpa using h1)
  | succ j =>
   refine Lib.nDigits_unique (j + 1) n ?_ h1
   rcases Nat.lt_or_ge n (10 ^ (j + 1)) with h | h
   ·exact absurd (Nat.div_eq_of_lt h) (hnz j (by omega))
   ·exact h
 rw [Lib.decDigits_eq,h2]
 unfold digB
 refine List.map_congr_left fun t ht=>?_
 unfold Lib.dg
 rw [Nat.add_sub_cancel]
abbrev numS (n:Nat):ByteArray:=⟨(Lib.decDigits n).toArray⟩
theorem num_dec (n:Nat) (hn:n < B128):Pure Tryz.prog 89 #[nv n] (.string (numS n)):=by
 obtain ⟨J,hz,hnz⟩:=ndig n
 have h:=num_text n J hn (ndig_le n J hn hnz) hz hnz
 rwa [digB_dec n J hz hnz] at h
theorem numS_len (n:Nat) (hn:n < B128):(Lib.decDigits n).length ≤ 39:=by
 obtain ⟨J,hz,hnz⟩:=ndig n
 rw [← digB_dec n J hz hnz]
 have:=ndig_le n J hn hnz
 simp only [digB,List.length_map,List.length_range]
 omega
/-- A sign's text. -/
def sgL (op:Int):List UInt8 :=
 if op = 7 then [126] else
 if op = 8 then [45] else
 if op = 9 then [33] else
 if op = 11 then [43,43] else
 if op = 12 then [43] else
 if op = 13 then [45] else
 if op = 14 then [60,60] else
 if op = 15 then [62,62] else
 if op = 16 then [38] else
 if op = 17 then [94] else
 if op = 18 then [124] else
 if op = 19 then [61,61] else
 if op = 20 then [33,61] else
 if op = 21 then [60] else
 if op = 22 then [60,61] else
 if op = 23 then [62] else
 if op = 24 then [62,61] else
 if op = 25 then [38,38] else
 if op = 26 then [124,124] else
 []
/-- A key's word. -/
def kwL (k:Int):List UInt8:=if k = 1 then [101,120,97,99,116] else if k = 2 then [108,112,109] else if k = 3 then [116,101,114,110,97,114,121] else []
/-- A number's text. -/
def Lt.tx (t:Lt):List UInt8:=(if 0 < t.w then Lib.itoa t.w++[119] else [])++Lib.decDigits t.n
/-- .. in brackets, if it has so many. -/
def brL (n:Nat) (t:List UInt8):List UInt8:=if n = 0 then t else [40]++(t++[41])
/-- An expression's text, by those of its operands. -/
def leafL (op:Int) (lit:Lt) (head name:ByteArray):List UInt8 :=
 if op = 1 then lit.tx else if op = 2 then head.data.toList++([46]++name.data.toList) else if op = 3 then [109,101,116,97,46]++name.data.toList else if op = 4 then name.data.toList else if op = 5 then [112,111,114,116] else
 if op = 6 then [105,115,86,97,108,105,100,40]++(head.data.toList++[41]) else []
def exL (op:Int) (lit:Lt) (head name:ByteArray) (hi lo:Int):List (List UInt8) → List UInt8
 | []=>leafL op lit head name
 | [a]=>if op = 10 then a++([91]++(Lib.itoa hi++([58]++(Lib.itoa lo++[93])))) else sgL op++a
 | a :: b :: _=>a++([32]++(sgL op++([32]++b)))
mutual
def Ex.tx:Ex → List UInt8
 | .mk op lit head name hi lo _ _ l=>exL op lit head name hi lo (Ex.txs l)
def Ex.txs:List Ex → List (List UInt8)
 | []=>[]
 | x :: l=>brL x.args.length x.tx :: Ex.txs l
end
/-- .. in brackets, if it has operands. -/
def Ex.at (x:Ex):List UInt8:=brL x.args.length x.tx
theorem Ex.txs_map:∀ l:List Ex,Ex.txs l = l.map Ex.at
 | []=>by simp [Ex.txs]
 | x :: l=>by simp [Ex.txs,Ex.txs_map l,Ex.at]
theorem Ex.tx_eq (e:Ex):e.tx = exL e.op e.lit e.head e.name e.hi e.lo (e.args.map Ex.at):=by
 cases e;simp [Ex.tx,Ex.txs_map,Ex.op,Ex.lit,Ex.head,Ex.name,Ex.hi,Ex.lo,Ex.args]
def Fd.tx (f:Fd):List UInt8:=[98,105,116,60]++(Lib.itoa f.w++([62,32]++f.name.data.toList))
/-- A field's line, so deep. -/
def Fd.ln (d:Nat) (f:Fd):List UInt8:=padB d++(f.tx++[59,10])
/-- A block of these lines. -/
def blkB {α:Type} (f:Nat → α → List UInt8) (d:Nat) (l:List α):List UInt8:=[32,123,10]++(flat (f (d + 1)) l++(padB d++[125,10]))
def Hr.tx (h:Hr):List UInt8:=[104,101,97,100,101,114,32]++(h.name.data.toList++blkB Fd.ln 0 h.fields.l)
def Se.tx (s:Se):List UInt8:=if s.kind = 1 then [95] else if s.kind = 2 then s.v.tx else if s.kind = 3 then s.v.tx++([32,38,38,38,32]++s.m.tx) else []
def Ca.ln (d:Nat) (c:Ca):List UInt8:=padB d++((if c.dflt then [100,101,102,97,117,108,116] else rowB Se.tx c.sets.l)++([58,32]++(c.to.data.toList++[59,10])))
def takeL (d:Nat) (s:ByteArray):List UInt8:=padB d++([101,120,116,114,97,99,116,40]++(s.data.toList++[41,59,10]))
def emitL (d:Nat) (s:ByteArray):List UInt8:=padB d++([101,109,105,116,40]++(s.data.toList++[41,59,10]))
def listL (d:Nat) (s:ByteArray):List UInt8:=padB d++(s.data.toList++[59,10])
/-- A state's transition. -/
def Sa.tr (d:Nat) (s:Sa):List UInt8 :=
 if s.to.data.toList = [] then padB d++([116,114,97,110,115,105,116,105,111,110,32,115,101,108,101,99,116,40]++(rowB Ex.tx s.keys.l++([41]++blkB Ca.ln d s.cases.l))) else padB d++([116,114,97,110,115,105,116,105,111,110,32]++(s.to.data.toList++[59,10]))
def Sa.ln (d:Nat) (s:Sa):List UInt8:=padB d++([115,116,97,116,101,32]++(s.name.data.toList++([32,123,10]++(flat (takeL (d + 1)) s.takes.l++(s.tr (d + 1)++(padB d++[125,10]))))))
def asgL (head name:ByteArray) (t:List UInt8):List UInt8:=(if head.data.toList = [] then [109,101,116,97] else head.data.toList)++([46]++(name.data.toList++([32,61,32]++(t++[59,10]))))
def stL (k:Int) (head name:ByteArray) (t:List UInt8) (pad thn:List UInt8) (els:Option (List UInt8)):List UInt8 :=
 if k = 1 then asgL head name t else
 if k = 2 then [105,102,32,40]++(t++([41,32,123,10]++(thn++((match els with | none=>[] | some x=>pad++([125,32,101,108,115,101,32,123,10]++x))++(pad++[125,10]))))) else
 if k = 3 then [97,112,112,108,121,32]++(name.data.toList++[59,10]) else
 if k = 4 then [100,114,111,112,59,10] else
 if k = 5 then [102,111,114,119,97,114,100,40]++(t++[41,59,10]) else
 if k = 6 then [118,97,108,105,100,32]++(head.data.toList++[59,10]) else
 if k = 7 then [105,110,118,97,108,105,100,32]++(head.data.toList++[59,10]) else []
mutual
/-- A statement's lines, so deep. -/
def St.ln:Nat → St → List UInt8
 | d,.mk k head name e _ _ thn _ _ els=>padB d++stL k head name e.tx (padB d) (St.lns (d + 1) thn) (if els.length = 0 then none else some (St.lns (d + 1) els))
def St.lns:Nat → List St → List UInt8
 | _,[]=>[]
 | d,x :: l=>St.ln d x++St.lns d l
end
theorem St.lns_flat (d:Nat):∀ l:List St,St.lns d l = flat (St.ln d) l
 | []=>by simp [St.lns,flat]
 | x :: l=>by simp [St.lns,flat,St.lns_flat d l]
theorem St.ln_eq (d:Nat) (s:St):s.ln d = padB d++stL s.kind s.head s.name s.e.tx (padB d) (flat (St.ln (d + 1)) s.thn) (if s.els.length = 0 then none else some (flat (St.ln (d + 1)) s.els)):=by
 cases s;simp [St.ln,St.lns_flat,St.kind,St.head,St.name,St.e,St.thn,St.els]
def Ac.tx (a:Ac):List UInt8:=[97,99,116,105,111,110,32]++(a.name.data.toList++([40]++(rowB Fd.tx a.params.l++([41]++blkB St.ln 0 a.body.l))))
def Ke.ln (d:Nat) (k:Ke):List UInt8:=padB d++(k.e.tx++([58,32]++(kwL k.kind++[59,10])))
def Ta.tx (t:Ta):List UInt8:=[116,97,98,108,101,32]++(t.name.data.toList++([32,123,10]++([32,32]++([107,101,121]++(blkB Ke.ln 1 t.keys.l++([32,32]++([97,99,116,105,111,110,115]++(blkB listL 1 t.actions.l++([32,32]++([100,101,102,97,117,108,116,32]++(t.dflt.name.data.toList++([40]++(rowB Lt.tx t.dflt.args.l++([41,59,10]++[125,10]))))))))))))))
def Pr.tx (p:Pr):List UInt8:=flat Hr.tx p.headers.l++([109,101,116,97,100,97,116,97]++(blkB Fd.ln 0 p.metas.l++([112,97,114,115,101,114]++(blkB Sa.ln 0 p.states.l++(flat Ac.tx p.actions.l++(flat Ta.tx p.tables.l++([99,111,110,116,114,111,108]++(blkB St.ln 0 p.control.l++([100,101,112,97,114,115,101,114]++blkB emitL 0 p.emit.l)))))))))
end Go.Proofs.YtbelaghcmgefaaaGreatDoor
