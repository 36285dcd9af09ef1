/-
  WHAT IS PROVED HERE: a part of the proof (made narrower and merged by program; the parts: Hb UU Ha PN).
-/
import Derived.Test.YtlmhldcebllckaaGreatRows
import Derived.WalkKit
import Derived.Lib.Hide
import Derived.LoopN
import Derived.MapKept
import Derived.WalkSpells
import Derived.WalkLawsBesides
import Derived.Lib.IndexBytes
import Derived.Lib.Strings
import Derived.Laws.BitsAllLaws
import Derived.Shelf.Spec.BitsCarry
import Derived.Test.YtlmhldcebllckaaGreatM3
import Derived.Test.YtlmhldcebllckaaGreatM1
namespace Go.Proofs.YtlmhldcebllckaaGreat
open Go.RowKit
/-- Block r is a map with these entries. -/
def MapAt (w:World) (r:Nat) (es:Array MapEntry):Prop:=∃ n,w.heap[r]? = some (.map es n)
theorem MapAt.lt {w:World} {r:Nat} {es:Array MapEntry} (h:MapAt w r es):r < w.heap.size:=by
 obtain ⟨n,h⟩:=h
 exact (Array.getElem?_eq_some_iff.1 h).1
theorem MapAt.plus {w:World} {r:Nat} {es:Array MapEntry} (h:MapAt w r es) (x:Ext):MapAt (plus w x) r es:=by
 have hl:=h.lt
 obtain ⟨n,h⟩:=h
 exact ⟨n,by simp [Go.Proofs.YtlmhldcebllckaaGreat.plus,Array.getElem?_append,hl];exact (Array.getElem?_eq_some_iff.1 h).2⟩
theorem MapAt.alloc {w:World} {r:Nat} {es:Array MapEntry} (h:MapAt w r es) (a:Obj):MapAt (w.alloc a) r es:=by
 obtain ⟨x,hx⟩:=alloc1_plus w a
 rw [hx];exact h.plus x
/-- What stands at a key, and whether one does. -/
def getIn (z:Value) (i:Int):List MapEntry → Value × Bool
 | []=>(z,false)
 | e :: l=>match e.key with
  | .int .u8 b=>if i == b then (e.val,true) else getIn z i l
  | _=>(z,false)
def u8Keys (l:List MapEntry):Prop:=∀ e ∈ l,∃ b,e.key = .int .u8 b
theorem find_get (z:Value) (i:Int):∀ (l:List MapEntry) (j:Nat),u8Keys l → ∃ r,Instr.findNow (.int .u8) (.int .u8 i) l j = some r ∧ ((∃ a v,r = some (a,v) ∧ getIn z i l = (v,true)) ∨ (r = none ∧ getIn z i l = (z,false)))
 | [],j,_=>⟨none,rfl,.inr ⟨rfl,rfl⟩⟩
 | e :: l,j,h=>by
  obtain ⟨b,hb⟩:=h e (List.mem_cons_self)
  cases hib:(i == b) with
  | true=>exact ⟨some (j,e.val),by simp [Instr.findNow,Instr.sameNow,hb,hib],.inl ⟨_,_,rfl,by simp [getIn,hb,hib]⟩⟩
  | false =>
   obtain ⟨r,h1,h2⟩:=find_get z i l (j + 1) (fun e he=>h e (List.mem_cons_of_mem _ he))
   refine ⟨r,by simpa [Instr.findNow,Instr.sameNow,hb,hib] using h1,?_⟩
   simpa [getIn,hb,hib] using h2
theorem look_u8 {P:Program} {w:World} {mt kt et:TypeId} {r:Nat} {es:Array MapEntry} {z:Value} (hm:P.underlying mt = some (.map kt et)) (hk:P.underlying kt = some (.int .u8)) (hz:(zeroValue et).run P w = .ok z w) (h:MapAt w r es) (hu:u8Keys es.toList) (i:Int) :
  (Instr.lookup mt (.map (some r)) (.int .u8 i) true).run P w = .ok (.tuple #[(getIn z i es.toList).1,.bool (getIn z i es.toList).2]) w:=by
 obtain ⟨n,hb⟩:=h
 obtain ⟨q,h1,h2⟩:=find_get z i es.toList 0 hu
 have hc:(Instr.checkKey es.isEmpty 10000 kt (.int .u8 i)).run P w = .ok () w:=MapKept.run_checkKey (k:=.int .u8 i) hk (by simp [MapKept.IsKey]) _ 9999
 rcases h2 with ⟨a,v,rfl,hg⟩ | ⟨rfl,hg⟩
 ·simp [Instr.lookup,run_underlying hm,MapKept.run_getObj_map hb,hc,MapKept.run_findKey hk h1,Result.andThen,hg]
 ·simp [Instr.lookup,run_underlying hm,MapKept.run_getObj_map hb,hc,MapKept.run_findKey hk h1,Result.andThen,hg,hz]
theorem push_set {α:Type} (a:Array α) (x y:α):(a.push x).setIfInBounds a.size y = a.push y:=by
 apply Array.ext_getElem?
 intro i
 rw [Array.getElem?_setIfInBounds,Array.getElem?_push,Array.getElem?_push]
 by_cases h:a.size = i
 ·subst h;simp
 ·rw [if_neg h,if_neg (fun e=>h e.symm),if_neg (fun e=>h e.symm)]
theorem upd_u8 {P:Program} {mt kt et:TypeId} (hm:P.underlying mt = some (.map kt et)) (hk:P.underlying kt = some (.int .u8)) (V:World) (es:Array MapEntry) (n:Nat) (k:Int) (v:Value) (hn:Instr.findNow (.int .u8) (.int .u8 k) es.toList 0 = some none) :
  (Instr.mapUpdate mt (.map (some V.heap.size)) (.int .u8 k) v).run P (V.alloc (.map es n)) = .ok () (V.alloc (.map (es.push ⟨.int .u8 k,v,n⟩) (n + 1))):=by
 have hb:(V.alloc (.map es n)).heap[V.heap.size]? = some (.map es n):=by
  show (V.heap.push _)[V.heap.size]? = _
  simp
 have hc:(Instr.checkKey false 10000 kt (.int .u8 k)).run P (V.alloc (.map es n)) = .ok () (V.alloc (.map es n)):=MapKept.run_checkKey (k:=.int .u8 k) hk (by simp [MapKept.IsKey]) false 9999
 simp only [Instr.mapUpdate,Sem.run_bind,run_underlying hm,hc,MapKept.run_getObj_map hb,MapKept.run_findKey hk hn,MapKept.run_setObj_map _ hb,Result.andThen]
 refine congrArg (Result.ok ()) ?_
 show ({ V with heap:=(V.heap.push _).setIfInBounds V.heap.size _ }:World) = { V with heap:=V.heap.push _ }
 congr 1
 exact push_set _ _ _
/-- The forms of an expression: has it a number, ends; head, name: 0 none, 1 one, 2 maybe one; how many Args; is the second one an amount? -/
def xLit (op:Int):Bool:=op == 1
def xSlice (op:Int):Bool:=op == 10
def xHead (op:Int):Int:=if op = 2 ∨ op = 6 then 1 else 0
def xName (op:Int):Int:=if op = 2 ∨ op = 3 ∨ op = 4 then 1 else 0
def xArgs (op:Int):Int:=if 7 ≤ op ∧ op ≤ 10 then 1 else if 11 ≤ op ∧ op ≤ 26 then 2 else 0
def xShift (op:Int):Bool:=op == 14 || op == 15
def xIs (op:Int):Bool:=decide (1 ≤ op ∧ op ≤ 26)
def xVal (op:Int):Value:=.agg #[.bool (xLit op),.bool (xSlice op),.int .u8 (xHead op),.int .u8 (xName op),.int .i64 (xArgs op),.bool (xShift op)]
def esX (n:Nat):Array MapEntry:=((List.range n).map fun (i:Nat)=>(⟨.int .u8 ((i:Int) + 1),xVal ((i:Int) + 1),i⟩:MapEntry)).toArray
def wX (V:World) (n:Nat):World:=V.alloc (.map (esX n) n)
/-- Of a set: has it a value, a mask? -/
def sV (k:Int):Bool:=k == 2 || k == 3
def sM (k:Int):Bool:=k == 3
def sIs (k:Int):Bool:=decide (1 ≤ k ∧ k ≤ 3)
def sVal (k:Int):Value:=.agg #[.bool (sV k),.bool (sM k)]
def esS (n:Nat):Array MapEntry:=((List.range n).map fun (i:Nat)=>(⟨.int .u8 ((i:Int) + 1),sVal ((i:Int) + 1),i⟩:MapEntry)).toArray
def wS (V:World) (n:Nat):World:=V.alloc (.map (esS n) n)
/-- Of a statement: head, name, an expression, blocks? -/
def tHead (k:Int):Int:=if k = 1 then 2 else if k = 6 ∨ k = 7 then 1 else 0
def tName (k:Int):Int:=if k = 1 ∨ k = 3 then 1 else 0
def tExpr (k:Int):Bool:=k == 1 || k == 2 || k == 5
def tBlocks (k:Int):Bool:=k == 2
def tIs (k:Int):Bool:=decide (1 ≤ k ∧ k ≤ 7)
def tVal (k:Int):Value:=.agg #[.int .u8 (tHead k),.int .u8 (tName k),.bool (tExpr k),.bool (tBlocks k)]
def esT (n:Nat):Array MapEntry:=((List.range n).map fun (i:Nat)=>(⟨.int .u8 ((i:Int) + 1),tVal ((i:Int) + 1),i⟩:MapEntry)).toArray
def wT (V:World) (n:Nat):World:=V.alloc (.map (esT n) n)
theorem upd_X (V:World) (n:Nat) (hn:Instr.findNow (.int .u8) (.int .u8 ((n:Int) + 1)) (esX n).toList 0 = some none) :
  (Instr.mapUpdate 91 (.map (some V.heap.size)) (.int .u8 ((n:Int) + 1)) (xVal ((n:Int) + 1))).run Tryz.prog (wX V n) = .ok () (wX V (n + 1)):=by
 unfold wX
 rw [upd_u8 Tryz.underlying91 Tryz.underlying5 V _ n _ _ hn]
 simp [esX,List.range_succ]
set_option maxRecDepth 100000 in
set_option maxHeartbeats 8000000 in
theorem forms_X (V:World):Calls Tryz.prog 88 #[] V fun e w'=>e = .returned (.map (some V.heap.size)) ∧ w' = wX V 26:=by
 have u0:(Instr.makeMap 91 none).run Tryz.prog V = .ok (.map (some V.heap.size)) (wX V 0):=rfl
 have v0:(Instr.mapUpdate 91 (.map (some V.heap.size)) (.int .u8 1) (.agg #[.bool true,.bool false,.int .u8 0,.int .u8 0,.int .i64 0,.bool false])).run Tryz.prog (wX V 0) = .ok () (wX V 1):=upd_X V 0 rfl
 have v1:(Instr.mapUpdate 91 (.map (some V.heap.size)) (.int .u8 2) (.agg #[.bool false,.bool false,.int .u8 1,.int .u8 1,.int .i64 0,.bool false])).run Tryz.prog (wX V 1) = .ok () (wX V 2):=upd_X V 1 rfl
 have v2:(Instr.mapUpdate 91 (.map (some V.heap.size)) (.int .u8 3) (.agg #[.bool false,.bool false,.int .u8 0,.int .u8 1,.int .i64 0,.bool false])).run Tryz.prog (wX V 2) = .ok () (wX V 3):=upd_X V 2 rfl
 have v3:(Instr.mapUpdate 91 (.map (some V.heap.size)) (.int .u8 4) (.agg #[.bool false,.bool false,.int .u8 0,.int .u8 1,.int .i64 0,.bool false])).run Tryz.prog (wX V 3) = .ok () (wX V 4):=upd_X V 3 rfl
 have v4:(Instr.mapUpdate 91 (.map (some V.heap.size)) (.int .u8 5) (.agg #[.bool false,.bool false,.int .u8 0,.int .u8 0,.int .i64 0,.bool false])).run Tryz.prog (wX V 4) = .ok () (wX V 5):=upd_X V 4 rfl
 have v5:(Instr.mapUpdate 91 (.map (some V.heap.size)) (.int .u8 6) (.agg #[.bool false,.bool false,.int .u8 1,.int .u8 0,.int .i64 0,.bool false])).run Tryz.prog (wX V 5) = .ok () (wX V 6):=upd_X V 5 rfl
 have v6:(Instr.mapUpdate 91 (.map (some V.heap.size)) (.int .u8 7) (.agg #[.bool false,.bool false,.int .u8 0,.int .u8 0,.int .i64 1,.bool false])).run Tryz.prog (wX V 6) = .ok () (wX V 7):=upd_X V 6 rfl
 have v7:(Instr.mapUpdate 91 (.map (some V.heap.size)) (.int .u8 8) (.agg #[.bool false,.bool false,.int .u8 0,.int .u8 0,.int .i64 1,.bool false])).run Tryz.prog (wX V 7) = .ok () (wX V 8):=upd_X V 7 rfl
 have v8:(Instr.mapUpdate 91 (.map (some V.heap.size)) (.int .u8 9) (.agg #[.bool false,.bool false,.int .u8 0,.int .u8 0,.int .i64 1,.bool false])).run Tryz.prog (wX V 8) = .ok () (wX V 9):=upd_X V 8 rfl
 have v9:(Instr.mapUpdate 91 (.map (some V.heap.size)) (.int .u8 10) (.agg #[.bool false,.bool true,.int .u8 0,.int .u8 0,.int .i64 1,.bool false])).run Tryz.prog (wX V 9) = .ok () (wX V 10):=upd_X V 9 rfl
 have v10:(Instr.mapUpdate 91 (.map (some V.heap.size)) (.int .u8 11) (.agg #[.bool false,.bool false,.int .u8 0,.int .u8 0,.int .i64 2,.bool false])).run Tryz.prog (wX V 10) = .ok () (wX V 11):=upd_X V 10 rfl
 have v11:(Instr.mapUpdate 91 (.map (some V.heap.size)) (.int .u8 12) (.agg #[.bool false,.bool false,.int .u8 0,.int .u8 0,.int .i64 2,.bool false])).run Tryz.prog (wX V 11) = .ok () (wX V 12):=upd_X V 11 rfl
 have v12:(Instr.mapUpdate 91 (.map (some V.heap.size)) (.int .u8 13) (.agg #[.bool false,.bool false,.int .u8 0,.int .u8 0,.int .i64 2,.bool false])).run Tryz.prog (wX V 12) = .ok () (wX V 13):=upd_X V 12 rfl
 have v13:(Instr.mapUpdate 91 (.map (some V.heap.size)) (.int .u8 14) (.agg #[.bool false,.bool false,.int .u8 0,.int .u8 0,.int .i64 2,.bool true])).run Tryz.prog (wX V 13) = .ok () (wX V 14):=upd_X V 13 rfl
 have v14:(Instr.mapUpdate 91 (.map (some V.heap.size)) (.int .u8 15) (.agg #[.bool false,.bool false,.int .u8 0,.int .u8 0,.int .i64 2,.bool true])).run Tryz.prog (wX V 14) = .ok () (wX V 15):=upd_X V 14 rfl
 have v15:(Instr.mapUpdate 91 (.map (some V.heap.size)) (.int .u8 16) (.agg #[.bool false,.bool false,.int .u8 0,.int .u8 0,.int .i64 2,.bool false])).run Tryz.prog (wX V 15) = .ok () (wX V 16):=upd_X V 15 rfl
 have v16:(Instr.mapUpdate 91 (.map (some V.heap.size)) (.int .u8 17) (.agg #[.bool false,.bool false,.int .u8 0,.int .u8 0,.int .i64 2,.bool false])).run Tryz.prog (wX V 16) = .ok () (wX V 17):=upd_X V 16 rfl
 have v17:(Instr.mapUpdate 91 (.map (some V.heap.size)) (.int .u8 18) (.agg #[.bool false,.bool false,.int .u8 0,.int .u8 0,.int .i64 2,.bool false])).run Tryz.prog (wX V 17) = .ok () (wX V 18):=upd_X V 17 rfl
 have v18:(Instr.mapUpdate 91 (.map (some V.heap.size)) (.int .u8 19) (.agg #[.bool false,.bool false,.int .u8 0,.int .u8 0,.int .i64 2,.bool false])).run Tryz.prog (wX V 18) = .ok () (wX V 19):=upd_X V 18 rfl
 have v19:(Instr.mapUpdate 91 (.map (some V.heap.size)) (.int .u8 20) (.agg #[.bool false,.bool false,.int .u8 0,.int .u8 0,.int .i64 2,.bool false])).run Tryz.prog (wX V 19) = .ok () (wX V 20):=upd_X V 19 rfl
 have v20:(Instr.mapUpdate 91 (.map (some V.heap.size)) (.int .u8 21) (.agg #[.bool false,.bool false,.int .u8 0,.int .u8 0,.int .i64 2,.bool false])).run Tryz.prog (wX V 20) = .ok () (wX V 21):=upd_X V 20 rfl
 have v21:(Instr.mapUpdate 91 (.map (some V.heap.size)) (.int .u8 22) (.agg #[.bool false,.bool false,.int .u8 0,.int .u8 0,.int .i64 2,.bool false])).run Tryz.prog (wX V 21) = .ok () (wX V 22):=upd_X V 21 rfl
 have v22:(Instr.mapUpdate 91 (.map (some V.heap.size)) (.int .u8 23) (.agg #[.bool false,.bool false,.int .u8 0,.int .u8 0,.int .i64 2,.bool false])).run Tryz.prog (wX V 22) = .ok () (wX V 23):=upd_X V 22 rfl
 have v23:(Instr.mapUpdate 91 (.map (some V.heap.size)) (.int .u8 24) (.agg #[.bool false,.bool false,.int .u8 0,.int .u8 0,.int .i64 2,.bool false])).run Tryz.prog (wX V 23) = .ok () (wX V 24):=upd_X V 23 rfl
 have v24:(Instr.mapUpdate 91 (.map (some V.heap.size)) (.int .u8 25) (.agg #[.bool false,.bool false,.int .u8 0,.int .u8 0,.int .i64 2,.bool false])).run Tryz.prog (wX V 24) = .ok () (wX V 25):=upd_X V 24 rfl
 have v25:(Instr.mapUpdate 91 (.map (some V.heap.size)) (.int .u8 26) (.agg #[.bool false,.bool false,.int .u8 0,.int .u8 0,.int .i64 2,.bool false])).run Tryz.prog (wX V 25) = .ok () (wX V 26):=upd_X V 25 rfl
 go_enter Tryz.func88,Tryz.ntmps88
 go_wp2
 refine wp_loop_rounds 17 ?_
 iterate 17 (rw [rounds_succ];go_wp2)
 go_ret
 exact ⟨rfl,rfl⟩
theorem upd_S (V:World) (n:Nat) (hn:Instr.findNow (.int .u8) (.int .u8 ((n:Int) + 1)) (esS n).toList 0 = some none) :
  (Instr.mapUpdate 92 (.map (some V.heap.size)) (.int .u8 ((n:Int) + 1)) (sVal ((n:Int) + 1))).run Tryz.prog (wS V n) = .ok () (wS V (n + 1)):=by
 unfold wS
 rw [upd_u8 Tryz.underlying92 Tryz.underlying5 V _ n _ _ hn]
 simp [esS,List.range_succ]
set_option maxRecDepth 100000 in
set_option maxHeartbeats 8000000 in
theorem forms_S (V:World):Calls Tryz.prog 89 #[] V fun e w'=>e = .returned (.map (some V.heap.size)) ∧ w' = wS V 3:=by
 have u0:(Instr.makeMap 92 none).run Tryz.prog V = .ok (.map (some V.heap.size)) (wS V 0):=rfl
 have v0:(Instr.mapUpdate 92 (.map (some V.heap.size)) (.int .u8 1) (.agg #[.bool false,.bool false])).run Tryz.prog (wS V 0) = .ok () (wS V 1):=upd_S V 0 rfl
 have v1:(Instr.mapUpdate 92 (.map (some V.heap.size)) (.int .u8 2) (.agg #[.bool true,.bool false])).run Tryz.prog (wS V 1) = .ok () (wS V 2):=upd_S V 1 rfl
 have v2:(Instr.mapUpdate 92 (.map (some V.heap.size)) (.int .u8 3) (.agg #[.bool true,.bool true])).run Tryz.prog (wS V 2) = .ok () (wS V 3):=upd_S V 2 rfl
 go_enter Tryz.func89,Tryz.ntmps89
 go_wp2
 go_ret
 exact ⟨rfl,rfl⟩
theorem upd_T (V:World) (n:Nat) (hn:Instr.findNow (.int .u8) (.int .u8 ((n:Int) + 1)) (esT n).toList 0 = some none) :
  (Instr.mapUpdate 93 (.map (some V.heap.size)) (.int .u8 ((n:Int) + 1)) (tVal ((n:Int) + 1))).run Tryz.prog (wT V n) = .ok () (wT V (n + 1)):=by
 unfold wT
 rw [upd_u8 Tryz.underlying93 Tryz.underlying5 V _ n _ _ hn]
 simp [esT,List.range_succ]
set_option maxRecDepth 100000 in
set_option maxHeartbeats 8000000 in
theorem forms_T (V:World):Calls Tryz.prog 90 #[] V fun e w'=>e = .returned (.map (some V.heap.size)) ∧ w' = wT V 7:=by
 have u0:(Instr.makeMap 93 none).run Tryz.prog V = .ok (.map (some V.heap.size)) (wT V 0):=rfl
 have v0:(Instr.mapUpdate 93 (.map (some V.heap.size)) (.int .u8 1) (.agg #[.int .u8 2,.int .u8 1,.bool true,.bool false])).run Tryz.prog (wT V 0) = .ok () (wT V 1):=upd_T V 0 rfl
 have v1:(Instr.mapUpdate 93 (.map (some V.heap.size)) (.int .u8 2) (.agg #[.int .u8 0,.int .u8 0,.bool true,.bool true])).run Tryz.prog (wT V 1) = .ok () (wT V 2):=upd_T V 1 rfl
 have v2:(Instr.mapUpdate 93 (.map (some V.heap.size)) (.int .u8 3) (.agg #[.int .u8 0,.int .u8 1,.bool false,.bool false])).run Tryz.prog (wT V 2) = .ok () (wT V 3):=upd_T V 2 rfl
 have v3:(Instr.mapUpdate 93 (.map (some V.heap.size)) (.int .u8 4) (.agg #[.int .u8 0,.int .u8 0,.bool false,.bool false])).run Tryz.prog (wT V 3) = .ok () (wT V 4):=upd_T V 3 rfl
 have v4:(Instr.mapUpdate 93 (.map (some V.heap.size)) (.int .u8 5) (.agg #[.int .u8 0,.int .u8 0,.bool true,.bool false])).run Tryz.prog (wT V 4) = .ok () (wT V 5):=upd_T V 4 rfl
 have v5:(Instr.mapUpdate 93 (.map (some V.heap.size)) (.int .u8 6) (.agg #[.int .u8 1,.int .u8 0,.bool false,.bool false])).run Tryz.prog (wT V 5) = .ok () (wT V 6):=upd_T V 5 rfl
 have v6:(Instr.mapUpdate 93 (.map (some V.heap.size)) (.int .u8 7) (.agg #[.int .u8 1,.int .u8 0,.bool false,.bool false])).run Tryz.prog (wT V 6) = .ok () (wT V 7):=upd_T V 6 rfl
 go_enter Tryz.func90,Tryz.ntmps90
 go_wp2
 go_ret
 exact ⟨rfl,rfl⟩
/-- A text's byte; 256 where there is none. -/
def byN (s:ByteArray) (k:Nat):Nat:=match s.data[k]? with | some b=>b.toNat | none=>256
theorem byN_at {s:ByteArray} {k:Nat} (h:k < s.size):byN s k = (s[k]).toNat:=by
 have h':k < s.data.size:=h
 unfold byN
 rw [Array.getElem?_eq_getElem h']
 rfl
def isLet (c:Nat):Bool:=decide ((97 ≤ c ∧ c ≤ 122) ∨ (65 ≤ c ∧ c ≤ 90) ∨ c = 95)
def isDig (c:Nat):Bool:=decide (48 ≤ c ∧ c ≤ 57)
theorem ref_letter (c:Nat) (w:World) (h:c < 256):Calls Tryz.prog 116 #[.int .u8 (c:Int)] w fun e w'=>e = .returned (.bool (isLet c)) ∧ w = w':=by
 obtain ⟨b,hb⟩:∃ b,isLet c = b:=⟨_,rfl⟩
 have hb':=Lib.hid hb
 rw [hb]
 clear hb
 go_enter Tryz.func116,Tryz.ntmps116
 go_wp2
 all_goals
  go_ret
  refine ⟨?_,rfl⟩
  show Ending.returned (.bool _) = Ending.returned (.bool _)
  refine congrArg (fun x=>Ending.returned (.bool x)) ?_
  rw [← hb'.out]
  unfold isLet
  rw [Bool.eq_iff_iff]
  simp
  omega
theorem ref_digit3 (c:Nat) (w:World) (h:c < 256):Calls Tryz.prog 114 #[.int .u8 (c:Int)] w fun e w'=>e = .returned (.bool (isDig c)) ∧ w = w':=by
 obtain ⟨b,hb⟩:∃ b,isDig c = b:=⟨_,rfl⟩
 have hb':=Lib.hid hb
 rw [hb]
 clear hb
 go_enter Tryz.func114,Tryz.ntmps114
 go_wp2
 all_goals
  go_ret
  refine ⟨?_,rfl⟩
  show Ending.returned (.bool _) = Ending.returned (.bool _)
  refine congrArg (fun x=>Ending.returned (.bool x)) ?_
  rw [← hb'.out]
  unfold isDig
  rw [Bool.eq_iff_iff]
  simp
  omega
theorem abs_world3 {P:Program} {c:Code} {Q:Exit → Act → World → Prop} {a:Act} {W:World} {T:World → Prop} (h:∀ W,T W → c.wp P Q a W) (hT:T W):c.wp P Q a W:=h W hT
/-- A table of texts, and its cells. -/
def tabCells (t:Array ByteArray):Array Value:=t.map Value.string
theorem tab_cells {t:Array ByteArray} {k:Nat} (h:k < t.size):(tabCells t)[k]? = some (.string t[k]):=by
 unfold tabCells
 rw [Array.getElem?_map,Array.getElem?_eq_getElem h]
 rfl
def kwTab:Array ByteArray:=#[⟨#[104,101,97,100,101,114]⟩,⟨#[109,101,116,97,100,97,116,97]⟩,⟨#[98,105,116]⟩,⟨#[112,97,114,115,101,114]⟩,⟨#[115,116,97,116,101]⟩,⟨#[101,120,116,114,97,99,116]⟩,⟨#[116,114,97,110,115,105,116,105,111,110]⟩,⟨#[115,101,108,101,99,116]⟩,⟨#[97,99,99,101,112,116]⟩,⟨#[114,101,106,101,99,116]⟩,⟨#[100,101,102,97,117,108,116]⟩,⟨#[97,99,116,105,111,110]⟩,⟨#[116,97,98,108,101]⟩,⟨#[107,101,121]⟩,⟨#[97,99,116,105,111,110,115]⟩,⟨#[101,120,97,99,116]⟩,⟨#[108,112,109]⟩,⟨#[116,101,114,110,97,114,121]⟩,⟨#[99,111,110,116,114,111,108]⟩,⟨#[97,112,112,108,121]⟩,⟨#[105,102]⟩,⟨#[101,108,115,101]⟩,⟨#[100,114,111,112]⟩,⟨#[102,111,114,119,97,114,100]⟩,⟨#[118,97,108,105,100]⟩,⟨#[105,110,118,97,108,105,100]⟩,⟨#[100,101,112,97,114,115,101,114]⟩,⟨#[101,109,105,116]⟩,⟨#[109,101,116,97]⟩,⟨#[112,111,114,116]⟩,⟨#[105,115,86,97,108,105,100]⟩,⟨#[95]⟩]
theorem kwCells_eq:tabCells kwTab = #[.string ⟨#[104,101,97,100,101,114]⟩,.string ⟨#[109,101,116,97,100,97,116,97]⟩,.string ⟨#[98,105,116]⟩,.string ⟨#[112,97,114,115,101,114]⟩,.string ⟨#[115,116,97,116,101]⟩,.string ⟨#[101,120,116,114,97,99,116]⟩,.string ⟨#[116,114,97,110,115,105,116,105,111,110]⟩,.string ⟨#[115,101,108,101,99,116]⟩,.string ⟨#[97,99,99,101,112,116]⟩,.string ⟨#[114,101,106,101,99,116]⟩,.string ⟨#[100,101,102,97,117,108,116]⟩,.string ⟨#[97,99,116,105,111,110]⟩,.string ⟨#[116,97,98,108,101]⟩,.string ⟨#[107,101,121]⟩,.string ⟨#[97,99,116,105,111,110,115]⟩,.string ⟨#[101,120,97,99,116]⟩,.string ⟨#[108,112,109]⟩,.string ⟨#[116,101,114,110,97,114,121]⟩,.string ⟨#[99,111,110,116,114,111,108]⟩,.string ⟨#[97,112,112,108,121]⟩,.string ⟨#[105,102]⟩,.string ⟨#[101,108,115,101]⟩,.string ⟨#[100,114,111,112]⟩,.string ⟨#[102,111,114,119,97,114,100]⟩,.string ⟨#[118,97,108,105,100]⟩,.string ⟨#[105,110,118,97,108,105,100]⟩,.string ⟨#[100,101,112,97,114,115,101,114]⟩,.string ⟨#[101,109,105,116]⟩,.string ⟨#[109,101,116,97]⟩,.string ⟨#[112,111,114,116]⟩,.string ⟨#[105,115,86,97,108,105,100]⟩,.string ⟨#[95]⟩]:=by simp [tabCells,kwTab]
def kwAt (k:Nat):ByteArray:=kwTab.getD k ByteArray.empty
theorem kw_cells (k:Nat) (h:k < 32):(tabCells kwTab)[k]? = some (.string (kwAt k)):=by
 have hs:k < kwTab.size:=h
 rw [tab_cells hs]
 unfold kwAt
 simp [Array.getD,hs]
/-- Is it a keyword? -/
def kwB (s:ByteArray):Bool:=(List.range 32).any fun k=>decide (kwAt k = s)
theorem kwB_yes {s:ByteArray} {k:Nat} (h:k < 32) (e:kwAt k = s):kwB s = true:=by
 unfold kwB;rw [List.any_eq_true];exact ⟨k,List.mem_range.2 h,decide_eq_true e⟩
theorem kwB_no {s:ByteArray} (h:∀ k,k < 32 → ¬ kwAt k = s):kwB s = false:=by
 unfold kwB
 rw [List.any_eq_false]
 intro k hk
 rw [decide_eq_false (h k (List.mem_range.1 hk))]
 simp
theorem str_beq (a b:ByteArray):(a.toList == b.toList) = decide (a = b):=by
 rw [Bool.eq_iff_iff,beq_iff_eq,decide_eq_true_eq,Lib.toList_data,Lib.toList_data]
 exact ⟨fun h=>ByteArray.ext (Array.toList_inj.1 h),fun h=>by rw [h]⟩
set_option maxHeartbeats 1000000 in
theorem ref_keyword (s:ByteArray):Pure Tryz.prog 115 #[.string s] (.bool (kwB s)):=by
 intro w
 have hcells:∀ k:Nat,k < 32 → (w.alloc (.cells (tabCells kwTab) 9)).cell? ⟨w.heap.size,k,none⟩ = some (.string (kwAt k)):=fun k hk=>(cell_new w (tabCells kwTab) 9 _ k rfl).trans (kw_cells k hk)
 have hB:Below w.heap.size w (w.alloc (.cells (tabCells kwTab) 9)):=(Below.refl _ _).alloc (Nat.le_refl _) _
 rw [kwCells_eq] at hB hcells
 replace hcells:=Lib.hid hcells
 replace hB:=Lib.hid hB
 go_enter Tryz.func115,Tryz.ntmps115
 go_wp2
 refine abs_world3 (T:=fun W=>Below w.heap.size w W ∧ ∀ k:Nat,k < 32 → W.cell? ⟨w.heap.size,k,none⟩ = some (.string (kwAt k))) ?_ ⟨hB.out,hcells.out⟩
 clear hB hcells
 rintro W ⟨hB,hcells⟩
 have hcells':=Lib.hid hcells
 clear hcells
 go_loopw [4] (fun iv wr=>∃ k:Nat,k ≤ 32 ∧ iv = .int .i64 (k:Int) ∧ wr = W ∧ ∀ j:Nat,j < k → ¬ kwAt j = s) (fun iv _=>32 - (intOf iv).toNat)
 case atStart=>exact ⟨0,Nat.zero_le _,rfl,rfl,fun j hj=>absurd hj (by omega)⟩
 case round =>
  obtain ⟨k,hk,rfl,rfl,hno⟩:=hrel
  by_cases hlt:k < 32
  ·have hc:=hcells'.out k hlt
   by_cases he:kwAt k = s
   ·have hv':=Lib.hid (kwB_yes hlt he)
    rw [he] at hc
    have q:(s.toList == s.toList) = true:=by rw [str_beq,decide_eq_true rfl]
    clear hno he
    go_wp2
    go_ret
    exact ⟨by rw [hv'.out];rfl,plus_of_below hB⟩
   ·have hno':=Lib.hid hno
    have he':=Lib.hid he
    have hlt':=Lib.hid hlt
    have q:((kwAt k).toList == s.toList) = false:=by rw [str_beq,decide_eq_false he]
    generalize kwAt k = v at hc q
    clear hno he
    go_wp2
    go_roundw
    case rel =>
     refine ⟨k + 1,by omega,by go_num,by trivial,fun j hjk=>?_⟩
     rcases Nat.lt_or_ge j k with h | h
     ·exact hno'.out j h
     ·have:j = k:=by omega
      subst this
      exact he'.out
    case measure=>simp [intOf];have:=hlt'.out;omega
  ·have hw:=Lib.hid (kwB_no (s:=s) (fun j hj=>hno j (by omega)))
   clear hno
   go_wp2
   go_ret
   exact ⟨by rw [hw.out];rfl,plus_of_below hB⟩
/-- Is each byte a letter or a digit? -/
def wordB (s:ByteArray):Bool:=(List.range s.size).all fun k=>isLet (byN s k) || isDig (byN s k)
theorem wordB_yes {s:ByteArray} (h:∀ k,k < s.size → (isLet (byN s k) || isDig (byN s k)) = true):wordB s = true:=by
 unfold wordB;rw [List.all_eq_true];exact fun k hk=>h k (List.mem_range.1 hk)
theorem wordB_no {s:ByteArray} {k:Nat} (hk:k < s.size) (h:(isLet (byN s k) || isDig (byN s k)) = false):wordB s = false:=by
 unfold wordB;rw [List.all_eq_false];exact ⟨k,List.mem_range.2 hk,by rw [h];simp⟩
/-- Is it a name? -/
def nameB (s:ByteArray):Bool:=decide (1 ≤ s.size ∧ s.size ≤ 16) && !isDig (byN s 0) && !kwB s && wordB s
set_option maxHeartbeats 2000000 in
theorem ref_name (s:ByteArray):Pure Tryz.prog 75 #[.string s] (.bool (nameB s)):=by
 intro w
 by_cases h1:1 ≤ s.size ∧ s.size ≤ 16
 ·obtain ⟨h1a,h1b⟩:=h1
  have h0:0 < s.size:=h1a
  have hD:=Lib.hid (fun w=>ref_digit3 (byN s 0) w (by rw [byN_at h0];exact (s[0]).toNat_lt))
  have e0:byN s 0 = (s[0]).toNat:=byN_at h0
  rw [e0] at hD
  cases hd:isDig (byN s 0) with
  | true =>
   rw [e0] at hd
   rw [hd] at hD
   have e:=Lib.hid (show nameB s = false by unfold nameB;rw [e0,hd];simp)
   clear hd e0
   go_enter Tryz.func75,Tryz.ntmps75
   go_wp2_with (go_at_call 114;refine (hD.out _).mono ?_;rintro r w' ⟨rfl,rfl⟩)
   go_ret
   exact ⟨by rw [e.out];rfl,⟨#[],w.drawn⟩,(plus_self w).symm⟩
  | false =>
   rw [e0] at hd
   rw [hd] at hD
   have hK:=Lib.hid (ref_keyword s)
   cases hk:kwB s with
   | true =>
    rw [hk] at hK
    have e:=Lib.hid (show nameB s = false by unfold nameB;rw [hk];simp)
    clear hd e0 hk
    go_enter Tryz.func75,Tryz.ntmps75
    go_wp2_with (first | (go_at_call 114;refine (hD.out _).mono ?_;rintro r w' ⟨rfl,rfl⟩) | (go_at_call 115;refine (hK.out _).mono ?_;rintro r w' ⟨rfl,x,rfl⟩))
    go_ret
    exact ⟨by rw [e.out];rfl,x,rfl⟩
   | false =>
    rw [hk] at hK
    have e:=Lib.hid (show nameB s = wordB s by unfold nameB;rw [e0,hd,hk,decide_eq_true ⟨h1a,h1b⟩];simp)
    clear hd e0 hk
    go_enter Tryz.func75,Tryz.ntmps75
    go_wp2_with (first | (go_at_call 114;refine (hD.out _).mono ?_;rintro r w' ⟨rfl,rfl⟩) | (go_at_call 115;refine (hK.out _).mono ?_;rintro r w' ⟨rfl,x,rfl⟩))
    go_loopw [3] (fun iv wr=>∃ k:Nat,k ≤ s.size ∧ iv = .int .i64 (k:Int) ∧ wr = plus w x ∧ ∀ j,j < k → (isLet (byN s j) || isDig (byN s j)) = true) (fun iv _=>s.size - (intOf iv).toNat)
    case atStart=>exact ⟨0,Nat.zero_le _,rfl,rfl,fun j hj=>absurd hj (by omega)⟩
    case round =>
     obtain ⟨k,hk,rfl,rfl,hno⟩:=hrel
     by_cases hlt:k < s.size
     ·have e1:byN s k = (s[k]).toNat:=byN_at hlt
      have hc256:=(s[k]).toNat_lt
      generalize hcd:(s[k]).toNat = c at e1 hc256
      have hL:=Lib.hid (fun w=>ref_letter c w hc256)
      have hG:=Lib.hid (fun w=>ref_digit3 c w hc256)
      have hno':=Lib.hid hno
      have hW:=Lib.hid (wordB_no (s:=s) (k:=k) hlt)
      rw [e1] at hW
      have hnew:Hid ((isLet c || isDig c) = true → ∀ j,j < k + 1 → (isLet (byN s j) || isDig (byN s j)) = true):=by
       intro h j hj
       rcases Nat.lt_or_ge j k with h2 | h2
       ·exact hno j h2
       ·rw [show j = k by omega,e1];exact h
      have hlt':=Lib.hid hlt
      clear hno e1
      cases h1:isLet c with
      | true =>
       rw [h1] at hL
       have hn2:=Lib.hid (hnew.out (by rw [h1];rfl))
       clear hW h1 hnew
       go_wp2_with (go_at_call 116;refine (hL.out _).mono ?_;rintro r w' ⟨rfl,rfl⟩)
       go_roundw
       case rel=>exact ⟨k + 1,by have:=hlt'.out;omega,by go_num,by trivial,hn2.out⟩
       case measure=>simp [intOf];have:=hlt'.out;omega
      | false =>
       cases h2:isDig c with
       | true =>
        rw [h1] at hL
        rw [h2] at hG
        have hn2:=Lib.hid (hnew.out (by rw [h1,h2];rfl))
        clear hW h1 hnew h2
        go_wp2_with (first | (go_at_call 116;refine (hL.out _).mono ?_;rintro r w' ⟨rfl,rfl⟩) | (go_at_call 114;refine (hG.out _).mono ?_;rintro r w' ⟨rfl,rfl⟩))
        go_roundw
        case rel=>exact ⟨k + 1,by have:=hlt'.out;omega,by go_num,by trivial,hn2.out⟩
        case measure=>simp [intOf];have:=hlt'.out;omega
       | false =>
        rw [h1] at hL
        rw [h2] at hG
        have hW2:=Lib.hid (hW.out (by rw [h1,h2];rfl))
        clear hW h1 hnew h2
        go_wp2_with (first | (go_at_call 116;refine (hL.out _).mono ?_;rintro r w' ⟨rfl,rfl⟩) | (go_at_call 114;refine (hG.out _).mono ?_;rintro r w' ⟨rfl,rfl⟩))
        go_ret
        exact ⟨by rw [e.out,hW2.out];rfl,x,rfl⟩
     ·have hY:=Lib.hid (wordB_yes (s:=s) (fun j hj=>hno j (by omega)))
      clear hno
      go_wp2
      go_ret
      exact ⟨by rw [e.out,hY.out];rfl,x,rfl⟩
 ·have e:=Lib.hid (show nameB s = false by unfold nameB;rw [decide_eq_false h1];simp)
  by_cases h2:s.size < 1
  ·clear h1
   go_enter Tryz.func75,Tryz.ntmps75
   go_wp2
   go_ret
   exact ⟨by rw [e.out];rfl,⟨#[],w.drawn⟩,(plus_self w).symm⟩
  ·have h3:16 < s.size:=by omega
   clear h1
   go_enter Tryz.func75,Tryz.ntmps75
   go_wp2
   go_ret
   exact ⟨by rw [e.out];rfl,⟨#[],w.drawn⟩,(plus_self w).symm⟩
/-- Where the word that byte k is of ends. -/
def wEnd (s:ByteArray) (k:Nat):Nat:=if _h:k < s.size then (if (isLet (byN s k) || isDig (byN s k)) = true then wEnd s (k + 1) else k) else k
termination_by s.size - k
theorem wEnd_go {s:ByteArray} {k:Nat} (h:k < s.size) (hb:(isLet (byN s k) || isDig (byN s k)) = true):wEnd s k = wEnd s (k + 1):=by rw [wEnd,dif_pos h,if_pos hb]
theorem wEnd_stop {s:ByteArray} {k:Nat} (h:k < s.size) (hb:(isLet (byN s k) || isDig (byN s k)) = false):wEnd s k = k:=by rw [wEnd,dif_pos h,if_neg (by rw [hb];simp)]
theorem wEnd_past {s:ByteArray} {k:Nat} (h:¬ k < s.size):wEnd s k = k:=by rw [wEnd,dif_neg h]
theorem wEnd_bounds (s:ByteArray):∀ (d k:Nat),s.size - k = d → k ≤ s.size → k ≤ wEnd s k ∧ wEnd s k ≤ s.size
 | 0,k,h,hk=>by rw [wEnd_past (by omega)];omega
 | d + 1,k,h,hk=>by
  cases hb:(isLet (byN s k) || isDig (byN s k)) with
  | true=>rw [wEnd_go (by omega) hb];have:=wEnd_bounds s d (k + 1) (by omega) (by omega);omega
  | false=>rw [wEnd_stop (by omega) hb];omega
/-- What is left of a text from a byte on. -/
abbrev rest (s:ByteArray) (k:Nat):ByteArray:=s.extract k s.size
theorem data_len (s:ByteArray):s.data.toList.length = s.size:=by rw [Array.length_toList];rfl
theorem rest_zero (s:ByteArray):rest s 0 = s:=by apply ByteArray.ext;simp [rest]
theorem tok_digit (c:Nat) (w:World) (h:c < 256):Calls Tryz.prog 101 #[.int .u8 (c:Int)] w fun e w'=>e = .returned (.bool (isDig c)) ∧ w = w':=by
 obtain ⟨b,hb⟩:∃ b,isDig c = b:=⟨_,rfl⟩
 have hb':=Lib.hid hb
 rw [hb]
 clear hb
 go_enter Tryz.func101,Tryz.ntmps101
 go_wp2
 all_goals
  go_ret
  refine ⟨?_,rfl⟩
  show Ending.returned (.bool _) = Ending.returned (.bool _)
  refine congrArg (fun x=>Ending.returned (.bool x)) ?_
  rw [← hb'.out]
  unfold isDig
  rw [Bool.eq_iff_iff]
  simp
  omega
/-- Is it a byte of a word? -/
def isWrd (c:Nat):Bool:=isLet c || isDig c
theorem tok_ofword (c:Nat) (w:World) (h:c < 256):Calls Tryz.prog 142 #[.int .u8 (c:Int)] w fun e w'=>e = .returned (.bool (isWrd c)) ∧ w = w':=by
 obtain ⟨b,hb⟩:∃ b,isWrd c = b:=⟨_,rfl⟩
 have hb':=Lib.hid hb
 rw [hb]
 clear hb
 cases hd:isDig c with
 | true =>
  have hd':=Lib.hid hd
  have hD:=Lib.hid (fun w=>tok_digit c w h)
  rw [hd] at hD
  clear hd
  go_enter Tryz.func142,Tryz.ntmps142
  go_wp2_with (go_at_call 101;refine (hD.out _).mono ?_;rintro e w' ⟨rfl,rfl⟩)
  all_goals
   go_ret
   refine ⟨?_,rfl⟩
   show Ending.returned (.bool _) = Ending.returned (.bool _)
   refine congrArg (fun x=>Ending.returned (.bool x)) ?_
   rw [← hb'.out]
   have hx:=hd'.out
   unfold isWrd isLet
   unfold isDig at hx ⊢
   rw [Bool.eq_iff_iff]
   simp at hx ⊢
   omega
 | false =>
  have hd':=Lib.hid hd
  have hD:=Lib.hid (fun w=>tok_digit c w h)
  rw [hd] at hD
  clear hd
  go_enter Tryz.func142,Tryz.ntmps142
  go_wp2_with (go_at_call 101;refine (hD.out _).mono ?_;rintro e w' ⟨rfl,rfl⟩)
  all_goals
   go_ret
   refine ⟨?_,rfl⟩
   show Ending.returned (.bool _) = Ending.returned (.bool _)
   refine congrArg (fun x=>Ending.returned (.bool x)) ?_
   rw [← hb'.out]
   have hx:=hd'.out
   unfold isWrd isLet
   unfold isDig at hx ⊢
   rw [Bool.eq_iff_iff]
   simp at hx ⊢
   omega
theorem wrd_go {s:ByteArray} {k:Nat} (h:k < s.size) (hb:isWrd (byN s k) = true):wEnd s k = wEnd s (k + 1):=wEnd_go h hb
theorem wrd_stop {s:ByteArray} {k:Nat} (h:k < s.size) (hb:isWrd (byN s k) = false):wEnd s k = k:=wEnd_stop h hb
set_option maxHeartbeats 1000000 in
theorem tok_first (s:ByteArray) (hs:s.size ≤ 140737488355328) (w:World):Calls Tryz.prog 102 #[.string s] w fun e w'=>e = .returned (.string (s.extract 0 (wEnd s 0))) ∧ w = w':=by
 obtain ⟨R,hR⟩:∃ R,wEnd s 0 = R:=⟨_,rfl⟩
 rw [hR]
 have hR':=Lib.hid hR
 clear hR
 go_enter Tryz.func102,Tryz.ntmps102
 go_wp2
 go_loopw [3] (fun iv wr=>∃ k:Nat,k ≤ s.size ∧ iv = .int .i64 (k:Int) ∧ wr = w ∧ wEnd s k = R) (fun iv _=>s.size - (intOf iv).toNat)
 case atStart=>exact ⟨0,Nat.zero_le _,rfl,rfl,hR'.out⟩
 case round =>
  obtain ⟨k,hk,rfl,rfl,hkR⟩:=hrel
  have hkR':=Lib.hid hkR
  clear hkR
  by_cases hlt:k < s.size
  ·have e2:byN s k = (s[k]).toNat:=byN_at hlt
   have d256:=(s[k]).toNat_lt
   generalize hdd:(s[k]).toNat = d at e2 d256
   have hG2:=Lib.hid (fun w=>tok_ofword d w d256)
   cases g1:isWrd d with
   | true =>
    have hgo:=Lib.hid (wrd_go hlt (by rw [e2,g1]))
    rw [g1] at hG2
    clear g1 e2
    go_wp2_with (go_at_call 142;refine (hG2.out _).mono ?_;rintro e w' ⟨rfl,rfl⟩)
    go_roundw
    case rel=>exact ⟨k + 1,by omega,by go_num,by trivial,by rw [← hgo.out];exact hkR'.out⟩
    case measure=>simp [intOf];omega
   | false =>
    have hst:=Lib.hid (wrd_stop hlt (by rw [e2,g1]))
    rw [g1] at hG2
    clear g1 e2
    go_wp2_with (go_at_call 142;refine (hG2.out _).mono ?_;rintro e w' ⟨rfl,rfl⟩)
    go_wp2
    go_ret
    exact ⟨by rw [← hkR'.out,hst.out];rfl,rfl⟩
  ·have hst:=Lib.hid (wEnd_past hlt)
   go_wp2
   go_ret
   exact ⟨by rw [← hkR'.out,hst.out];rfl,rfl⟩
theorem list_beq (s:ByteArray) (l:List UInt8):(s.toList == l) = decide (s.data.toList = l):=by
 rw [Bool.eq_iff_iff,beq_iff_eq,decide_eq_true_eq,Lib.toList_data]
theorem list_contra {s:ByteArray} {l:List UInt8} (h1:(s.toList == l) = true) (h2:(s.toList == l) = false):False:=by rw [h1] at h2;cases h2
theorem kwB_list {s:ByteArray} {l:List UInt8} (h:(s.toList == l) = true) (hm:((List.range 32).any fun k=>decide ((kwAt k).data.toList = l)) = true):kwB s = true:=by
 rw [List.any_eq_true] at hm
 obtain ⟨k,hk,e⟩:=hm
 rw [list_beq,decide_eq_true_eq] at h
 rw [decide_eq_true_eq] at e
 refine kwB_yes (List.mem_range.1 hk) ?_
 apply ByteArray.ext
 rw [← Array.toList_inj,e,h]
theorem kwB_ex {s:ByteArray} (h:kwB s = true):∃ k,k < 32 ∧ (s.toList == (kwAt k).data.toList) = true:=by
 unfold kwB at h
 rw [List.any_eq_true] at h
 obtain ⟨k,hk,e⟩:=h
 rw [decide_eq_true_eq] at e
 exact ⟨k,List.mem_range.1 hk,by rw [e,list_beq,decide_eq_true rfl]⟩
set_option maxHeartbeats 8000000 in
theorem tok_keyword (s:ByteArray):Pure Tryz.prog 103 #[.string s] (.bool (kwB s)):=by
 intro w
 obtain ⟨b,hb⟩:∃ b,kwB s = b:=⟨_,rfl⟩
 have hb':=Lib.hid hb
 rw [hb]
 clear hb
 go_enter Tryz.func103,Tryz.ntmps103
 go_wp2
 all_goals first
  | (exfalso;exact list_contra (s:=s) (by assumption) (by assumption))
  | (go_ret
     refine ⟨?_,⟨#[],w.drawn⟩,(plus_self w).symm⟩
     have hk:kwB s = true:=kwB_list (s:=s) (by assumption) (by decide +kernel)
     rw [← hb'.out,hk]
     rfl)
  | (go_ret
     refine ⟨?_,⟨#[],w.drawn⟩,(plus_self w).symm⟩
     have hk:kwB s = false:=by
       cases he:kwB s with
       | false=>rfl
       | true =>
         exfalso
         obtain ⟨k,hk,e⟩:=kwB_ex he
         match k,hk,e with
         | 0,_,e=>exact list_contra e (by assumption)
         | 1,_,e=>exact list_contra e (by assumption)
         | 2,_,e=>exact list_contra e (by assumption)
         | 3,_,e=>exact list_contra e (by assumption)
         | 4,_,e=>exact list_contra e (by assumption)
         | 5,_,e=>exact list_contra e (by assumption)
         | 6,_,e=>exact list_contra e (by assumption)
         | 7,_,e=>exact list_contra e (by assumption)
         | 8,_,e=>exact list_contra e (by assumption)
         | 9,_,e=>exact list_contra e (by assumption)
         | 10,_,e=>exact list_contra e (by assumption)
         | 11,_,e=>exact list_contra e (by assumption)
         | 12,_,e=>exact list_contra e (by assumption)
         | 13,_,e=>exact list_contra e (by assumption)
         | 14,_,e=>exact list_contra e (by assumption)
         | 15,_,e=>exact list_contra e (by assumption)
         | 16,_,e=>exact list_contra e (by assumption)
         | 17,_,e=>exact list_contra e (by assumption)
         | 18,_,e=>exact list_contra e (by assumption)
         | 19,_,e=>exact list_contra e (by assumption)
         | 20,_,e=>exact list_contra e (by assumption)
         | 21,_,e=>exact list_contra e (by assumption)
         | 22,_,e=>exact list_contra e (by assumption)
         | 23,_,e=>exact list_contra e (by assumption)
         | 24,_,e=>exact list_contra e (by assumption)
         | 25,_,e=>exact list_contra e (by assumption)
         | 26,_,e=>exact list_contra e (by assumption)
         | 27,_,e=>exact list_contra e (by assumption)
         | 28,_,e=>exact list_contra e (by assumption)
         | 29,_,e=>exact list_contra e (by assumption)
         | 30,_,e=>exact list_contra e (by assumption)
         | 31,_,e=>exact list_contra e (by assumption)
         | n + 32,hn,_=>omega
     rw [← hb'.out,hk]
     rfl)
theorem wEnd_word (s:ByteArray):(s.extract 0 (wEnd s 0) = s) ↔ wordB s = true:=by
 have hb:=wEnd_bounds s _ 0 rfl (Nat.zero_le _)
 have hz:(s.extract 0 (wEnd s 0)).size = wEnd s 0:=by rw [ByteArray.size_extract];omega
 have hgo:∀ (d k:Nat),s.size - k = d → k ≤ s.size → wEnd s k = s.size → ∀ j,k ≤ j → j < s.size → isWrd (byN s j) = true:=by
  intro d
  induction d with
  | zero=>intro k h _ _ j h1 h2;omega
  | succ d ih =>
   intro k h hk he j h1 h2
   cases hw:isWrd (byN s k) with
   | false=>rw [wrd_stop (by omega) hw] at he;omega
   | true =>
    by_cases hj:j = k
    ·rw [hj];exact hw
    ·rw [wrd_go (by omega) hw] at he
     exact ih (k + 1) (by omega) (by omega) he j (by omega) h2
 have hback:∀ (d k:Nat),s.size - k = d → k ≤ s.size → (∀ j,k ≤ j → j < s.size → isWrd (byN s j) = true) → wEnd s k = s.size:=by
  intro d
  induction d with
  | zero=>intro k h hk _;rw [wEnd_past (by omega)];omega
  | succ d ih =>
   intro k h hk hall
   rw [wrd_go (by omega) (hall k (Nat.le_refl _) (by omega))]
   exact ih (k + 1) (by omega) (by omega) (fun j h1 h2=>hall j (by omega) h2)
 constructor
 ·intro h
  have he:wEnd s 0 = s.size:=by rw [← hz,h]
  exact wordB_yes fun k hk=>hgo _ 0 rfl (Nat.zero_le _) he k (Nat.zero_le _) hk
 ·intro h
  unfold wordB at h
  rw [List.all_eq_true] at h
  have he:wEnd s 0 = s.size:=hback _ 0 rfl (Nat.zero_le _) fun j _ hj=>h j (List.mem_range.2 hj)
  rw [he]
  exact rest_zero s
set_option maxHeartbeats 4000000 in
theorem tok_name (s:ByteArray) (hs:s.size ≤ 140737488355328):Pure Tryz.prog 47 #[.string s] (.bool (nameB s)):=by
 intro w
 obtain ⟨b,hb⟩:∃ b,nameB s = b:=⟨_,rfl⟩
 have hb':=Lib.hid hb
 rw [hb]
 clear hb
 have hS:∃ x,w = plus w x:=⟨⟨#[],w.drawn⟩,(plus_self w).symm⟩
 have hS':=Lib.hid hS
 clear hS
 by_cases h0:s.size = 0
 ·have he:s = ⟨#[]⟩:=ByteArray.ext (Array.eq_empty_of_size_eq_zero h0)
  have hv:b = false:=by rw [← hb'.out];unfold nameB;rw [decide_eq_false (by omega)];simp
  subst he hv
  clear hb' h0
  go_enter Tryz.func47,Tryz.ntmps47
  go_wp2
  go_ret
  exact ⟨rfl,hS'.out⟩
 ·have q:s.toList.isEmpty = false:=by
   rw [Lib.toList_data]
   cases h:s.data.toList with
   | nil=>have:=data_len s;rw [h,List.length_nil] at this;omega
   | cons _ _=>rfl
  have q2:¬ s.toList = []:=by intro h;rw [h] at q;cases q
  by_cases h16:s.size ≤ 16
  ·have hlt:0 < s.size:=by omega
   have e0:byN s 0 = (s[0]).toNat:=byN_at hlt
   have d256:=(s[0]).toNat_lt
   generalize hdd:(s[0]).toNat = d at e0 d256
   have hG:=Lib.hid (fun w=>tok_digit d w d256)
   have hF:=tok_first s hs
   have hK:=tok_keyword s
   have hiff:=wEnd_word s
   have hn:nameB s = (!isDig d && !kwB s && wordB s):=by unfold nameB;rw [e0,decide_eq_true ⟨hlt,h16⟩];simp
   rw [← hb'.out,hn]
   clear hn e0 hb'
   generalize s.extract 0 (wEnd s 0) = f at hF hiff
   generalize kwB s = kb at hK ⊢
   generalize wordB s = wb at hiff ⊢
   have hF':=Lib.hid hF
   have hK':=Lib.hid hK
   clear hF hK
   cases hd:isDig d with
   | true =>
    rw [hd] at hG
    clear hd hiff
    go_enter Tryz.func47,Tryz.ntmps47
    go_wp2_with (go_at_call 101;refine (hG.out _).mono ?_;rintro r w' ⟨rfl,rfl⟩)
    go_ret
    exact ⟨by cases kb <;> cases wb <;> rfl,hS'.out⟩
   | false =>
    rw [hd] at hG
    clear hd
    by_cases hfe:f = s
    ·obtain rfl:wb = true:=hiff.1 hfe
     have q3:(f.toList == s.toList) = true:=by rw [str_beq,decide_eq_true hfe]
     clear hiff hfe
     go_enter Tryz.func47,Tryz.ntmps47
     go_wp2_with (first | (go_at_call 101;refine (hG.out _).mono ?_;rintro r w' ⟨rfl,rfl⟩) | (go_at_call 102;refine (hF'.out _).mono ?_;rintro r w' ⟨rfl,rfl⟩) | (go_at_call 103;refine (hK'.out _).mono ?_;rintro r w' ⟨rfl,x,rfl⟩))
     go_ret
     exact ⟨by cases kb <;> rfl,x,rfl⟩
    ·obtain rfl:wb = false:=by
      cases wb with
      | false=>rfl
      | true=>exact absurd (hiff.2 rfl) hfe
     have q3:(f.toList == s.toList) = false:=by rw [str_beq,decide_eq_false hfe]
     clear hiff hfe
     go_enter Tryz.func47,Tryz.ntmps47
     go_wp2_with (first | (go_at_call 101;refine (hG.out _).mono ?_;rintro r w' ⟨rfl,rfl⟩) | (go_at_call 102;refine (hF'.out _).mono ?_;rintro r w' ⟨rfl,rfl⟩))
     go_ret
     exact ⟨by cases kb <;> rfl,hS'.out⟩
  ·have h17:(16:Int) < s.size:=by omega
   have hv:b = false:=by rw [← hb'.out];unfold nameB;rw [decide_eq_false (by omega)];simp
   subst hv
   clear hb'
   go_enter Tryz.func47,Tryz.ntmps47
   go_wp2
   go_ret
   exact ⟨rfl,hS'.out⟩
def B128:Nat:=340282366920938463463374607431768211456
def hi (n:Nat):Int:=((n / 18446744073709551616:Nat):Int)
def lo (n:Nat):Int:=((n % 18446744073709551616:Nat):Int)
abbrev nv (n:Nat):Value:=.agg #[.int .u64 (hi n),.int .u64 (lo n)]
def heldZ (n m:Int):Int:=min (max n 0) m
def hw (k:Int):Nat:=(heldZ k 128).toNat
theorem heldZ_eq (n m:Int):heldZ n m = if m < (if n < 0 then 0 else n) then m else (if n < 0 then 0 else n):=by
 unfold heldZ;simp only [Int.min_def,Int.max_def];repeat' split
 all_goals omega
theorem div_and (a b:Nat):(a &&& b) / 18446744073709551616 = (a / 18446744073709551616) &&& (b / 18446744073709551616):=Nat.and_div_two_pow (n:=64)
theorem mod_and (a b:Nat):(a &&& b) % 18446744073709551616 = (a % 18446744073709551616) &&& (b % 18446744073709551616):=Nat.and_mod_two_pow (n:=64)
theorem and_nv (a b:Nat) (ha:a < B128) (hb:b < B128):Value.agg #[.int .u64 (bits .and .u64 (hi a) (hi b)),.int .u64 (bits .and .u64 (lo a) (lo b))] = nv (a &&& b):=by
 unfold B128 at *
 unfold nv hi lo
 rw [u64_and_nat _ _ (by omega) (by omega),u64_and_nat _ _ (by omega) (by omega),div_and,mod_and]
theorem two64:(18446744073709551616:Nat) = 2 ^ 64:=by decide
theorem b128:B128 = 2 ^ 128:=by decide
theorem hw_le (k:Int):hw k ≤ 128:=by unfold hw heldZ;omega
theorem toNat_pow (m:Nat):((2:Int) ^ m) = ((2 ^ m:Nat):Int):=by simp
theorem shr_hi_eq (n m:Nat) (hn:n < B128):n / 2 ^ (m + 64) / 2 ^ 64 = 0 ∧ n / 2 ^ (m + 64) % 2 ^ 64 = n / 2 ^ 64 / 2 ^ m:=by
 have h:n / 2 ^ (m + 64) < 2 ^ 64:=by
  rw [Nat.div_lt_iff_lt_mul (Nat.two_pow_pos _),← Nat.pow_add]
  refine Nat.lt_of_lt_of_le hn ?_
  rw [b128]
  exact Nat.pow_le_pow_right (by decide) (by omega)
 rw [Nat.div_eq_of_lt h,Nat.mod_eq_of_lt h,Nat.div_div_eq_div_mul,← Nat.pow_add,Nat.add_comm]
 exact ⟨rfl,rfl⟩
theorem shr_lo_eq (n k:Nat) (hk:k < 64):n / 2 ^ k % 2 ^ 64 = (n % 2 ^ 64) / 2 ^ k ||| (n / 2 ^ 64 * 2 ^ (64 - k)) % 2 ^ 64:=by
 apply Nat.eq_of_testBit_eq
 intro i
 simp only [Nat.testBit_mod_two_pow,Nat.testBit_or,Nat.testBit_div_two_pow,Nat.testBit_mul_two_pow]
 by_cases h1:i < 64
 ·by_cases h2:64 - k ≤ i
  ·have e:i - (64 - k) + 64 = i + k:=by omega
   have h3:¬ (i + k < 64):=by omega
   simp [h1,h2,h3,e]
  ·have h3:i + k < 64:=by omega
   simp [h1,h2,h3]
 ·have h3:¬ (i + k < 64):=by omega
  simp [h1,h3]
theorem div_cast (a m:Nat):((a:Nat):Int) / 2 ^ m = ((a / 2 ^ m:Nat):Int):=by rw [toNat_pow];rfl
theorem wrap_mul (a m:Nat):IntKind.u64.wrap (((a:Nat):Int) * 2 ^ m) = ((a * 2 ^ m % 2 ^ 64:Nat):Int):=by
 rw [IntKind.wrap_u64,toNat_pow,← Int.natCast_mul];rfl
theorem shr_nv1 (n:Nat) (j:Int) (h:64 ≤ j) (hn:n < B128):Value.agg #[.int .u64 0,.int .u64 (hi n / 2 ^ (j - 64).toNat)] = nv (n / 2 ^ j.toNat):=by
 obtain ⟨m,rfl⟩:∃ m:Nat,j = ((m + 64:Nat):Int):=⟨(j - 64).toNat,by omega⟩
 obtain ⟨h1,h2⟩:=shr_hi_eq n m hn
 have e:(((m + 64:Nat):Int) - 64).toNat = m:=by omega
 unfold nv hi lo
 rw [e,Int.toNat_natCast,two64,h1,h2,div_cast]
 rfl
theorem shr_nv2 (n:Nat) (j:Int) (h0:0 ≤ j) (h:j < 64):Value.agg #[.int .u64 (hi n / 2 ^ j.toNat),.int .u64 (bits .or .u64 (lo n / 2 ^ j.toNat) (IntKind.u64.wrap (hi n * 2 ^ (64 - j).toNat)))] = nv (n / 2 ^ j.toNat):=by
 obtain ⟨m,rfl⟩:∃ m:Nat,j = (m:Int):=⟨j.toNat,by omega⟩
 have e:((64:Int) - (m:Int)).toNat = 64 - m:=by omega
 have hl:n % 2 ^ 64 < 2 ^ 64:=Nat.mod_lt _ (Nat.two_pow_pos _)
 have hl2:n % 2 ^ 64 / 2 ^ m < 2 ^ 64:=Nat.lt_of_le_of_lt (Nat.div_le_self _ _) hl
 unfold nv hi lo
 rw [e,Int.toNat_natCast,two64,div_cast,div_cast,wrap_mul,u64_or_nat _ _ (by rw [two64];exact hl2) (by rw [two64];exact Nat.mod_lt _ (Nat.two_pow_pos _)),shr_lo_eq n m (by omega),
  Nat.div_div_eq_div_mul,Nat.div_div_eq_div_mul,Nat.mul_comm (2 ^ 64)]
theorem mod_hw_lt (n:Nat) (k:Int):n % 2 ^ hw k < B128:=by
 rw [b128];exact Nat.lt_of_lt_of_le (Nat.mod_lt _ (Nat.two_pow_pos _)) (Nat.pow_le_pow_right (by decide) (hw_le k))
theorem mask_lt (k:Int):2 ^ hw k - 1 < B128:=by
 have:2 ^ hw k ≤ 2 ^ 128:=Nat.pow_le_pow_right (by decide) (hw_le k)
 rw [b128];have:=Nat.two_pow_pos (hw k);omega
theorem ones_shr (k:Int) (j:Int) (hj:j = 128 - heldZ k 128):(B128 - 1) / 2 ^ hw j = 2 ^ hw k - 1:=by
 have h1:hw j = 128 - hw k:=by subst hj;unfold hw heldZ;omega
 have h2:=hw_le k
 rw [h1,b128]
 have e:2 ^ 128 = 2 ^ hw k * 2 ^ (128 - hw k):=by rw [← Nat.pow_add];congr 1;omega
 have hp:=Nat.two_pow_pos (128 - hw k)
 have hq:=Nat.two_pow_pos (hw k)
 rw [e]
 apply Nat.div_eq_of_lt_le
 ·rw [Nat.sub_mul,Nat.one_mul];omega
 ·rw [Nat.sub_add_cancel hq];omega
theorem and_mask (n:Nat) (k:Int):n &&& (2 ^ hw k - 1) = n % 2 ^ hw k:=Nat.and_two_pow_sub_one_eq_mod _ _
def cmpN (a b:Nat):Int:=if a = b then 0 else if a < b then -1 else 1
theorem cmp_eq (a b:Nat) (h1:hi a = hi b) (h2:lo a = lo b):a = b:=by unfold hi lo at *;omega
theorem cmp_hi (a b:Nat) (h:hi a < hi b):a < b:=by unfold hi at *;omega
theorem cmp_lo (a b:Nat) (h1:hi a = hi b) (h:lo a < lo b):a < b:=by unfold hi lo at *;omega
theorem cmp_hi' (a b:Nat) (h0:¬ hi a = hi b) (h:hi b ≤ hi a):¬ a = b ∧ ¬ a < b:=by unfold hi at *;omega
theorem cmp_lo' (a b:Nat) (h1:hi a = hi b) (h0:¬ lo a = lo b) (h:lo b ≤ lo a):¬ a = b ∧ ¬ a < b:=by unfold hi lo at *;omega
set_option maxHeartbeats 400000 in
theorem held_any (n m:Int):Pure Tryz.prog 178 #[.int .i64 n,.int .i64 m] (.int .i64 (heldZ n m)):=by
 intro w
 have H:Hid (heldZ n m = if m < (if n < 0 then 0 else n) then m else (if n < 0 then 0 else n)):=heldZ_eq n m
 go_enter Tryz.func178,Tryz.ntmps178
 go_wp2
 all_goals
  go_ret
  refine ⟨?_,_,(plus_self w).symm⟩
  rw [H.out]
  simp_all
  try omega
set_option maxHeartbeats 400000 in
theorem and1 (x y:Int):Pure Tryz.prog 176 #[.int .u64 x,.int .u64 y] (.int .u64 (bits .and .u64 x y)):=by
 intro w
 go_enter Tryz.func176,Tryz.ntmps176
 go_wp2
 go_ret
 exact ⟨rfl,_,(plus_self w).symm⟩
set_option maxHeartbeats 400000 in
theorem halves_and (a b:Nat):Pure Tryz.prog 175 #[nv a,nv b,.func (.func 176) #[] #[]] (.agg #[.int .u64 (bits .and .u64 (hi a) (hi b)),.int .u64 (bits .and .u64 (lo a) (lo b))]):=by
 intro w
 go_enter Tryz.func175,Tryz.ntmps175
 go_wp2
 obtain ⟨W,hW,hB,hs,ca,cb,cr,fa,fb,fr⟩:=box3 w _ _ _ 64 64 64
 rw [← hW]
 have ca0:=ca 0 (some (.int .u64 (hi a))) rfl
 have ca1:=ca 1 (some (.int .u64 (lo a))) rfl
 have cb0:=cb 0 (some (.int .u64 (hi b))) rfl
 have cb1:=cb 1 (some (.int .u64 (lo b))) rfl
 have cr0:=cr 0 (some (.int .u64 0)) rfl
 have cr1:=cr 1 (some (.int .u64 0)) rfl
 clear hW fa fb ca cb cr
 refine wp_region_own_tail0 13 (by kernel_rfl) (by kernel_rfl) ?_
 simp only [List.take_succ_cons,List.take_zero,List.drop_succ_cons,List.drop_zero]
 repeat (go_big_quiet_step (exact (and1 _ _).at _ _))
 refine wpQuiet_nil ?_
 rintro _ ⟨y,rfl⟩
 go_wp2
 exact bodyPost_ret (v:=.agg #[.int .u64 (bits .and .u64 (hi a) (hi b)),.int .u64 (bits .and .u64 (lo a) (lo b))]) (by simp [results,Tryz.results175,go_sem,cr0,cr1]) rfl ⟨rfl,own_end hB (by omega) _ _⟩
set_option maxHeartbeats 400000 in
theorem num_and (a b:Nat) (ha:a < B128) (hb:b < B128):Pure Tryz.prog 169 #[nv a,nv b] (nv (a &&& b)):=by
 intro w
 have H:=Lib.hid (and_nv a b ha hb)
 clear ha hb
 go_enter Tryz.func169,Tryz.ntmps169
 go_wp2_with fail
 obtain ⟨W,hW,hB,hs,ca,cb,cr,fa,fb,fr⟩:=box3 w _ _ _ 64 64 64
 rw [← hW]
 have ca0:=ca 0 (some (.int .u64 (hi a))) rfl
 have ca1:=ca 1 (some (.int .u64 (lo a))) rfl
 have cb0:=cb 0 (some (.int .u64 (hi b))) rfl
 have cb1:=cb 1 (some (.int .u64 (lo b))) rfl
 have cr0:=cr 0 (some (.int .u64 0)) rfl
 have cr1:=cr 1 (some (.int .u64 0)) rfl
 clear hW fa fb ca cb cr
 refine ((halves_and a b).eqv H.out W).mono ?_
 rintro e w' ⟨rfl,y,rfl⟩
 go_wp2
 exact bodyPost_ret (v:=.agg #[.int .u64 (hi (a &&& b)),.int .u64 (lo (a &&& b))]) (by simp [results,Tryz.results169,go_sem,cr0,cr1]) rfl ⟨rfl,own_end hB (by omega) _ _⟩
set_option maxHeartbeats 400000 in
theorem num_shr (n:Nat) (k:Int) (hn:n < B128):Pure Tryz.prog 177 #[nv n,.int .i64 k] (nv (n / 2 ^ hw k)):=by
 intro w
 have h0:0 ≤ heldZ k 128:=by unfold heldZ;omega
 have h1:heldZ k 128 ≤ 128:=by unfold heldZ;omega
 go_enter Tryz.func177,Tryz.ntmps177
 go_wp2_with fail
 obtain ⟨W,hW,hB,hs,ca,cr,fa,fr⟩:=box2 w _ _ 64 64
 rw [← hW]
 have ca0:=ca 0 (some (.int .u64 (hi n))) rfl
 have ca1:=ca 1 (some (.int .u64 (lo n))) rfl
 have cr0:=cr 0 (some (.int .u64 0)) rfl
 have cr1:=cr 1 (some (.int .u64 0)) rfl
 clear hW fa ca cr
 refine (held_any _ _ W).mono ?_
 rintro e w' ⟨rfl,y,rfl⟩
 go_wp2
 ·have hk:64 ≤ heldZ k 128:=by assumption
  exact bodyPost_ret (v:=.agg #[.int .u64 0,.int .u64 (hi n / 2 ^ (heldZ k 128 - 64).toNat)]) (by simp [results,Tryz.results177,go_sem,cr0,cr1]) rfl ⟨congrArg Ending.returned (shr_nv1 n _ hk hn),own_end hB (by omega) _ _⟩
 ·have hk:heldZ k 128 < 64:=by assumption
  refine wp_region_own_tail 15 (by kernel_rfl) (by kernel_rfl) ?_
  simp only [List.take_succ_cons,List.take_zero,List.drop_succ_cons,List.drop_zero]
  repeat (go_big_quiet_step (fail))
  refine wpQuiet_nil ?_
  rintro _ ⟨y,rfl⟩
  go_wp2
  exact bodyPost_ret (v:=.agg #[.int .u64 (hi n / 2 ^ (heldZ k 128).toNat),.int .u64 (bits .or .u64 (lo n / 2 ^ (heldZ k 128).toNat) (IntKind.u64.wrap (hi n * 2 ^ (64 - heldZ k 128).toNat)))]) (by simp [results,Tryz.results177,go_sem,cr0,cr1]) rfl ⟨congrArg Ending.returned (shr_nv2 n _ h0 hk),own_end hB (by omega) _ _⟩
theorem ones_hi:hi (B128 - 1) = 18446744073709551615:=by decide +kernel
theorem ones_lo:lo (B128 - 1) = 18446744073709551615:=by decide +kernel
theorem ones_nv:Value.agg #[.int .u64 18446744073709551615,.int .u64 18446744073709551615] = nv (B128 - 1):=by
 unfold nv;rw [ones_hi,ones_lo]
theorem shr_ones (k:Int):Pure Tryz.prog 177 #[.agg #[.int .u64 18446744073709551615,.int .u64 18446744073709551615],.int .i64 (128 - heldZ k 128)] (nv (2 ^ hw k - 1)):=by
 rw [ones_nv,← ones_shr k _ rfl]
 exact num_shr (B128 - 1) (128 - heldZ k 128) (by decide)
set_option maxHeartbeats 400000 in
theorem num_mask (k:Int):Pure Tryz.prog 170 #[.int .i64 k] (nv (2 ^ hw k - 1)):=by
 intro w
 have h0:0 ≤ heldZ k 128:=by unfold heldZ;omega
 have h1:heldZ k 128 ≤ 128:=by unfold heldZ;omega
 go_enter Tryz.func170,Tryz.ntmps170
 go_wp2
 obtain ⟨W,hW,hB,hs,cr,co,fr,fo⟩:=box2 w _ _ 64 64
 rw [← hW]
 have cr0:=cr 0 (some (.int .u64 0)) rfl
 have cr1:=cr 1 (some (.int .u64 0)) rfl
 have co0:=co 0 (some (.int .u64 18446744073709551615)) rfl
 have co1:=co 1 (some (.int .u64 18446744073709551615)) rfl
 clear hW fo cr co
 refine wp_region_own_tail0 5 (by kernel_rfl) (by kernel_rfl) ?_
 simp only [List.take_succ_cons,List.take_zero,List.drop_succ_cons,List.drop_zero]
 repeat (go_big_quiet_step (first | (go_at_call 178;exact (held_any _ _).at _ _) | (go_at_call 177;exact (shr_ones _).at _ _)))
 refine wpQuiet_nil ?_
 rintro _ ⟨y,rfl⟩
 go_wp2
 exact bodyPost_ret (v:=.agg #[.int .u64 (hi (2 ^ hw k - 1)),.int .u64 (lo (2 ^ hw k - 1))]) (by simp [results,Tryz.results170,go_sem,cr0,cr1]) rfl ⟨rfl,own_end hB (by omega) _ _⟩
set_option maxHeartbeats 400000 in
theorem num_cut (n:Nat) (k:Int) (hn:n < B128):Pure Tryz.prog 157 #[nv n,.int .i64 k] (nv (n % 2 ^ hw k)):=by
 intro w
 have S:=Lib.hid ((num_and n (2 ^ hw k - 1) hn (mask_lt k)).eqv (congrArg nv (and_mask n k)))
 clear hn
 go_enter Tryz.func157,Tryz.ntmps157
 go_wp2
 obtain ⟨W,hW,hB,hs,ca,cr,fa,fr⟩:=box2 w _ _ 64 64
 rw [← hW]
 have ca0:=ca 0 (some (.int .u64 (hi n))) rfl
 have ca1:=ca 1 (some (.int .u64 (lo n))) rfl
 have cr0:=cr 0 (some (.int .u64 0)) rfl
 have cr1:=cr 1 (some (.int .u64 0)) rfl
 clear hW fa ca cr
 refine wp_region_own_tail0 4 (by kernel_rfl) (by kernel_rfl) ?_
 simp only [List.take_succ_cons,List.take_zero,List.drop_succ_cons,List.drop_zero]
 repeat (go_big_quiet_step (first | (go_at_call 170;exact (num_mask _).at _ _) | (go_at_call 169;exact S.out.at _ _)))
 refine wpQuiet_nil ?_
 rintro _ ⟨y,rfl⟩
 go_wp2
 exact bodyPost_ret (v:=.agg #[.int .u64 (hi (n % 2 ^ hw k)),.int .u64 (lo (n % 2 ^ hw k))]) (by simp [results,Tryz.results157,go_sem,cr0,cr1]) rfl ⟨rfl,own_end hB (by omega) _ _⟩
set_option maxHeartbeats 400000 in
theorem num_of (n:Nat) (hn:n < 18446744073709551616):Pure Tryz.prog 174 #[.int .u64 (n:Int)] (nv n):=by
 intro w
 have e:Hid (Value.agg #[.int .u64 0,.int .u64 (n:Int)] = nv n):=by
  show _ = _
  unfold nv hi lo
  rw [Nat.div_eq_of_lt hn,Nat.mod_eq_of_lt hn]
  rfl
 clear hn
 go_enter Tryz.func174,Tryz.ntmps174
 go_wp2
 refine bodyPost_ret (v:=.agg #[.int .u64 0,.int .u64 (n:Int)]) (by simp [results,Tryz.results174,go_sem]) rfl ⟨congrArg Ending.returned e.out,?_⟩
 exact plus_of_below ((Below.refl _ _).alloc (Nat.le_refl _) _)
set_option maxHeartbeats 400000 in
theorem num_cmp (a b:Nat):Pure Tryz.prog 173 #[nv a,nv b] (.int .i64 (cmpN a b)):=by
 intro w
 have E0:=Lib.hid (fun h=>show cmpN a b = 0 from if_pos (h:a = b))
 have E1:=Lib.hid (fun (h:a < b)=>show cmpN a b = -1 from (if_neg (by omega)).trans (if_pos h))
 have E2:=Lib.hid (fun (h:¬ a = b ∧ ¬ a < b)=>show cmpN a b = 1 from (if_neg h.1).trans (if_neg h.2))
 have C0:=Lib.hid (cmp_eq a b)
 have C1:=Lib.hid (cmp_hi a b)
 have C2:=Lib.hid (cmp_lo a b)
 have C3:=Lib.hid (cmp_hi' a b)
 have C4:=Lib.hid (cmp_lo' a b)
 go_enter Tryz.func173,Tryz.ntmps173
 go_wp2
 all_goals
  go_ret
  refine ⟨?_,plus_of_below (((Below.refl _ _).alloc (Nat.le_refl _) _).alloc (by simp) _)⟩
  refine (congrArg (fun z:Int=>Ending.returned (Value.int .i64 z)) (?_:cmpN a b = _)).symm
  first
   | exact E0.out (C0.out (by assumption) (by assumption))
   | exact E1.out (C1.out (by assumption))
   | exact E1.out (C2.out (by assumption) (by assumption))
   | exact E2.out (C3.out (by assumption) (by assumption))
   | exact E2.out (C4.out (by assumption) (by assumption) (by assumption))
theorem nv_beq (a b:Nat):(decide (hi a = hi b) && decide (lo a = lo b)) = decide (a = b):=by
 rw [Bool.eq_iff_iff];simp only [Bool.and_eq_true,decide_eq_true_eq]
 exact ⟨fun h=>cmp_eq a b h.1 h.2,fun h=>by subst h;exact ⟨rfl,rfl⟩⟩
/-- Two numbers are held against each other. -/
theorem eql_nv (a b:Nat) (w:World):(binOp .eql 64 (nv a) (nv b)).run Tryz.prog w = .ok (.bool (decide (a = b))) w:=by
 rw [← nv_beq]
 go_simp
 split <;> (try split) <;> simp_all
set_option maxHeartbeats 400000 in
theorem num_fits (n:Nat) (k:Int) (hn:n < B128):Pure Tryz.prog 139 #[nv n,.int .i64 k] (.bool (decide (n % 2 ^ hw k = n))):=by
 intro w
 have S:=Lib.hid (num_cut n k hn)
 have eqN:=eql_nv
 clear hn
 go_enter Tryz.func139,Tryz.ntmps139
 go_wp2
 obtain ⟨W,hW,hB,hs,ca,fa⟩:=box1 w _ 64
 rw [← hW]
 have ca0:=ca 0 (some (.int .u64 (hi n))) rfl
 have ca1:=ca 1 (some (.int .u64 (lo n))) rfl
 clear hW fa ca
 refine wp_region_own0 (by kernel_rfl) (by kernel_rfl) ?_
 repeat (go_big_quiet_step (exact S.out.at _ _))
 refine wpQuiet_nil ?_
 rintro _ ⟨y,rfl⟩
 go_wp2
 go_ret
 exact ⟨rfl,plus_of_below (hB.trans ((below_plus W y).mono hB.size))⟩
end Go.Proofs.YtlmhldcebllckaaGreat
