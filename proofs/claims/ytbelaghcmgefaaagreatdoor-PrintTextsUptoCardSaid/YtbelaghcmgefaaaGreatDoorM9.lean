/-
  WHAT IS PROVED HERE: a part of the proof (made narrower and merged by program; the parts: Hb Hc Hd He).
-/
import Derived.Test.YtbelaghcmgefaaaGreatDoorRows
import Derived.WalkKit
import Derived.Lib.Hide
import Derived.LoopN
import Derived.MapKept
import Derived.WalkSpells
import Derived.WalkLawsBesides
import Derived.Laws.EntriesVeiled
import Derived.Shelf.Abstract
import Derived.Test.YtbelaghcmgefaaaGreatDoorM4
import Derived.Test.YtbelaghcmgefaaaGreatDoorM8
import Derived.Test.YtbelaghcmgefaaaGreatDoorM7
import Derived.Test.YtbelaghcmgefaaaGreatDoorM5
import Derived.Test.YtbelaghcmgefaaaGreatDoorM6
namespace Go.Proofs.YtbelaghcmgefaaaGreatDoor
open Go.RowKit
/-- Block r is a map with these entries. -/
def MapAt (w:World) (r:Nat) (es:Array MapEntry):Prop:=∃ n,w.heap[r]? = some (.map es n)
theorem MapAt.lt {w:World} {r:Nat} {es:Array MapEntry} (h:MapAt w r es):r < w.heap.size:=by
 obtain ⟨n,h⟩:=h
 exact (Array.getElem?_eq_some_iff.1 h).1
theorem MapAt.plus {w:World} {r:Nat} {es:Array MapEntry} (h:MapAt w r es) (x:Ext):MapAt (plus w x) r es:=by
 have hl:=h.lt
 obtain ⟨n,h⟩:=h
 exact ⟨n,by simp [Go.Proofs.YtbelaghcmgefaaaGreatDoor.plus,Array.getElem?_append,hl];exact (Array.getElem?_eq_some_iff.1 h).2⟩
theorem MapAt.alloc {w:World} {r:Nat} {es:Array MapEntry} (h:MapAt w r es) (a:Obj):MapAt (w.alloc a) r es:=by
 obtain ⟨x,hx⟩:=alloc1_plus w a
 rw [hx];exact h.plus x
/-- What stands at a key, and whether one does. -/
def getIn (z:Value) (i:Int):List MapEntry → Value × Bool
 | []=>(z,false)
 | e :: l=>match e.key with
  | .int .u8 b=>if i == b then (e.val,true) else getIn z i l
  | _=>(z,false)
def u8Keys (l:List MapEntry):Prop:=∀ e ∈ l,∃ b,e.key = .int .u8 b
theorem find_get (z:Value) (i:Int):∀ (l:List MapEntry) (j:Nat),u8Keys l → ∃ r,Instr.findNow (.int .u8) (.int .u8 i) l j = some r ∧ ((∃ a v,r = some (a,v) ∧ getIn z i l = (v,true)) ∨ (r = none ∧ getIn z i l = (z,false)))
 | [],j,_=>⟨none,rfl,.inr ⟨rfl,rfl⟩⟩
 | e :: l,j,h=>by
  obtain ⟨b,hb⟩:=h e (List.mem_cons_self)
  cases hib:(i == b) with
  | true=>exact ⟨some (j,e.val),by simp [Instr.findNow,Instr.sameNow,hb,hib],.inl ⟨_,_,rfl,by simp [getIn,hb,hib]⟩⟩
  | false =>
   obtain ⟨r,h1,h2⟩:=find_get z i l (j + 1) (fun e he=>h e (List.mem_cons_of_mem _ he))
   refine ⟨r,by simpa [Instr.findNow,Instr.sameNow,hb,hib] using h1,?_⟩
   simpa [getIn,hb,hib] using h2
theorem look_u8 {P:Program} {w:World} {mt kt et:TypeId} {r:Nat} {es:Array MapEntry} {z:Value} (hm:P.underlying mt = some (.map kt et)) (hk:P.underlying kt = some (.int .u8)) (hz:(zeroValue et).run P w = .ok z w) (h:MapAt w r es) (hu:u8Keys es.toList) (i:Int) :
  (Instr.lookup mt (.map (some r)) (.int .u8 i) true).run P w = .ok (.tuple #[(getIn z i es.toList).1,.bool (getIn z i es.toList).2]) w:=by
 obtain ⟨n,hb⟩:=h
 obtain ⟨q,h1,h2⟩:=find_get z i es.toList 0 hu
 have hc:(Instr.checkKey es.isEmpty 10000 kt (.int .u8 i)).run P w = .ok () w:=MapKept.run_checkKey (k:=.int .u8 i) hk (by simp [MapKept.IsKey]) _ 9999
 rcases h2 with ⟨a,v,rfl,hg⟩ | ⟨rfl,hg⟩
 ·simp [Instr.lookup,run_underlying hm,MapKept.run_getObj_map hb,hc,MapKept.run_findKey hk h1,Result.andThen,hg]
 ·simp [Instr.lookup,run_underlying hm,MapKept.run_getObj_map hb,hc,MapKept.run_findKey hk h1,Result.andThen,hg,hz]
theorem push_set {α:Type} (a:Array α) (x y:α):(a.push x).setIfInBounds a.size y = a.push y:=by
 apply Array.ext_getElem?
 intro i
 rw [Array.getElem?_setIfInBounds,Array.getElem?_push,Array.getElem?_push]
 by_cases h:a.size = i
 ·subst h;simp
 ·rw [if_neg h,if_neg (fun e=>h e.symm),if_neg (fun e=>h e.symm)]
theorem upd_u8 {P:Program} {mt kt et:TypeId} (hm:P.underlying mt = some (.map kt et)) (hk:P.underlying kt = some (.int .u8)) (V:World) (es:Array MapEntry) (n:Nat) (k:Int) (v:Value) (hn:Instr.findNow (.int .u8) (.int .u8 k) es.toList 0 = some none) :
  (Instr.mapUpdate mt (.map (some V.heap.size)) (.int .u8 k) v).run P (V.alloc (.map es n)) = .ok () (V.alloc (.map (es.push ⟨.int .u8 k,v,n⟩) (n + 1))):=by
 have hb:(V.alloc (.map es n)).heap[V.heap.size]? = some (.map es n):=by
  show (V.heap.push _)[V.heap.size]? = _
  simp
 have hc:(Instr.checkKey false 10000 kt (.int .u8 k)).run P (V.alloc (.map es n)) = .ok () (V.alloc (.map es n)):=MapKept.run_checkKey (k:=.int .u8 k) hk (by simp [MapKept.IsKey]) false 9999
 simp only [Instr.mapUpdate,Sem.run_bind,run_underlying hm,hc,MapKept.run_getObj_map hb,MapKept.run_findKey hk hn,MapKept.run_setObj_map _ hb,Result.andThen]
 refine congrArg (Result.ok ()) ?_
 show ({ V with heap:=(V.heap.push _).setIfInBounds V.heap.size _ }:World) = { V with heap:=V.heap.push _ }
 congr 1
 exact push_set _ _ _
/-- The forms of an expression: has it a number, ends; head, name: 0 none, 1 one, 2 maybe one; how many Args; is the second one an amount? -/
def xLit (op:Int):Bool:=op == 1
def xSlice (op:Int):Bool:=op == 10
def xHead (op:Int):Int:=if op = 2 ∨ op = 6 then 1 else 0
def xName (op:Int):Int:=if op = 2 ∨ op = 3 ∨ op = 4 then 1 else 0
def xArgs (op:Int):Int:=if 7 ≤ op ∧ op ≤ 10 then 1 else if 11 ≤ op ∧ op ≤ 26 then 2 else 0
def xShift (op:Int):Bool:=op == 14 || op == 15
def xIs (op:Int):Bool:=decide (1 ≤ op ∧ op ≤ 26)
def xVal (op:Int):Value:=.agg #[.bool (xLit op),.bool (xSlice op),.int .u8 (xHead op),.int .u8 (xName op),.int .i64 (xArgs op),.bool (xShift op)]
def esX (n:Nat):Array MapEntry:=((List.range n).map fun (i:Nat)=>(⟨.int .u8 ((i:Int) + 1),xVal ((i:Int) + 1),i⟩:MapEntry)).toArray
def wX (V:World) (n:Nat):World:=V.alloc (.map (esX n) n)
/-- Of a set: has it a value, a mask? -/
def sV (k:Int):Bool:=k == 2 || k == 3
def sM (k:Int):Bool:=k == 3
def sIs (k:Int):Bool:=decide (1 ≤ k ∧ k ≤ 3)
def sVal (k:Int):Value:=.agg #[.bool (sV k),.bool (sM k)]
def esS (n:Nat):Array MapEntry:=((List.range n).map fun (i:Nat)=>(⟨.int .u8 ((i:Int) + 1),sVal ((i:Int) + 1),i⟩:MapEntry)).toArray
def wS (V:World) (n:Nat):World:=V.alloc (.map (esS n) n)
/-- Of a statement: head, name, an expression, blocks? -/
def tHead (k:Int):Int:=if k = 1 then 2 else if k = 6 ∨ k = 7 then 1 else 0
def tName (k:Int):Int:=if k = 1 ∨ k = 3 then 1 else 0
def tExpr (k:Int):Bool:=k == 1 || k == 2 || k == 5
def tBlocks (k:Int):Bool:=k == 2
def tIs (k:Int):Bool:=decide (1 ≤ k ∧ k ≤ 7)
def tVal (k:Int):Value:=.agg #[.int .u8 (tHead k),.int .u8 (tName k),.bool (tExpr k),.bool (tBlocks k)]
def esT (n:Nat):Array MapEntry:=((List.range n).map fun (i:Nat)=>(⟨.int .u8 ((i:Int) + 1),tVal ((i:Int) + 1),i⟩:MapEntry)).toArray
def wT (V:World) (n:Nat):World:=V.alloc (.map (esT n) n)
theorem upd_X (V:World) (n:Nat) (hn:Instr.findNow (.int .u8) (.int .u8 ((n:Int) + 1)) (esX n).toList 0 = some none) :
  (Instr.mapUpdate 99 (.map (some V.heap.size)) (.int .u8 ((n:Int) + 1)) (xVal ((n:Int) + 1))).run Tryz.prog (wX V n) = .ok () (wX V (n + 1)):=by
 unfold wX
 rw [upd_u8 Tryz.underlying99 Tryz.underlying5 V _ n _ _ hn]
 simp [esX,List.range_succ]
set_option maxRecDepth 100000 in
set_option maxHeartbeats 8000000 in
theorem forms_X (V:World):Calls Tryz.prog 37 #[] V fun e w'=>e = .returned (.map (some V.heap.size)) ∧ w' = wX V 26:=by
 have u0:(Instr.makeMap 99 none).run Tryz.prog V = .ok (.map (some V.heap.size)) (wX V 0):=rfl
 have v0:(Instr.mapUpdate 99 (.map (some V.heap.size)) (.int .u8 1) (.agg #[.bool true,.bool false,.int .u8 0,.int .u8 0,.int .i64 0,.bool false])).run Tryz.prog (wX V 0) = .ok () (wX V 1):=upd_X V 0 rfl
 have v1:(Instr.mapUpdate 99 (.map (some V.heap.size)) (.int .u8 2) (.agg #[.bool false,.bool false,.int .u8 1,.int .u8 1,.int .i64 0,.bool false])).run Tryz.prog (wX V 1) = .ok () (wX V 2):=upd_X V 1 rfl
 have v2:(Instr.mapUpdate 99 (.map (some V.heap.size)) (.int .u8 3) (.agg #[.bool false,.bool false,.int .u8 0,.int .u8 1,.int .i64 0,.bool false])).run Tryz.prog (wX V 2) = .ok () (wX V 3):=upd_X V 2 rfl
 have v3:(Instr.mapUpdate 99 (.map (some V.heap.size)) (.int .u8 4) (.agg #[.bool false,.bool false,.int .u8 0,.int .u8 1,.int .i64 0,.bool false])).run Tryz.prog (wX V 3) = .ok () (wX V 4):=upd_X V 3 rfl
 have v4:(Instr.mapUpdate 99 (.map (some V.heap.size)) (.int .u8 5) (.agg #[.bool false,.bool false,.int .u8 0,.int .u8 0,.int .i64 0,.bool false])).run Tryz.prog (wX V 4) = .ok () (wX V 5):=upd_X V 4 rfl
 have v5:(Instr.mapUpdate 99 (.map (some V.heap.size)) (.int .u8 6) (.agg #[.bool false,.bool false,.int .u8 1,.int .u8 0,.int .i64 0,.bool false])).run Tryz.prog (wX V 5) = .ok () (wX V 6):=upd_X V 5 rfl
 have v6:(Instr.mapUpdate 99 (.map (some V.heap.size)) (.int .u8 7) (.agg #[.bool false,.bool false,.int .u8 0,.int .u8 0,.int .i64 1,.bool false])).run Tryz.prog (wX V 6) = .ok () (wX V 7):=upd_X V 6 rfl
 have v7:(Instr.mapUpdate 99 (.map (some V.heap.size)) (.int .u8 8) (.agg #[.bool false,.bool false,.int .u8 0,.int .u8 0,.int .i64 1,.bool false])).run Tryz.prog (wX V 7) = .ok () (wX V 8):=upd_X V 7 rfl
 have v8:(Instr.mapUpdate 99 (.map (some V.heap.size)) (.int .u8 9) (.agg #[.bool false,.bool false,.int .u8 0,.int .u8 0,.int .i64 1,.bool false])).run Tryz.prog (wX V 8) = .ok () (wX V 9):=upd_X V 8 rfl
 have v9:(Instr.mapUpdate 99 (.map (some V.heap.size)) (.int .u8 10) (.agg #[.bool false,.bool true,.int .u8 0,.int .u8 0,.int .i64 1,.bool false])).run Tryz.prog (wX V 9) = .ok () (wX V 10):=upd_X V 9 rfl
 have v10:(Instr.mapUpdate 99 (.map (some V.heap.size)) (.int .u8 11) (.agg #[.bool false,.bool false,.int .u8 0,.int .u8 0,.int .i64 2,.bool false])).run Tryz.prog (wX V 10) = .ok () (wX V 11):=upd_X V 10 rfl
 have v11:(Instr.mapUpdate 99 (.map (some V.heap.size)) (.int .u8 12) (.agg #[.bool false,.bool false,.int .u8 0,.int .u8 0,.int .i64 2,.bool false])).run Tryz.prog (wX V 11) = .ok () (wX V 12):=upd_X V 11 rfl
 have v12:(Instr.mapUpdate 99 (.map (some V.heap.size)) (.int .u8 13) (.agg #[.bool false,.bool false,.int .u8 0,.int .u8 0,.int .i64 2,.bool false])).run Tryz.prog (wX V 12) = .ok () (wX V 13):=upd_X V 12 rfl
 have v13:(Instr.mapUpdate 99 (.map (some V.heap.size)) (.int .u8 14) (.agg #[.bool false,.bool false,.int .u8 0,.int .u8 0,.int .i64 2,.bool true])).run Tryz.prog (wX V 13) = .ok () (wX V 14):=upd_X V 13 rfl
 have v14:(Instr.mapUpdate 99 (.map (some V.heap.size)) (.int .u8 15) (.agg #[.bool false,.bool false,.int .u8 0,.int .u8 0,.int .i64 2,.bool true])).run Tryz.prog (wX V 14) = .ok () (wX V 15):=upd_X V 14 rfl
 have v15:(Instr.mapUpdate 99 (.map (some V.heap.size)) (.int .u8 16) (.agg #[.bool false,.bool false,.int .u8 0,.int .u8 0,.int .i64 2,.bool false])).run Tryz.prog (wX V 15) = .ok () (wX V 16):=upd_X V 15 rfl
 have v16:(Instr.mapUpdate 99 (.map (some V.heap.size)) (.int .u8 17) (.agg #[.bool false,.bool false,.int .u8 0,.int .u8 0,.int .i64 2,.bool false])).run Tryz.prog (wX V 16) = .ok () (wX V 17):=upd_X V 16 rfl
 have v17:(Instr.mapUpdate 99 (.map (some V.heap.size)) (.int .u8 18) (.agg #[.bool false,.bool false,.int .u8 0,.int .u8 0,.int .i64 2,.bool false])).run Tryz.prog (wX V 17) = .ok () (wX V 18):=upd_X V 17 rfl
 have v18:(Instr.mapUpdate 99 (.map (some V.heap.size)) (.int .u8 19) (.agg #[.bool false,.bool false,.int .u8 0,.int .u8 0,.int .i64 2,.bool false])).run Tryz.prog (wX V 18) = .ok () (wX V 19):=upd_X V 18 rfl
 have v19:(Instr.mapUpdate 99 (.map (some V.heap.size)) (.int .u8 20) (.agg #[.bool false,.bool false,.int .u8 0,.int .u8 0,.int .i64 2,.bool false])).run Tryz.prog (wX V 19) = .ok () (wX V 20):=upd_X V 19 rfl
 have v20:(Instr.mapUpdate 99 (.map (some V.heap.size)) (.int .u8 21) (.agg #[.bool false,.bool false,.int .u8 0,.int .u8 0,.int .i64 2,.bool false])).run Tryz.prog (wX V 20) = .ok () (wX V 21):=upd_X V 20 rfl
 have v21:(Instr.mapUpdate 99 (.map (some V.heap.size)) (.int .u8 22) (.agg #[.bool false,.bool false,.int .u8 0,.int .u8 0,.int .i64 2,.bool false])).run Tryz.prog (wX V 21) = .ok () (wX V 22):=upd_X V 21 rfl
 have v22:(Instr.mapUpdate 99 (.map (some V.heap.size)) (.int .u8 23) (.agg #[.bool false,.bool false,.int .u8 0,.int .u8 0,.int .i64 2,.bool false])).run Tryz.prog (wX V 22) = .ok () (wX V 23):=upd_X V 22 rfl
 have v23:(Instr.mapUpdate 99 (.map (some V.heap.size)) (.int .u8 24) (.agg #[.bool false,.bool false,.int .u8 0,.int .u8 0,.int .i64 2,.bool false])).run Tryz.prog (wX V 23) = .ok () (wX V 24):=upd_X V 23 rfl
 have v24:(Instr.mapUpdate 99 (.map (some V.heap.size)) (.int .u8 25) (.agg #[.bool false,.bool false,.int .u8 0,.int .u8 0,.int .i64 2,.bool false])).run Tryz.prog (wX V 24) = .ok () (wX V 25):=upd_X V 24 rfl
 have v25:(Instr.mapUpdate 99 (.map (some V.heap.size)) (.int .u8 26) (.agg #[.bool false,.bool false,.int .u8 0,.int .u8 0,.int .i64 2,.bool false])).run Tryz.prog (wX V 25) = .ok () (wX V 26):=upd_X V 25 rfl
 go_enter Tryz.func37,Tryz.ntmps37
 go_wp2
 refine wp_loop_rounds 17 ?_
 iterate 17 (rw [rounds_succ];go_wp2)
 go_ret
 exact ⟨rfl,rfl⟩
theorem upd_S (V:World) (n:Nat) (hn:Instr.findNow (.int .u8) (.int .u8 ((n:Int) + 1)) (esS n).toList 0 = some none) :
  (Instr.mapUpdate 101 (.map (some V.heap.size)) (.int .u8 ((n:Int) + 1)) (sVal ((n:Int) + 1))).run Tryz.prog (wS V n) = .ok () (wS V (n + 1)):=by
 unfold wS
 rw [upd_u8 Tryz.underlying101 Tryz.underlying5 V _ n _ _ hn]
 simp [esS,List.range_succ]
set_option maxRecDepth 100000 in
set_option maxHeartbeats 8000000 in
theorem forms_S (V:World):Calls Tryz.prog 94 #[] V fun e w'=>e = .returned (.map (some V.heap.size)) ∧ w' = wS V 3:=by
 have u0:(Instr.makeMap 101 none).run Tryz.prog V = .ok (.map (some V.heap.size)) (wS V 0):=rfl
 have v0:(Instr.mapUpdate 101 (.map (some V.heap.size)) (.int .u8 1) (.agg #[.bool false,.bool false])).run Tryz.prog (wS V 0) = .ok () (wS V 1):=upd_S V 0 rfl
 have v1:(Instr.mapUpdate 101 (.map (some V.heap.size)) (.int .u8 2) (.agg #[.bool true,.bool false])).run Tryz.prog (wS V 1) = .ok () (wS V 2):=upd_S V 1 rfl
 have v2:(Instr.mapUpdate 101 (.map (some V.heap.size)) (.int .u8 3) (.agg #[.bool true,.bool true])).run Tryz.prog (wS V 2) = .ok () (wS V 3):=upd_S V 2 rfl
 go_enter Tryz.func94,Tryz.ntmps94
 go_wp2
 go_ret
 exact ⟨rfl,rfl⟩
theorem upd_T (V:World) (n:Nat) (hn:Instr.findNow (.int .u8) (.int .u8 ((n:Int) + 1)) (esT n).toList 0 = some none) :
  (Instr.mapUpdate 102 (.map (some V.heap.size)) (.int .u8 ((n:Int) + 1)) (tVal ((n:Int) + 1))).run Tryz.prog (wT V n) = .ok () (wT V (n + 1)):=by
 unfold wT
 rw [upd_u8 Tryz.underlying102 Tryz.underlying5 V _ n _ _ hn]
 simp [esT,List.range_succ]
set_option maxRecDepth 100000 in
set_option maxHeartbeats 8000000 in
theorem forms_T (V:World):Calls Tryz.prog 95 #[] V fun e w'=>e = .returned (.map (some V.heap.size)) ∧ w' = wT V 7:=by
 have u0:(Instr.makeMap 102 none).run Tryz.prog V = .ok (.map (some V.heap.size)) (wT V 0):=rfl
 have v0:(Instr.mapUpdate 102 (.map (some V.heap.size)) (.int .u8 1) (.agg #[.int .u8 2,.int .u8 1,.bool true,.bool false])).run Tryz.prog (wT V 0) = .ok () (wT V 1):=upd_T V 0 rfl
 have v1:(Instr.mapUpdate 102 (.map (some V.heap.size)) (.int .u8 2) (.agg #[.int .u8 0,.int .u8 0,.bool true,.bool true])).run Tryz.prog (wT V 1) = .ok () (wT V 2):=upd_T V 1 rfl
 have v2:(Instr.mapUpdate 102 (.map (some V.heap.size)) (.int .u8 3) (.agg #[.int .u8 0,.int .u8 1,.bool false,.bool false])).run Tryz.prog (wT V 2) = .ok () (wT V 3):=upd_T V 2 rfl
 have v3:(Instr.mapUpdate 102 (.map (some V.heap.size)) (.int .u8 4) (.agg #[.int .u8 0,.int .u8 0,.bool false,.bool false])).run Tryz.prog (wT V 3) = .ok () (wT V 4):=upd_T V 3 rfl
 have v4:(Instr.mapUpdate 102 (.map (some V.heap.size)) (.int .u8 5) (.agg #[.int .u8 0,.int .u8 0,.bool true,.bool false])).run Tryz.prog (wT V 4) = .ok () (wT V 5):=upd_T V 4 rfl
 have v5:(Instr.mapUpdate 102 (.map (some V.heap.size)) (.int .u8 6) (.agg #[.int .u8 1,.int .u8 0,.bool false,.bool false])).run Tryz.prog (wT V 5) = .ok () (wT V 6):=upd_T V 5 rfl
 have v6:(Instr.mapUpdate 102 (.map (some V.heap.size)) (.int .u8 7) (.agg #[.int .u8 1,.int .u8 0,.bool false,.bool false])).run Tryz.prog (wT V 6) = .ok () (wT V 7):=upd_T V 6 rfl
 go_enter Tryz.func95,Tryz.ntmps95
 go_wp2
 go_ret
 exact ⟨rfl,rfl⟩
def widthB (w:Int):Bool:=decide (1 ≤ w) && decide (w ≤ 128)
set_option maxRecDepth 100000 in
set_option maxHeartbeats 8000000 in
theorem ast_width (a:Int) (w:World) :
  Kp Tryz.prog w 96 #[.int .i64 a] (.bool (decide (1 ≤ a) && decide (a ≤ 128))):=by
 intro y0
 obtain ⟨V,hV⟩:∃ V,plus w y0 = V:=⟨_,rfl⟩
 rw [hV] at ⊢
 clear hV
 obtain ⟨R,hR⟩:∃ R,(decide (1 ≤ a) && decide (a ≤ 128)) = R:=⟨_,rfl⟩
 rw [hR]
 by_cases q1:1 ≤ a
 case neg =>
  have hF:=Lib.hid (show (false) = R by first | exact hR | (rw [← hR];simp [q1]))
  clear hR
  go_enter Tryz.func96,Tryz.ntmps96
  go_wp2_with fail
  go_ret
  exact ⟨rb hF.out,alloc0_plus _⟩
 case pos =>
  by_cases q2:a ≤ 128
  case neg =>
   have hF:=Lib.hid (show (false) = R by first | exact hR | (rw [← hR];simp [q1,q2]))
   clear hR
   go_enter Tryz.func96,Tryz.ntmps96
   go_wp2_with fail
   go_ret
   exact ⟨rb hF.out,alloc0_plus _⟩
  case pos =>
   have hF:=Lib.hid (show (true) = R by first | exact hR | (rw [← hR];simp [q1,q2]))
   clear hR
   go_enter Tryz.func96,Tryz.ntmps96
   go_wp2_with fail
   go_ret
   exact ⟨rb hF.out,alloc0_plus _⟩
set_option maxRecDepth 100000 in
set_option maxHeartbeats 8000000 in
theorem lit_of (a0:Int) (a1:Int) (a2:Int) (s0 s1:Bool) (w:World)
  (h0:Kp Tryz.prog w 96 #[.int .i64 a0] (.bool s0))
  (h1:Kp Tryz.prog w 146 #[.agg #[.int .u64 a1,.int .u64 a2],.int .i64 a0] (.bool s1)) :
  Kp Tryz.prog w 101 #[.agg #[.int .i64 a0,.int .u64 a1,.int .u64 a2]] (.bool ((a0 == 0) || (s0 && s1))):=by
 intro y0
 have h0:=h0.up y0
 have h1:=h1.up y0
 obtain ⟨V,hV⟩:∃ V,plus w y0 = V:=⟨_,rfl⟩
 rw [hV] at h0 h1 ⊢
 clear hV
 obtain ⟨R,hR⟩:∃ R,((a0 == 0) || (s0 && s1)) = R:=⟨_,rfl⟩
 rw [hR]
 by_cases q1:(a0 == 0) = true
 case neg =>
  have q1:(a0 == 0) = false:=by simpa using q1
  cases s0
  case false =>
   have hF:=Lib.hid (show (false) = R by first | exact hR | (rw [← hR];simp [q1]))
   clear hR
   clear h1
   have h0:=Lib.hid h0
   go_enter Tryz.func101,Tryz.ntmps101
   go_wp2_with fail
   obtain ⟨W,yy,hW,⟨z,hz⟩,cb0⟩:=box1n V _ 26
   rw [hW]
   have c0_0:=cb0 0 _ rfl
   have c0_1:=cb0 1 _ rfl
   have c0_2:=cb0 2 _ rfl
   have q0c:=Lib.hid (kp_at hz h0.out)
   have hz':=Lib.hid hz
   clear hW hz cb0
   refine (q0c.out _).mono ?_
   rintro r w' ⟨rfl,x1,rfl⟩
   go_wp2_with fail
   go_ret
   exact ⟨rb hF.out,pp hz'.out⟩
  case true =>
   cases s1
   case false =>
    have hF:=Lib.hid (show (false) = R by first | exact hR | (rw [← hR];simp [q1]))
    clear hR
    have h0:=Lib.hid h0
    have h1:=Lib.hid h1
    go_enter Tryz.func101,Tryz.ntmps101
    go_wp2_with fail
    obtain ⟨W,yy,hW,⟨z,hz⟩,cb0⟩:=box1n V _ 26
    rw [hW]
    have c0_0:=cb0 0 _ rfl
    have c0_1:=cb0 1 _ rfl
    have c0_2:=cb0 2 _ rfl
    have q0c:=Lib.hid (kp_at hz h0.out)
    have q1c:=Lib.hid (kp_at hz h1.out)
    have hz':=Lib.hid hz
    clear hW hz cb0
    refine (q0c.out _).mono ?_
    rintro r w' ⟨rfl,x1,rfl⟩
    go_wp2_with (first | (go_at_call 146;with_reducible refine (q1c.out _).mono ?_;rintro r w' ⟨rfl,x,rfl⟩))
    go_ret
    exact ⟨rb hF.out,pp hz'.out⟩
   case true =>
    have hF:=Lib.hid (show (true) = R by first | exact hR | (rw [← hR];simp [q1]))
    clear hR
    have h0:=Lib.hid h0
    have h1:=Lib.hid h1
    go_enter Tryz.func101,Tryz.ntmps101
    go_wp2_with fail
    obtain ⟨W,yy,hW,⟨z,hz⟩,cb0⟩:=box1n V _ 26
    rw [hW]
    have c0_0:=cb0 0 _ rfl
    have c0_1:=cb0 1 _ rfl
    have c0_2:=cb0 2 _ rfl
    have q0c:=Lib.hid (kp_at hz h0.out)
    have q1c:=Lib.hid (kp_at hz h1.out)
    have hz':=Lib.hid hz
    clear hW hz cb0
    refine (q0c.out _).mono ?_
    rintro r w' ⟨rfl,x1,rfl⟩
    go_wp2_with (first | (go_at_call 146;with_reducible refine (q1c.out _).mono ?_;rintro r w' ⟨rfl,x,rfl⟩))
    go_ret
    exact ⟨rb hF.out,pp hz'.out⟩
 case pos =>
  have hF:=Lib.hid (show (true) = R by first | exact hR | (rw [← hR];simp [q1]))
  clear hR
  clear h0 h1
  go_enter Tryz.func101,Tryz.ntmps101
  go_wp2_with fail
  go_ret
  exact ⟨rb hF.out,alloc1_plus _ _⟩
set_option maxRecDepth 100000 in
set_option maxHeartbeats 8000000 in
theorem field_of (a0:ByteArray) (a1:Int) (s0 s1:Bool) (w:World)
  (h0:Kp Tryz.prog w 61 #[.string a0] (.bool s0))
  (h1:Kp Tryz.prog w 96 #[.int .i64 a1] (.bool s1)) :
  Kp Tryz.prog w 52 #[.agg #[.string a0,.int .i64 a1]] (.bool (((s0) && (s1)))):=by
 intro y0
 have h0:=h0.up y0
 have h1:=h1.up y0
 obtain ⟨V,hV⟩:∃ V,plus w y0 = V:=⟨_,rfl⟩
 rw [hV] at h0 h1 ⊢
 clear hV
 obtain ⟨R,hR⟩:∃ R,(((s0) && (s1))) = R:=⟨_,rfl⟩
 rw [hR]
 cases s0
 case false =>
  have hF:=Lib.hid (show (false) = R by first | exact hR | (rw [← hR];simp))
  clear hR
  clear h1
  have h0:=Lib.hid h0
  go_enter Tryz.func52,Tryz.ntmps52
  go_wp2_with fail
  obtain ⟨W,yy,hW,⟨z,hz⟩,cb0⟩:=box1n V _ 88
  rw [hW]
  have c0_0:=cb0 0 _ rfl
  have c0_1:=cb0 1 _ rfl
  have q0c:=Lib.hid (kp_at hz h0.out)
  have hz':=Lib.hid hz
  clear hW hz cb0
  refine (q0c.out _).mono ?_
  rintro r w' ⟨rfl,x1,rfl⟩
  go_wp2_with fail
  go_ret
  exact ⟨rb hF.out,pp hz'.out⟩
 case true =>
  cases s1
  case false =>
   have hF:=Lib.hid (show (false) = R by first | exact hR | (rw [← hR];simp))
   clear hR
   have h0:=Lib.hid h0
   have h1:=Lib.hid h1
   go_enter Tryz.func52,Tryz.ntmps52
   go_wp2_with fail
   obtain ⟨W,yy,hW,⟨z,hz⟩,cb0⟩:=box1n V _ 88
   rw [hW]
   have c0_0:=cb0 0 _ rfl
   have c0_1:=cb0 1 _ rfl
   have q0c:=Lib.hid (kp_at hz h0.out)
   have q1c:=Lib.hid (kp_at hz h1.out)
   have hz':=Lib.hid hz
   clear hW hz cb0
   refine (q0c.out _).mono ?_
   rintro r w' ⟨rfl,x1,rfl⟩
   go_wp2_with (first | (go_at_call 96;with_reducible refine (q1c.out _).mono ?_;rintro r w' ⟨rfl,x,rfl⟩))
   go_ret
   exact ⟨rb hF.out,pp hz'.out⟩
  case true =>
   have hF:=Lib.hid (show (true) = R by first | exact hR | (rw [← hR];simp))
   clear hR
   have h0:=Lib.hid h0
   have h1:=Lib.hid h1
   go_enter Tryz.func52,Tryz.ntmps52
   go_wp2_with fail
   obtain ⟨W,yy,hW,⟨z,hz⟩,cb0⟩:=box1n V _ 88
   rw [hW]
   have c0_0:=cb0 0 _ rfl
   have c0_1:=cb0 1 _ rfl
   have q0c:=Lib.hid (kp_at hz h0.out)
   have q1c:=Lib.hid (kp_at hz h1.out)
   have hz':=Lib.hid hz
   clear hW hz cb0
   refine (q0c.out _).mono ?_
   rintro r w' ⟨rfl,x1,rfl⟩
   go_wp2_with (first | (go_at_call 96;with_reducible refine (q1c.out _).mono ?_;rintro r w' ⟨rfl,x,rfl⟩))
   go_ret
   exact ⟨rb hF.out,pp hz'.out⟩
set_option maxRecDepth 100000 in
set_option maxHeartbeats 8000000 in
theorem litfits_of (a0:Int) (a1:Int) (a2:Int) (is:Bool) (s0:Bool) (w:World)
  (h0:Kp Tryz.prog w 101 #[.agg #[.int .i64 a0,.int .u64 a1,.int .u64 a2]] (.bool s0)) :
  Kp Tryz.prog w 134 #[.agg #[.int .i64 a0,.int .u64 a1,.int .u64 a2],.bool is] (.bool (if is then s0 else ((a0 == 0) && ((a1 == 0) && (a2 == 0))))):=by
 intro y0
 have h0:=h0.up y0
 obtain ⟨V,hV⟩:∃ V,plus w y0 = V:=⟨_,rfl⟩
 rw [hV] at h0 ⊢
 clear hV
 obtain ⟨R,hR⟩:∃ R,(if is then s0 else ((a0 == 0) && ((a1 == 0) && (a2 == 0)))) = R:=⟨_,rfl⟩
 rw [hR]
 by_cases q1:(is) = true
 case neg =>
  have q1:(is) = false:=by simpa using q1
  by_cases q2:(a0 == 0) = true
  case neg =>
   have q2:(a0 == 0) = false:=by simpa using q2
   have hF:=Lib.hid (show (false) = R by first | exact hR | (rw [← hR];simp [q1,q2]))
   clear hR
   clear h0
   go_enter Tryz.func134,Tryz.ntmps134
   go_wp2_with fail
   go_ret
   exact ⟨rb hF.out,alloc1_plus _ _⟩
  case pos =>
   by_cases q3:(a1 == 0) = true
   case neg =>
    have q3:(a1 == 0) = false:=by simpa using q3
    have hF:=Lib.hid (show (false) = R by first | exact hR | (rw [← hR];simp [q1,q2,q3]))
    clear hR
    clear h0
    go_enter Tryz.func134,Tryz.ntmps134
    go_wp2_with fail
    go_ret
    exact ⟨rb hF.out,alloc1_plus _ _⟩
   case pos =>
    by_cases q4:(a2 == 0) = true
    case neg =>
     have q4:(a2 == 0) = false:=by simpa using q4
     have hF:=Lib.hid (show (false) = R by first | exact hR | (rw [← hR];simp [q1,q2,q3,q4]))
     clear hR
     clear h0
     go_enter Tryz.func134,Tryz.ntmps134
     go_wp2_with fail
     go_ret
     exact ⟨rb hF.out,alloc1_plus _ _⟩
    case pos =>
     have hF:=Lib.hid (show (true) = R by first | exact hR | (rw [← hR];simp [q1,q2,q3,q4]))
     clear hR
     clear h0
     go_enter Tryz.func134,Tryz.ntmps134
     go_wp2_with fail
     go_ret
     exact ⟨rb hF.out,alloc1_plus _ _⟩
 case pos =>
  cases s0
  case false =>
   have hF:=Lib.hid (show (false) = R by first | exact hR | (rw [← hR];simp [q1]))
   clear hR
   have h0:=Lib.hid h0
   go_enter Tryz.func134,Tryz.ntmps134
   go_wp2_with fail
   obtain ⟨W,yy,hW,⟨z,hz⟩,cb0⟩:=box1n V _ 26
   rw [hW]
   have c0_0:=cb0 0 _ rfl
   have c0_1:=cb0 1 _ rfl
   have c0_2:=cb0 2 _ rfl
   have q0c:=Lib.hid (kp_at hz h0.out)
   have hz':=Lib.hid hz
   clear hW hz cb0
   refine (q0c.out _).mono ?_
   rintro r w' ⟨rfl,x1,rfl⟩
   go_wp2_with fail
   go_ret
   exact ⟨rb hF.out,pp hz'.out⟩
  case true =>
   have hF:=Lib.hid (show (true) = R by first | exact hR | (rw [← hR];simp [q1]))
   clear hR
   have h0:=Lib.hid h0
   go_enter Tryz.func134,Tryz.ntmps134
   go_wp2_with fail
   obtain ⟨W,yy,hW,⟨z,hz⟩,cb0⟩:=box1n V _ 26
   rw [hW]
   have c0_0:=cb0 0 _ rfl
   have c0_1:=cb0 1 _ rfl
   have c0_2:=cb0 2 _ rfl
   have q0c:=Lib.hid (kp_at hz h0.out)
   have hz':=Lib.hid hz
   clear hW hz cb0
   refine (q0c.out _).mono ?_
   rintro r w' ⟨rfl,x1,rfl⟩
   go_wp2_with fail
   go_ret
   exact ⟨rb hF.out,pp hz'.out⟩
set_option maxRecDepth 100000 in
set_option maxHeartbeats 8000000 in
theorem namefits_of (s:ByteArray) (p:Int) (s0:Bool) (w:World)
  (h0:Kp Tryz.prog w 61 #[.string s] (.bool s0)) :
  Kp Tryz.prog w 135 #[.string s,.int .u8 p] (.bool (if s.toList == [] then p != 1 else ((p != 0) && s0))):=by
 intro y0
 have h0:=h0.up y0
 obtain ⟨V,hV⟩:∃ V,plus w y0 = V:=⟨_,rfl⟩
 rw [hV] at h0 ⊢
 clear hV
 obtain ⟨R,hR⟩:∃ R,(if s.toList == [] then p != 1 else ((p != 0) && s0)) = R:=⟨_,rfl⟩
 rw [hR]
 by_cases q1:(s.toList == []) = true
 case neg =>
  have q1:(s.toList == []) = false:=by simpa using q1
  by_cases q2:(p != 0) = true
  case neg =>
   have q2:(p != 0) = false:=by simpa using q2
   have hF:=Lib.hid (show (false) = R by first | exact hR | (rw [← hR];simp [q1,q2]))
   clear hR
   clear h0
   go_enter Tryz.func135,Tryz.ntmps135
   go_wp2_with fail
   go_ret
   exact ⟨rb hF.out,alloc0_plus _⟩
  case pos =>
   cases s0
   case false =>
    have hF:=Lib.hid (show (false) = R by first | exact hR | (rw [← hR];simp [q1,q2]))
    clear hR
    have h0:=Lib.hid h0
    go_enter Tryz.func135,Tryz.ntmps135
    go_wp2_with fail
    have q0c:=Lib.hid h0.out.pure
    refine (calls_self h0.out).mono ?_
    rintro r w' ⟨rfl,x1,rfl⟩
    go_wp2_with fail
    go_ret
    exact ⟨rb hF.out,_,rfl⟩
   case true =>
    have hF:=Lib.hid (show (true) = R by first | exact hR | (rw [← hR];simp [q1,q2]))
    clear hR
    have h0:=Lib.hid h0
    go_enter Tryz.func135,Tryz.ntmps135
    go_wp2_with fail
    have q0c:=Lib.hid h0.out.pure
    refine (calls_self h0.out).mono ?_
    rintro r w' ⟨rfl,x1,rfl⟩
    go_wp2_with fail
    go_ret
    exact ⟨rb hF.out,_,rfl⟩
 case pos =>
  by_cases q3:(p != 1) = true
  case neg =>
   have q3:(p != 1) = false:=by simpa using q3
   have hF:=Lib.hid (show (false) = R by first | exact hR | (rw [← hR];simp [q1,q3]))
   clear hR
   clear h0
   go_enter Tryz.func135,Tryz.ntmps135
   go_wp2_with fail
   go_ret
   exact ⟨rb hF.out,alloc0_plus _⟩
  case pos =>
   have hF:=Lib.hid (show (true) = R by first | exact hR | (rw [← hR];simp [q1,q3]))
   clear hR
   clear h0
   go_enter Tryz.func135,Tryz.ntmps135
   go_wp2_with fail
   go_ret
   exact ⟨rb hF.out,alloc0_plus _⟩
set_option maxRecDepth 100000 in
set_option maxHeartbeats 8000000 in
theorem slicefits_of (a b:Int) (is:Bool) (w:World) :
  Kp Tryz.prog w 136 #[.int .i64 a,.int .i64 b,.bool is] (.bool (if is then (decide (0 ≤ b) && (decide (b ≤ a) && decide (a < 128))) else ((a == 0) && (b == 0)))):=by
 intro y0
 obtain ⟨V,hV⟩:∃ V,plus w y0 = V:=⟨_,rfl⟩
 rw [hV] at ⊢
 clear hV
 obtain ⟨R,hR⟩:∃ R,(if is then (decide (0 ≤ b) && (decide (b ≤ a) && decide (a < 128))) else ((a == 0) && (b == 0))) = R:=⟨_,rfl⟩
 rw [hR]
 by_cases q1:(is) = true
 case neg =>
  have q1:(is) = false:=by simpa using q1
  by_cases q2:(a == 0) = true
  case neg =>
   have q2:(a == 0) = false:=by simpa using q2
   have hF:=Lib.hid (show (false) = R by first | exact hR | (rw [← hR];simp [q1,q2]))
   clear hR
   go_enter Tryz.func136,Tryz.ntmps136
   go_wp2_with fail
   go_ret
   exact ⟨rb hF.out,alloc0_plus _⟩
  case pos =>
   by_cases q3:(b == 0) = true
   case neg =>
    have q3:(b == 0) = false:=by simpa using q3
    have hF:=Lib.hid (show (false) = R by first | exact hR | (rw [← hR];simp [q1,q2,q3]))
    clear hR
    go_enter Tryz.func136,Tryz.ntmps136
    go_wp2_with fail
    go_ret
    exact ⟨rb hF.out,alloc0_plus _⟩
   case pos =>
    have hF:=Lib.hid (show (true) = R by first | exact hR | (rw [← hR];simp [q1,q2,q3]))
    clear hR
    go_enter Tryz.func136,Tryz.ntmps136
    go_wp2_with fail
    go_ret
    exact ⟨rb hF.out,alloc0_plus _⟩
 case pos =>
  by_cases q4:0 ≤ b
  case neg =>
   have hF:=Lib.hid (show (false) = R by first | exact hR | (rw [← hR];simp [q1,q4]))
   clear hR
   go_enter Tryz.func136,Tryz.ntmps136
   go_wp2_with fail
   go_ret
   exact ⟨rb hF.out,alloc0_plus _⟩
  case pos =>
   by_cases q5:b ≤ a
   case neg =>
    have hF:=Lib.hid (show (false) = R by first | exact hR | (rw [← hR];simp [q1,q4,q5]))
    clear hR
    go_enter Tryz.func136,Tryz.ntmps136
    go_wp2_with fail
    go_ret
    exact ⟨rb hF.out,alloc0_plus _⟩
   case pos =>
    by_cases q6:a < 128
    case neg =>
     have hF:=Lib.hid (show (false) = R by first | exact hR | (rw [← hR];simp [q1,q4,q5,q6]))
     clear hR
     go_enter Tryz.func136,Tryz.ntmps136
     go_wp2_with fail
     go_ret
     exact ⟨rb hF.out,alloc0_plus _⟩
    case pos =>
     have hF:=Lib.hid (show (true) = R by first | exact hR | (rw [← hR];simp [q1,q4,q5,q6]))
     clear hR
     go_enter Tryz.func136,Tryz.ntmps136
     go_wp2_with fail
     go_ret
     exact ⟨rb hF.out,alloc0_plus _⟩
set_option maxRecDepth 100000 in
set_option maxHeartbeats 8000000 in
theorem target_of (s:ByteArray) (s0:Bool) (w:World)
  (h0:Kp Tryz.prog w 61 #[.string s] (.bool s0)) :
  Kp Tryz.prog w 142 #[.string s] (.bool ((s.toList == [97,99,99,101,112,116]) || ((s.toList == [114,101,106,101,99,116]) || s0))):=by
 intro y0
 have h0:=h0.up y0
 obtain ⟨V,hV⟩:∃ V,plus w y0 = V:=⟨_,rfl⟩
 rw [hV] at h0 ⊢
 clear hV
 obtain ⟨R,hR⟩:∃ R,((s.toList == [97,99,99,101,112,116]) || ((s.toList == [114,101,106,101,99,116]) || s0)) = R:=⟨_,rfl⟩
 rw [hR]
 by_cases q1:(s.toList == [97,99,99,101,112,116]) = true
 case neg =>
  have q1:(s.toList == [97,99,99,101,112,116]) = false:=by simpa using q1
  by_cases q2:(s.toList == [114,101,106,101,99,116]) = true
  case neg =>
   have q2:(s.toList == [114,101,106,101,99,116]) = false:=by simpa using q2
   cases s0
   case false =>
    have hF:=Lib.hid (show (false) = R by first | exact hR | (rw [← hR];simp [q1,q2]))
    clear hR
    have h0:=Lib.hid h0
    go_enter Tryz.func142,Tryz.ntmps142
    go_wp2_with fail
    have q0c:=Lib.hid h0.out.pure
    refine (calls_self h0.out).mono ?_
    rintro r w' ⟨rfl,x1,rfl⟩
    go_wp2_with fail
    go_ret
    exact ⟨rb hF.out,_,rfl⟩
   case true =>
    have hF:=Lib.hid (show (true) = R by first | exact hR | (rw [← hR];simp [q1,q2]))
    clear hR
    have h0:=Lib.hid h0
    go_enter Tryz.func142,Tryz.ntmps142
    go_wp2_with fail
    have q0c:=Lib.hid h0.out.pure
    refine (calls_self h0.out).mono ?_
    rintro r w' ⟨rfl,x1,rfl⟩
    go_wp2_with fail
    go_ret
    exact ⟨rb hF.out,_,rfl⟩
  case pos =>
   have hF:=Lib.hid (show (true) = R by first | exact hR | (rw [← hR];simp [q1,q2]))
   clear hR
   clear h0
   go_enter Tryz.func142,Tryz.ntmps142
   go_wp2_with fail
   go_ret
   exact ⟨rb hF.out,alloc0_plus _⟩
 case pos =>
  have hF:=Lib.hid (show (true) = R by first | exact hR | (rw [← hR];simp [q1]))
  clear hR
  clear h0
  go_enter Tryz.func142,Tryz.ntmps142
  go_wp2_with fail
  go_ret
  exact ⟨rb hF.out,alloc0_plus _⟩
theorem cellsat_at {V W:World} {z:Ext} {a:Addr} {cs:List Value} (hz:W = plus V z) (h:CellsAt V a cs):CellsAt W a cs:=by rw [hz];exact h.plus z
set_option maxRecDepth 100000 in
set_option maxHeartbeats 8000000 in
theorem amount_of (a0:Int) (a1:Int) (a2:Int) (a3:Int) (a4:ByteArray) (a5:ByteArray) (a6:Int) (a7:Int) (a8p:Option Addr) (a8n:Nat) (a8c:Nat) (k:Int) (w:World)
  (h0:Kp Tryz.prog w 139 #[.int .u64 127] (.agg #[.int .u64 0,.int .u64 127]))
  (h1:Kp Tryz.prog w 155 #[.agg #[.int .u64 a2,.int .u64 a3],.agg #[.int .u64 0,.int .u64 127]] (.int .i64 k)) :
  Kp Tryz.prog w 137 #[.agg #[.int .u8 a0,.int .i64 a1,.int .u64 a2,.int .u64 a3,.string a4,.string a5,.int .i64 a6,.int .i64 a7,.slice a8p a8n a8c]] (.bool ((a0 == 1) && ((a1 == 0) && decide (k ≤ 0)))):=by
 intro y0
 have h0:=h0.up y0
 have h1:=h1.up y0
 obtain ⟨V,hV⟩:∃ V,plus w y0 = V:=⟨_,rfl⟩
 rw [hV] at h0 h1 ⊢
 clear hV
 obtain ⟨R,hR⟩:∃ R,((a0 == 1) && ((a1 == 0) && decide (k ≤ 0))) = R:=⟨_,rfl⟩
 rw [hR]
 by_cases q1:(a0 == 1) = true
 case neg =>
  have q1:(a0 == 1) = false:=by simpa using q1
  have hF:=Lib.hid (show (false) = R by first | exact hR | (rw [← hR];simp [q1]))
  clear hR
  clear h0 h1
  go_enter Tryz.func137,Tryz.ntmps137
  go_wp2
  obtain ⟨W,yy,hW,⟨z,hz⟩,cb0⟩:=box1n V _ 29
  rw [hW]
  have c0_0:=cb0 0 _ rfl
  have c0_1:=cb0 1 _ rfl
  have c0_2:=cb0 2 _ rfl
  have c0_3:=cb0 3 _ rfl
  have c0_4:=cb0 4 _ rfl
  have c0_5:=cb0 5 _ rfl
  have c0_6:=cb0 6 _ rfl
  have c0_7:=cb0 7 _ rfl
  have c0_8:=cb0 8 _ rfl
  have hz':=Lib.hid hz
  clear hW hz cb0
  refine wp_region_own (by kernel_rfl) (by kernel_rfl) ?_
  repeat (go_big_quiet_step (fail))
  refine wpQuiet_nil ?_
  rintro _ ⟨y1,rfl⟩
  go_wp2
  go_ret
  exact ⟨rb hF.out,pp hz'.out⟩
 case pos =>
  by_cases q2:(a1 == 0) = true
  case neg =>
   have q2:(a1 == 0) = false:=by simpa using q2
   have hF:=Lib.hid (show (false) = R by first | exact hR | (rw [← hR];simp [q1,q2]))
   clear hR
   clear h0 h1
   go_enter Tryz.func137,Tryz.ntmps137
   go_wp2
   obtain ⟨W,yy,hW,⟨z,hz⟩,cb0⟩:=box1n V _ 29
   rw [hW]
   have c0_0:=cb0 0 _ rfl
   have c0_1:=cb0 1 _ rfl
   have c0_2:=cb0 2 _ rfl
   have c0_3:=cb0 3 _ rfl
   have c0_4:=cb0 4 _ rfl
   have c0_5:=cb0 5 _ rfl
   have c0_6:=cb0 6 _ rfl
   have c0_7:=cb0 7 _ rfl
   have c0_8:=cb0 8 _ rfl
   have hz':=Lib.hid hz
   clear hW hz cb0
   refine wp_region_own (by kernel_rfl) (by kernel_rfl) ?_
   repeat (go_big_quiet_step (fail))
   refine wpQuiet_nil ?_
   rintro _ ⟨y1,rfl⟩
   go_wp2
   go_ret
   exact ⟨rb hF.out,pp hz'.out⟩
  case pos =>
   have hF:=Lib.hid (show (decide (k ≤ 0)) = R by first | exact hR | (rw [← hR];simp [q1,q2]))
   clear hR
   have h0:=Lib.hid h0
   have h1:=Lib.hid h1
   go_enter Tryz.func137,Tryz.ntmps137
   go_wp2
   obtain ⟨W,yy,hW,⟨z,hz⟩,cb0⟩:=box1n V _ 29
   rw [hW]
   have c0_0:=cb0 0 _ rfl
   have c0_1:=cb0 1 _ rfl
   have c0_2:=cb0 2 _ rfl
   have c0_3:=cb0 3 _ rfl
   have c0_4:=cb0 4 _ rfl
   have c0_5:=cb0 5 _ rfl
   have c0_6:=cb0 6 _ rfl
   have c0_7:=cb0 7 _ rfl
   have c0_8:=cb0 8 _ rfl
   have q0c:=Lib.hid (kp_at hz h0.out)
   have q1c:=Lib.hid (kp_at hz h1.out)
   have hz':=Lib.hid hz
   clear hW hz cb0
   refine wp_region_own (by kernel_rfl) (by kernel_rfl) ?_
   repeat (go_big_quiet_step (first | (with_reducible exact q0c.out _) | (with_reducible exact q1c.out _)))
   refine wpQuiet_nil ?_
   rintro _ ⟨y1,rfl⟩
   go_wp2
   go_ret
   exact ⟨rb hF.out,pp hz'.out⟩
set_option maxRecDepth 100000 in
set_option maxHeartbeats 8000000 in
theorem fits_a (fl fs:Bool) (fh fn fa:Int) (a0:Int) (a1:Int) (a2:Int) (a3:Int) (a4:ByteArray) (a5:ByteArray) (a6:Int) (a7:Int) (a8p:Option Addr) (a8n:Nat) (a8c:Nat) (s0:Bool) (s1:Bool) (s2:Bool) (s3:Bool) (w:World)
  (h0:Kp Tryz.prog w 134 #[.agg #[.int .i64 a1,.int .u64 a2,.int .u64 a3],.bool fl] (.bool s0))
  (h1:Kp Tryz.prog w 135 #[.string a4,.int .u8 fh] (.bool s1))
  (h2:Kp Tryz.prog w 135 #[.string a5,.int .u8 fn] (.bool s2))
  (h3:Kp Tryz.prog w 136 #[.int .i64 a6,.int .i64 a7,.bool fs] (.bool s3)) :
  Kp Tryz.prog w 86 #[.agg #[.bool fl,.bool fs,.int .u8 fh,.int .u8 fn,.int .i64 fa,.bool false],.agg #[.int .u8 a0,.int .i64 a1,.int .u64 a2,.int .u64 a3,.string a4,.string a5,.int .i64 a6,.int .i64 a7,.slice a8p a8n a8c]] (.bool (((s0) && ((s1) && ((s2) && ((s3) && ((a8n:Int) == fa))))))):=by
 intro y0
 have h0:=h0.up y0
 have h1:=h1.up y0
 have h2:=h2.up y0
 have h3:=h3.up y0
 obtain ⟨V,hV⟩:∃ V,plus w y0 = V:=⟨_,rfl⟩
 rw [hV] at h0 h1 h2 h3 ⊢
 clear hV
 obtain ⟨R,hR⟩:∃ R,(((s0) && ((s1) && ((s2) && ((s3) && ((a8n:Int) == fa)))))) = R:=⟨_,rfl⟩
 rw [hR]
 cases s0
 case false =>
  have hF:=Lib.hid (show (false) = R by first | exact hR | (rw [← hR];simp))
  clear hR
  clear h1 h2 h3
  have h0:=Lib.hid h0
  go_enter Tryz.func86,Tryz.ntmps86
  go_wp2_with fail
  obtain ⟨W,yy,hW,⟨z,hz⟩,cb0,cb1⟩:=box2n V _ _ 145 29
  rw [hW]
  have c0_0:=cb0 0 _ rfl
  have c0_1:=cb0 1 _ rfl
  have c0_2:=cb0 2 _ rfl
  have c0_3:=cb0 3 _ rfl
  have c0_4:=cb0 4 _ rfl
  have c0_5:=cb0 5 _ rfl
  have c1_0:=cb1 0 _ rfl
  have c1_1:=cb1 1 _ rfl
  have c1_2:=cb1 2 _ rfl
  have c1_3:=cb1 3 _ rfl
  have c1_4:=cb1 4 _ rfl
  have c1_5:=cb1 5 _ rfl
  have c1_6:=cb1 6 _ rfl
  have c1_7:=cb1 7 _ rfl
  have c1_8:=cb1 8 _ rfl
  have q0c:=Lib.hid (kp_at hz h0.out)
  have hz':=Lib.hid hz
  clear hW hz cb0 cb1
  refine (q0c.out _).mono ?_
  rintro r w' ⟨rfl,x1,rfl⟩
  go_wp2_with fail
  go_ret
  exact ⟨rb hF.out,pp hz'.out⟩
 case true =>
  cases s1
  case false =>
   have hF:=Lib.hid (show (false) = R by first | exact hR | (rw [← hR];simp))
   clear hR
   clear h2 h3
   have h0:=Lib.hid h0
   have h1:=Lib.hid h1
   go_enter Tryz.func86,Tryz.ntmps86
   go_wp2_with fail
   obtain ⟨W,yy,hW,⟨z,hz⟩,cb0,cb1⟩:=box2n V _ _ 145 29
   rw [hW]
   have c0_0:=cb0 0 _ rfl
   have c0_1:=cb0 1 _ rfl
   have c0_2:=cb0 2 _ rfl
   have c0_3:=cb0 3 _ rfl
   have c0_4:=cb0 4 _ rfl
   have c0_5:=cb0 5 _ rfl
   have c1_0:=cb1 0 _ rfl
   have c1_1:=cb1 1 _ rfl
   have c1_2:=cb1 2 _ rfl
   have c1_3:=cb1 3 _ rfl
   have c1_4:=cb1 4 _ rfl
   have c1_5:=cb1 5 _ rfl
   have c1_6:=cb1 6 _ rfl
   have c1_7:=cb1 7 _ rfl
   have c1_8:=cb1 8 _ rfl
   have q0c:=Lib.hid (kp_at hz h0.out)
   have q1c:=Lib.hid (kp_at hz h1.out)
   have hz':=Lib.hid hz
   clear hW hz cb0 cb1
   refine (q0c.out _).mono ?_
   rintro r w' ⟨rfl,x1,rfl⟩
   go_wp2_with (first | (go_at_call 135;with_reducible refine (q1c.out _).mono ?_;rintro r w' ⟨rfl,x,rfl⟩))
   go_ret
   exact ⟨rb hF.out,pp hz'.out⟩
  case true =>
   cases s2
   case false =>
    have hF:=Lib.hid (show (false) = R by first | exact hR | (rw [← hR];simp))
    clear hR
    clear h3
    have h0:=Lib.hid h0
    have h1:=Lib.hid h1
    have h2:=Lib.hid h2
    go_enter Tryz.func86,Tryz.ntmps86
    go_wp2_with fail
    obtain ⟨W,yy,hW,⟨z,hz⟩,cb0,cb1⟩:=box2n V _ _ 145 29
    rw [hW]
    have c0_0:=cb0 0 _ rfl
    have c0_1:=cb0 1 _ rfl
    have c0_2:=cb0 2 _ rfl
    have c0_3:=cb0 3 _ rfl
    have c0_4:=cb0 4 _ rfl
    have c0_5:=cb0 5 _ rfl
    have c1_0:=cb1 0 _ rfl
    have c1_1:=cb1 1 _ rfl
    have c1_2:=cb1 2 _ rfl
    have c1_3:=cb1 3 _ rfl
    have c1_4:=cb1 4 _ rfl
    have c1_5:=cb1 5 _ rfl
    have c1_6:=cb1 6 _ rfl
    have c1_7:=cb1 7 _ rfl
    have c1_8:=cb1 8 _ rfl
    have q0c:=Lib.hid (kp_at hz h0.out)
    have q1c:=Lib.hid (kp_at hz h1.out)
    have q2c:=Lib.hid (kp_at hz h2.out)
    have hz':=Lib.hid hz
    clear hW hz cb0 cb1
    refine (q0c.out _).mono ?_
    rintro r w' ⟨rfl,x1,rfl⟩
    go_wp2_with (first | (go_at_call 135;with_reducible refine (q1c.out _).mono ?_;rintro r w' ⟨rfl,x,rfl⟩) | (go_at_call 135;with_reducible refine (q2c.out _).mono ?_;rintro r w' ⟨rfl,x,rfl⟩))
    go_ret
    exact ⟨rb hF.out,pp hz'.out⟩
   case true =>
    cases s3
    case false =>
     have hF:=Lib.hid (show (false) = R by first | exact hR | (rw [← hR];simp))
     clear hR
     have h0:=Lib.hid h0
     have h1:=Lib.hid h1
     have h2:=Lib.hid h2
     have h3:=Lib.hid h3
     go_enter Tryz.func86,Tryz.ntmps86
     go_wp2_with fail
     obtain ⟨W,yy,hW,⟨z,hz⟩,cb0,cb1⟩:=box2n V _ _ 145 29
     rw [hW]
     have c0_0:=cb0 0 _ rfl
     have c0_1:=cb0 1 _ rfl
     have c0_2:=cb0 2 _ rfl
     have c0_3:=cb0 3 _ rfl
     have c0_4:=cb0 4 _ rfl
     have c0_5:=cb0 5 _ rfl
     have c1_0:=cb1 0 _ rfl
     have c1_1:=cb1 1 _ rfl
     have c1_2:=cb1 2 _ rfl
     have c1_3:=cb1 3 _ rfl
     have c1_4:=cb1 4 _ rfl
     have c1_5:=cb1 5 _ rfl
     have c1_6:=cb1 6 _ rfl
     have c1_7:=cb1 7 _ rfl
     have c1_8:=cb1 8 _ rfl
     have q0c:=Lib.hid (kp_at hz h0.out)
     have q1c:=Lib.hid (kp_at hz h1.out)
     have q2c:=Lib.hid (kp_at hz h2.out)
     have q3c:=Lib.hid (kp_at hz h3.out)
     have hz':=Lib.hid hz
     clear hW hz cb0 cb1
     refine (q0c.out _).mono ?_
     rintro r w' ⟨rfl,x1,rfl⟩
     go_wp2_with (first | (go_at_call 135;with_reducible refine (q1c.out _).mono ?_;rintro r w' ⟨rfl,x,rfl⟩) | (go_at_call 135;with_reducible refine (q2c.out _).mono ?_;rintro r w' ⟨rfl,x,rfl⟩) | (go_at_call 136;with_reducible refine (q3c.out _).mono ?_;rintro r w' ⟨rfl,x,rfl⟩))
     go_ret
     exact ⟨rb hF.out,pp hz'.out⟩
    case true =>
     by_cases q1:((a8n:Int) == fa) = true
     case neg =>
      have q1:((a8n:Int) == fa) = false:=by simpa using q1
      have hF:=Lib.hid (show (false) = R by first | exact hR | (rw [← hR];simp [q1]))
      clear hR
      have h0:=Lib.hid h0
      have h1:=Lib.hid h1
      have h2:=Lib.hid h2
      have h3:=Lib.hid h3
      go_enter Tryz.func86,Tryz.ntmps86
      go_wp2_with fail
      obtain ⟨W,yy,hW,⟨z,hz⟩,cb0,cb1⟩:=box2n V _ _ 145 29
      rw [hW]
      have c0_0:=cb0 0 _ rfl
      have c0_1:=cb0 1 _ rfl
      have c0_2:=cb0 2 _ rfl
      have c0_3:=cb0 3 _ rfl
      have c0_4:=cb0 4 _ rfl
      have c0_5:=cb0 5 _ rfl
      have c1_0:=cb1 0 _ rfl
      have c1_1:=cb1 1 _ rfl
      have c1_2:=cb1 2 _ rfl
      have c1_3:=cb1 3 _ rfl
      have c1_4:=cb1 4 _ rfl
      have c1_5:=cb1 5 _ rfl
      have c1_6:=cb1 6 _ rfl
      have c1_7:=cb1 7 _ rfl
      have c1_8:=cb1 8 _ rfl
      have q0c:=Lib.hid (kp_at hz h0.out)
      have q1c:=Lib.hid (kp_at hz h1.out)
      have q2c:=Lib.hid (kp_at hz h2.out)
      have q3c:=Lib.hid (kp_at hz h3.out)
      have hz':=Lib.hid hz
      clear hW hz cb0 cb1
      refine (q0c.out _).mono ?_
      rintro r w' ⟨rfl,x1,rfl⟩
      go_wp2_with (first | (go_at_call 135;with_reducible refine (q1c.out _).mono ?_;rintro r w' ⟨rfl,x,rfl⟩) | (go_at_call 135;with_reducible refine (q2c.out _).mono ?_;rintro r w' ⟨rfl,x,rfl⟩) | (go_at_call 136;with_reducible refine (q3c.out _).mono ?_;rintro r w' ⟨rfl,x,rfl⟩))
      go_ret
      exact ⟨rb hF.out,pp hz'.out⟩
     case pos =>
      have hF:=Lib.hid (show (true) = R by first | exact hR | (rw [← hR];simp [q1]))
      clear hR
      have h0:=Lib.hid h0
      have h1:=Lib.hid h1
      have h2:=Lib.hid h2
      have h3:=Lib.hid h3
      go_enter Tryz.func86,Tryz.ntmps86
      go_wp2_with fail
      obtain ⟨W,yy,hW,⟨z,hz⟩,cb0,cb1⟩:=box2n V _ _ 145 29
      rw [hW]
      have c0_0:=cb0 0 _ rfl
      have c0_1:=cb0 1 _ rfl
      have c0_2:=cb0 2 _ rfl
      have c0_3:=cb0 3 _ rfl
      have c0_4:=cb0 4 _ rfl
      have c0_5:=cb0 5 _ rfl
      have c1_0:=cb1 0 _ rfl
      have c1_1:=cb1 1 _ rfl
      have c1_2:=cb1 2 _ rfl
      have c1_3:=cb1 3 _ rfl
      have c1_4:=cb1 4 _ rfl
      have c1_5:=cb1 5 _ rfl
      have c1_6:=cb1 6 _ rfl
      have c1_7:=cb1 7 _ rfl
      have c1_8:=cb1 8 _ rfl
      have q0c:=Lib.hid (kp_at hz h0.out)
      have q1c:=Lib.hid (kp_at hz h1.out)
      have q2c:=Lib.hid (kp_at hz h2.out)
      have q3c:=Lib.hid (kp_at hz h3.out)
      have hz':=Lib.hid hz
      clear hW hz cb0 cb1
      refine (q0c.out _).mono ?_
      rintro r w' ⟨rfl,x1,rfl⟩
      go_wp2_with (first | (go_at_call 135;with_reducible refine (q1c.out _).mono ?_;rintro r w' ⟨rfl,x,rfl⟩) | (go_at_call 135;with_reducible refine (q2c.out _).mono ?_;rintro r w' ⟨rfl,x,rfl⟩) | (go_at_call 136;with_reducible refine (q3c.out _).mono ?_;rintro r w' ⟨rfl,x,rfl⟩))
      go_ret
      exact ⟨rb hF.out,pp hz'.out⟩
set_option maxRecDepth 100000 in
set_option maxHeartbeats 8000000 in
theorem fits_b (fl fs:Bool) (fh fn:Int) (a0:Int) (a1:Int) (a2:Int) (a3:Int) (a4:ByteArray) (a5:ByteArray) (a6:Int) (a7:Int) (a8p:Option Addr) (a8n:Nat) (a8c:Nat) (s0:Bool) (s1:Bool) (s2:Bool) (s3:Bool) (w:World) (hn2:¬ a8n = 2)
  (h0:Kp Tryz.prog w 134 #[.agg #[.int .i64 a1,.int .u64 a2,.int .u64 a3],.bool fl] (.bool s0))
  (h1:Kp Tryz.prog w 135 #[.string a4,.int .u8 fh] (.bool s1))
  (h2:Kp Tryz.prog w 135 #[.string a5,.int .u8 fn] (.bool s2))
  (h3:Kp Tryz.prog w 136 #[.int .i64 a6,.int .i64 a7,.bool fs] (.bool s3)) :
  Kp Tryz.prog w 86 #[.agg #[.bool fl,.bool fs,.int .u8 fh,.int .u8 fn,.int .i64 2,.bool true],.agg #[.int .u8 a0,.int .i64 a1,.int .u64 a2,.int .u64 a3,.string a4,.string a5,.int .i64 a6,.int .i64 a7,.slice a8p a8n a8c]] (.bool (false)):=by
 intro y0
 have h0:=h0.up y0
 have h1:=h1.up y0
 have h2:=h2.up y0
 have h3:=h3.up y0
 obtain ⟨V,hV⟩:∃ V,plus w y0 = V:=⟨_,rfl⟩
 rw [hV] at h0 h1 h2 h3 ⊢
 clear hV
 have hn3:((a8n:Int) == 2) = false:=by first | (simp;done) | (simp;omega)
 obtain ⟨R,hR⟩:∃ R,(false) = R:=⟨_,rfl⟩
 rw [hR]
 cases s0
 case false =>
  have hF:=Lib.hid (show (false) = R by first | exact hR | (rw [← hR];simp))
  clear hR
  clear h1 h2 h3
  have h0:=Lib.hid h0
  go_enter Tryz.func86,Tryz.ntmps86
  go_wp2_with fail
  obtain ⟨W,yy,hW,⟨z,hz⟩,cb0,cb1⟩:=box2n V _ _ 145 29
  rw [hW]
  have c0_0:=cb0 0 _ rfl
  have c0_1:=cb0 1 _ rfl
  have c0_2:=cb0 2 _ rfl
  have c0_3:=cb0 3 _ rfl
  have c0_4:=cb0 4 _ rfl
  have c0_5:=cb0 5 _ rfl
  have c1_0:=cb1 0 _ rfl
  have c1_1:=cb1 1 _ rfl
  have c1_2:=cb1 2 _ rfl
  have c1_3:=cb1 3 _ rfl
  have c1_4:=cb1 4 _ rfl
  have c1_5:=cb1 5 _ rfl
  have c1_6:=cb1 6 _ rfl
  have c1_7:=cb1 7 _ rfl
  have c1_8:=cb1 8 _ rfl
  have q0c:=Lib.hid (kp_at hz h0.out)
  have hz':=Lib.hid hz
  clear hW hz cb0 cb1
  refine (q0c.out _).mono ?_
  rintro r w' ⟨rfl,x1,rfl⟩
  go_wp2_with fail
  go_ret
  exact ⟨rb hF.out,pp hz'.out⟩
 case true =>
  cases s1
  case false =>
   have hF:=Lib.hid (show (false) = R by first | exact hR | (rw [← hR];simp))
   clear hR
   clear h2 h3
   have h0:=Lib.hid h0
   have h1:=Lib.hid h1
   go_enter Tryz.func86,Tryz.ntmps86
   go_wp2_with fail
   obtain ⟨W,yy,hW,⟨z,hz⟩,cb0,cb1⟩:=box2n V _ _ 145 29
   rw [hW]
   have c0_0:=cb0 0 _ rfl
   have c0_1:=cb0 1 _ rfl
   have c0_2:=cb0 2 _ rfl
   have c0_3:=cb0 3 _ rfl
   have c0_4:=cb0 4 _ rfl
   have c0_5:=cb0 5 _ rfl
   have c1_0:=cb1 0 _ rfl
   have c1_1:=cb1 1 _ rfl
   have c1_2:=cb1 2 _ rfl
   have c1_3:=cb1 3 _ rfl
   have c1_4:=cb1 4 _ rfl
   have c1_5:=cb1 5 _ rfl
   have c1_6:=cb1 6 _ rfl
   have c1_7:=cb1 7 _ rfl
   have c1_8:=cb1 8 _ rfl
   have q0c:=Lib.hid (kp_at hz h0.out)
   have q1c:=Lib.hid (kp_at hz h1.out)
   have hz':=Lib.hid hz
   clear hW hz cb0 cb1
   refine (q0c.out _).mono ?_
   rintro r w' ⟨rfl,x1,rfl⟩
   go_wp2_with (first | (go_at_call 135;with_reducible refine (q1c.out _).mono ?_;rintro r w' ⟨rfl,x,rfl⟩))
   go_ret
   exact ⟨rb hF.out,pp hz'.out⟩
  case true =>
   cases s2
   case false =>
    have hF:=Lib.hid (show (false) = R by first | exact hR | (rw [← hR];simp))
    clear hR
    clear h3
    have h0:=Lib.hid h0
    have h1:=Lib.hid h1
    have h2:=Lib.hid h2
    go_enter Tryz.func86,Tryz.ntmps86
    go_wp2_with fail
    obtain ⟨W,yy,hW,⟨z,hz⟩,cb0,cb1⟩:=box2n V _ _ 145 29
    rw [hW]
    have c0_0:=cb0 0 _ rfl
    have c0_1:=cb0 1 _ rfl
    have c0_2:=cb0 2 _ rfl
    have c0_3:=cb0 3 _ rfl
    have c0_4:=cb0 4 _ rfl
    have c0_5:=cb0 5 _ rfl
    have c1_0:=cb1 0 _ rfl
    have c1_1:=cb1 1 _ rfl
    have c1_2:=cb1 2 _ rfl
    have c1_3:=cb1 3 _ rfl
    have c1_4:=cb1 4 _ rfl
    have c1_5:=cb1 5 _ rfl
    have c1_6:=cb1 6 _ rfl
    have c1_7:=cb1 7 _ rfl
    have c1_8:=cb1 8 _ rfl
    have q0c:=Lib.hid (kp_at hz h0.out)
    have q1c:=Lib.hid (kp_at hz h1.out)
    have q2c:=Lib.hid (kp_at hz h2.out)
    have hz':=Lib.hid hz
    clear hW hz cb0 cb1
    refine (q0c.out _).mono ?_
    rintro r w' ⟨rfl,x1,rfl⟩
    go_wp2_with (first | (go_at_call 135;with_reducible refine (q1c.out _).mono ?_;rintro r w' ⟨rfl,x,rfl⟩) | (go_at_call 135;with_reducible refine (q2c.out _).mono ?_;rintro r w' ⟨rfl,x,rfl⟩))
    go_ret
    exact ⟨rb hF.out,pp hz'.out⟩
   case true =>
    cases s3
    case false =>
     have hF:=Lib.hid (show (false) = R by first | exact hR | (rw [← hR];simp))
     clear hR
     have h0:=Lib.hid h0
     have h1:=Lib.hid h1
     have h2:=Lib.hid h2
     have h3:=Lib.hid h3
     go_enter Tryz.func86,Tryz.ntmps86
     go_wp2_with fail
     obtain ⟨W,yy,hW,⟨z,hz⟩,cb0,cb1⟩:=box2n V _ _ 145 29
     rw [hW]
     have c0_0:=cb0 0 _ rfl
     have c0_1:=cb0 1 _ rfl
     have c0_2:=cb0 2 _ rfl
     have c0_3:=cb0 3 _ rfl
     have c0_4:=cb0 4 _ rfl
     have c0_5:=cb0 5 _ rfl
     have c1_0:=cb1 0 _ rfl
     have c1_1:=cb1 1 _ rfl
     have c1_2:=cb1 2 _ rfl
     have c1_3:=cb1 3 _ rfl
     have c1_4:=cb1 4 _ rfl
     have c1_5:=cb1 5 _ rfl
     have c1_6:=cb1 6 _ rfl
     have c1_7:=cb1 7 _ rfl
     have c1_8:=cb1 8 _ rfl
     have q0c:=Lib.hid (kp_at hz h0.out)
     have q1c:=Lib.hid (kp_at hz h1.out)
     have q2c:=Lib.hid (kp_at hz h2.out)
     have q3c:=Lib.hid (kp_at hz h3.out)
     have hz':=Lib.hid hz
     clear hW hz cb0 cb1
     refine (q0c.out _).mono ?_
     rintro r w' ⟨rfl,x1,rfl⟩
     go_wp2_with (first | (go_at_call 135;with_reducible refine (q1c.out _).mono ?_;rintro r w' ⟨rfl,x,rfl⟩) | (go_at_call 135;with_reducible refine (q2c.out _).mono ?_;rintro r w' ⟨rfl,x,rfl⟩) | (go_at_call 136;with_reducible refine (q3c.out _).mono ?_;rintro r w' ⟨rfl,x,rfl⟩))
     go_ret
     exact ⟨rb hF.out,pp hz'.out⟩
    case true =>
     by_cases q1:((a8n:Int) == 2) = true
     case neg =>
      have q1:((a8n:Int) == 2) = false:=by simpa using q1
      have hF:=Lib.hid (show (false) = R by first | exact hR | (rw [← hR];simp [q1]))
      clear hR
      have h0:=Lib.hid h0
      have h1:=Lib.hid h1
      have h2:=Lib.hid h2
      have h3:=Lib.hid h3
      go_enter Tryz.func86,Tryz.ntmps86
      go_wp2_with fail
      obtain ⟨W,yy,hW,⟨z,hz⟩,cb0,cb1⟩:=box2n V _ _ 145 29
      rw [hW]
      have c0_0:=cb0 0 _ rfl
      have c0_1:=cb0 1 _ rfl
      have c0_2:=cb0 2 _ rfl
      have c0_3:=cb0 3 _ rfl
      have c0_4:=cb0 4 _ rfl
      have c0_5:=cb0 5 _ rfl
      have c1_0:=cb1 0 _ rfl
      have c1_1:=cb1 1 _ rfl
      have c1_2:=cb1 2 _ rfl
      have c1_3:=cb1 3 _ rfl
      have c1_4:=cb1 4 _ rfl
      have c1_5:=cb1 5 _ rfl
      have c1_6:=cb1 6 _ rfl
      have c1_7:=cb1 7 _ rfl
      have c1_8:=cb1 8 _ rfl
      have q0c:=Lib.hid (kp_at hz h0.out)
      have q1c:=Lib.hid (kp_at hz h1.out)
      have q2c:=Lib.hid (kp_at hz h2.out)
      have q3c:=Lib.hid (kp_at hz h3.out)
      have hz':=Lib.hid hz
      clear hW hz cb0 cb1
      refine (q0c.out _).mono ?_
      rintro r w' ⟨rfl,x1,rfl⟩
      go_wp2_with (first | (go_at_call 135;with_reducible refine (q1c.out _).mono ?_;rintro r w' ⟨rfl,x,rfl⟩) | (go_at_call 135;with_reducible refine (q2c.out _).mono ?_;rintro r w' ⟨rfl,x,rfl⟩) | (go_at_call 136;with_reducible refine (q3c.out _).mono ?_;rintro r w' ⟨rfl,x,rfl⟩))
      go_ret
      exact ⟨rb hF.out,pp hz'.out⟩
     case pos =>
      have hF:=Lib.hid (show (false) = R by first | exact hR | (rw [← hR];simp [q1]))
      clear hR
      have h0:=Lib.hid h0
      have h1:=Lib.hid h1
      have h2:=Lib.hid h2
      have h3:=Lib.hid h3
      go_enter Tryz.func86,Tryz.ntmps86
      go_wp2_with fail
      obtain ⟨W,yy,hW,⟨z,hz⟩,cb0,cb1⟩:=box2n V _ _ 145 29
      rw [hW]
      have c0_0:=cb0 0 _ rfl
      have c0_1:=cb0 1 _ rfl
      have c0_2:=cb0 2 _ rfl
      have c0_3:=cb0 3 _ rfl
      have c0_4:=cb0 4 _ rfl
      have c0_5:=cb0 5 _ rfl
      have c1_0:=cb1 0 _ rfl
      have c1_1:=cb1 1 _ rfl
      have c1_2:=cb1 2 _ rfl
      have c1_3:=cb1 3 _ rfl
      have c1_4:=cb1 4 _ rfl
      have c1_5:=cb1 5 _ rfl
      have c1_6:=cb1 6 _ rfl
      have c1_7:=cb1 7 _ rfl
      have c1_8:=cb1 8 _ rfl
      have q0c:=Lib.hid (kp_at hz h0.out)
      have q1c:=Lib.hid (kp_at hz h1.out)
      have q2c:=Lib.hid (kp_at hz h2.out)
      have q3c:=Lib.hid (kp_at hz h3.out)
      have hz':=Lib.hid hz
      clear hW hz cb0 cb1
      refine (q0c.out _).mono ?_
      rintro r w' ⟨rfl,x1,rfl⟩
      go_wp2_with (first | (go_at_call 135;with_reducible refine (q1c.out _).mono ?_;rintro r w' ⟨rfl,x,rfl⟩) | (go_at_call 135;with_reducible refine (q2c.out _).mono ?_;rintro r w' ⟨rfl,x,rfl⟩) | (go_at_call 136;with_reducible refine (q3c.out _).mono ?_;rintro r w' ⟨rfl,x,rfl⟩))
      go_ret
      exact ⟨rb hF.out,pp hz'.out⟩
set_option maxRecDepth 100000 in
set_option maxHeartbeats 8000000 in
theorem fits_c (fl fs:Bool) (fh fn:Int) (a0:Int) (a1:Int) (a2:Int) (a3:Int) (a4:ByteArray) (a5:ByteArray) (a6:Int) (a7:Int) (pa:Addr) (a8c:Nat) (b0:Int) (b1:Int) (b2:Int) (b3:Int) (b4:ByteArray) (b5:ByteArray) (b6:Int) (b7:Int) (b8p:Option Addr) (b8n:Nat) (b8c:Nat) (s0:Bool) (s1:Bool) (s2:Bool) (s3:Bool) (s4:Bool) (w:World) (hx:CellsAt w (pa.add 9) [.int .u8 b0,.int .i64 b1,.int .u64 b2,.int .u64 b3,.string b4,.string b5,.int .i64 b6,.int .i64 b7,.slice b8p b8n b8c])
  (h0:Kp Tryz.prog w 134 #[.agg #[.int .i64 a1,.int .u64 a2,.int .u64 a3],.bool fl] (.bool s0))
  (h1:Kp Tryz.prog w 135 #[.string a4,.int .u8 fh] (.bool s1))
  (h2:Kp Tryz.prog w 135 #[.string a5,.int .u8 fn] (.bool s2))
  (h3:Kp Tryz.prog w 136 #[.int .i64 a6,.int .i64 a7,.bool fs] (.bool s3))
  (h4:Kp Tryz.prog w 137 #[.agg #[.int .u8 b0,.int .i64 b1,.int .u64 b2,.int .u64 b3,.string b4,.string b5,.int .i64 b6,.int .i64 b7,.slice b8p b8n b8c]] (.bool s4)) :
  Kp Tryz.prog w 86 #[.agg #[.bool fl,.bool fs,.int .u8 fh,.int .u8 fn,.int .i64 2,.bool true],.agg #[.int .u8 a0,.int .i64 a1,.int .u64 a2,.int .u64 a3,.string a4,.string a5,.int .i64 a6,.int .i64 a7,.slice (some pa) 2 a8c]] (.bool (((s0) && ((s1) && ((s2) && ((s3) && (s4))))))):=by
 intro y0
 have h0:=h0.up y0
 have h1:=h1.up y0
 have h2:=h2.up y0
 have h3:=h3.up y0
 have h4:=h4.up y0
 have hx:=hx.plus y0
 obtain ⟨V,hV⟩:∃ V,plus w y0 = V:=⟨_,rfl⟩
 rw [hV] at h0 h1 h2 h3 h4 hx ⊢
 clear hV
 obtain ⟨R,hR⟩:∃ R,(((s0) && ((s1) && ((s2) && ((s3) && (s4)))))) = R:=⟨_,rfl⟩
 rw [hR]
 cases s0
 case false =>
  have hF:=Lib.hid (show (false) = R by first | exact hR | (rw [← hR];simp))
  clear hR
  clear h1 h2 h3 h4
  have h0:=Lib.hid h0
  go_enter Tryz.func86,Tryz.ntmps86
  go_wp2_with fail
  obtain ⟨W,yy,hW,⟨z,hz⟩,cb0,cb1⟩:=box2n V _ _ 145 29
  rw [hW]
  have c0_0:=cb0 0 _ rfl
  have c0_1:=cb0 1 _ rfl
  have c0_2:=cb0 2 _ rfl
  have c0_3:=cb0 3 _ rfl
  have c0_4:=cb0 4 _ rfl
  have c0_5:=cb0 5 _ rfl
  have c1_0:=cb1 0 _ rfl
  have c1_1:=cb1 1 _ rfl
  have c1_2:=cb1 2 _ rfl
  have c1_3:=cb1 3 _ rfl
  have c1_4:=cb1 4 _ rfl
  have c1_5:=cb1 5 _ rfl
  have c1_6:=cb1 6 _ rfl
  have c1_7:=cb1 7 _ rfl
  have c1_8:=cb1 8 _ rfl
  have q0c:=Lib.hid (kp_at hz h0.out)
  have d0:∀ y,(plus W y).cell? ⟨pa.block,pa.off + 9,none⟩ = some (.int .u8 b0):=fun y=>((cellsat_at hz hx).plus y).c0 _ rfl
  have d1:∀ y,(plus W y).cell? ⟨pa.block,pa.off + 9 + 1,none⟩ = some (.int .i64 b1):=fun y=>((cellsat_at hz hx).plus y).cs 0 _ rfl
  have d2:∀ y,(plus W y).cell? ⟨pa.block,pa.off + 9 + 2,none⟩ = some (.int .u64 b2):=fun y=>((cellsat_at hz hx).plus y).cs 1 _ rfl
  have d3:∀ y,(plus W y).cell? ⟨pa.block,pa.off + 9 + 3,none⟩ = some (.int .u64 b3):=fun y=>((cellsat_at hz hx).plus y).cs 2 _ rfl
  have d4:∀ y,(plus W y).cell? ⟨pa.block,pa.off + 9 + 4,none⟩ = some (.string b4):=fun y=>((cellsat_at hz hx).plus y).cs 3 _ rfl
  have d5:∀ y,(plus W y).cell? ⟨pa.block,pa.off + 9 + 5,none⟩ = some (.string b5):=fun y=>((cellsat_at hz hx).plus y).cs 4 _ rfl
  have d6:∀ y,(plus W y).cell? ⟨pa.block,pa.off + 9 + 6,none⟩ = some (.int .i64 b6):=fun y=>((cellsat_at hz hx).plus y).cs 5 _ rfl
  have d7:∀ y,(plus W y).cell? ⟨pa.block,pa.off + 9 + 7,none⟩ = some (.int .i64 b7):=fun y=>((cellsat_at hz hx).plus y).cs 6 _ rfl
  have d8:∀ y,(plus W y).cell? ⟨pa.block,pa.off + 9 + 8,none⟩ = some (.slice b8p b8n b8c):=fun y=>((cellsat_at hz hx).plus y).cs 7 _ rfl
  have hz':=Lib.hid hz
  clear hW hz cb0 cb1
  refine (q0c.out _).mono ?_
  rintro r w' ⟨rfl,x1,rfl⟩
  go_wp2_with fail
  go_ret
  exact ⟨rb hF.out,pp hz'.out⟩
 case true =>
  cases s1
  case false =>
   have hF:=Lib.hid (show (false) = R by first | exact hR | (rw [← hR];simp))
   clear hR
   clear h2 h3 h4
   have h0:=Lib.hid h0
   have h1:=Lib.hid h1
   go_enter Tryz.func86,Tryz.ntmps86
   go_wp2_with fail
   obtain ⟨W,yy,hW,⟨z,hz⟩,cb0,cb1⟩:=box2n V _ _ 145 29
   rw [hW]
   have c0_0:=cb0 0 _ rfl
   have c0_1:=cb0 1 _ rfl
   have c0_2:=cb0 2 _ rfl
   have c0_3:=cb0 3 _ rfl
   have c0_4:=cb0 4 _ rfl
   have c0_5:=cb0 5 _ rfl
   have c1_0:=cb1 0 _ rfl
   have c1_1:=cb1 1 _ rfl
   have c1_2:=cb1 2 _ rfl
   have c1_3:=cb1 3 _ rfl
   have c1_4:=cb1 4 _ rfl
   have c1_5:=cb1 5 _ rfl
   have c1_6:=cb1 6 _ rfl
   have c1_7:=cb1 7 _ rfl
   have c1_8:=cb1 8 _ rfl
   have q0c:=Lib.hid (kp_at hz h0.out)
   have q1c:=Lib.hid (kp_at hz h1.out)
   have d0:∀ y,(plus W y).cell? ⟨pa.block,pa.off + 9,none⟩ = some (.int .u8 b0):=fun y=>((cellsat_at hz hx).plus y).c0 _ rfl
   have d1:∀ y,(plus W y).cell? ⟨pa.block,pa.off + 9 + 1,none⟩ = some (.int .i64 b1):=fun y=>((cellsat_at hz hx).plus y).cs 0 _ rfl
   have d2:∀ y,(plus W y).cell? ⟨pa.block,pa.off + 9 + 2,none⟩ = some (.int .u64 b2):=fun y=>((cellsat_at hz hx).plus y).cs 1 _ rfl
   have d3:∀ y,(plus W y).cell? ⟨pa.block,pa.off + 9 + 3,none⟩ = some (.int .u64 b3):=fun y=>((cellsat_at hz hx).plus y).cs 2 _ rfl
   have d4:∀ y,(plus W y).cell? ⟨pa.block,pa.off + 9 + 4,none⟩ = some (.string b4):=fun y=>((cellsat_at hz hx).plus y).cs 3 _ rfl
   have d5:∀ y,(plus W y).cell? ⟨pa.block,pa.off + 9 + 5,none⟩ = some (.string b5):=fun y=>((cellsat_at hz hx).plus y).cs 4 _ rfl
   have d6:∀ y,(plus W y).cell? ⟨pa.block,pa.off + 9 + 6,none⟩ = some (.int .i64 b6):=fun y=>((cellsat_at hz hx).plus y).cs 5 _ rfl
   have d7:∀ y,(plus W y).cell? ⟨pa.block,pa.off + 9 + 7,none⟩ = some (.int .i64 b7):=fun y=>((cellsat_at hz hx).plus y).cs 6 _ rfl
   have d8:∀ y,(plus W y).cell? ⟨pa.block,pa.off + 9 + 8,none⟩ = some (.slice b8p b8n b8c):=fun y=>((cellsat_at hz hx).plus y).cs 7 _ rfl
   have hz':=Lib.hid hz
   clear hW hz cb0 cb1
   refine (q0c.out _).mono ?_
   rintro r w' ⟨rfl,x1,rfl⟩
   go_wp2_with (first | (go_at_call 135;with_reducible refine (q1c.out _).mono ?_;rintro r w' ⟨rfl,x,rfl⟩))
   go_ret
   exact ⟨rb hF.out,pp hz'.out⟩
  case true =>
   cases s2
   case false =>
    have hF:=Lib.hid (show (false) = R by first | exact hR | (rw [← hR];simp))
    clear hR
    clear h3 h4
    have h0:=Lib.hid h0
    have h1:=Lib.hid h1
    have h2:=Lib.hid h2
    go_enter Tryz.func86,Tryz.ntmps86
    go_wp2_with fail
    obtain ⟨W,yy,hW,⟨z,hz⟩,cb0,cb1⟩:=box2n V _ _ 145 29
    rw [hW]
    have c0_0:=cb0 0 _ rfl
    have c0_1:=cb0 1 _ rfl
    have c0_2:=cb0 2 _ rfl
    have c0_3:=cb0 3 _ rfl
    have c0_4:=cb0 4 _ rfl
    have c0_5:=cb0 5 _ rfl
    have c1_0:=cb1 0 _ rfl
    have c1_1:=cb1 1 _ rfl
    have c1_2:=cb1 2 _ rfl
    have c1_3:=cb1 3 _ rfl
    have c1_4:=cb1 4 _ rfl
    have c1_5:=cb1 5 _ rfl
    have c1_6:=cb1 6 _ rfl
    have c1_7:=cb1 7 _ rfl
    have c1_8:=cb1 8 _ rfl
    have q0c:=Lib.hid (kp_at hz h0.out)
    have q1c:=Lib.hid (kp_at hz h1.out)
    have q2c:=Lib.hid (kp_at hz h2.out)
    have d0:∀ y,(plus W y).cell? ⟨pa.block,pa.off + 9,none⟩ = some (.int .u8 b0):=fun y=>((cellsat_at hz hx).plus y).c0 _ rfl
    have d1:∀ y,(plus W y).cell? ⟨pa.block,pa.off + 9 + 1,none⟩ = some (.int .i64 b1):=fun y=>((cellsat_at hz hx).plus y).cs 0 _ rfl
    have d2:∀ y,(plus W y).cell? ⟨pa.block,pa.off + 9 + 2,none⟩ = some (.int .u64 b2):=fun y=>((cellsat_at hz hx).plus y).cs 1 _ rfl
    have d3:∀ y,(plus W y).cell? ⟨pa.block,pa.off + 9 + 3,none⟩ = some (.int .u64 b3):=fun y=>((cellsat_at hz hx).plus y).cs 2 _ rfl
    have d4:∀ y,(plus W y).cell? ⟨pa.block,pa.off + 9 + 4,none⟩ = some (.string b4):=fun y=>((cellsat_at hz hx).plus y).cs 3 _ rfl
    have d5:∀ y,(plus W y).cell? ⟨pa.block,pa.off + 9 + 5,none⟩ = some (.string b5):=fun y=>((cellsat_at hz hx).plus y).cs 4 _ rfl
    have d6:∀ y,(plus W y).cell? ⟨pa.block,pa.off + 9 + 6,none⟩ = some (.int .i64 b6):=fun y=>((cellsat_at hz hx).plus y).cs 5 _ rfl
    have d7:∀ y,(plus W y).cell? ⟨pa.block,pa.off + 9 + 7,none⟩ = some (.int .i64 b7):=fun y=>((cellsat_at hz hx).plus y).cs 6 _ rfl
    have d8:∀ y,(plus W y).cell? ⟨pa.block,pa.off + 9 + 8,none⟩ = some (.slice b8p b8n b8c):=fun y=>((cellsat_at hz hx).plus y).cs 7 _ rfl
    have hz':=Lib.hid hz
    clear hW hz cb0 cb1
    refine (q0c.out _).mono ?_
    rintro r w' ⟨rfl,x1,rfl⟩
    go_wp2_with (first | (go_at_call 135;with_reducible refine (q1c.out _).mono ?_;rintro r w' ⟨rfl,x,rfl⟩) | (go_at_call 135;with_reducible refine (q2c.out _).mono ?_;rintro r w' ⟨rfl,x,rfl⟩))
    go_ret
    exact ⟨rb hF.out,pp hz'.out⟩
   case true =>
    cases s3
    case false =>
     have hF:=Lib.hid (show (false) = R by first | exact hR | (rw [← hR];simp))
     clear hR
     clear h4
     have h0:=Lib.hid h0
     have h1:=Lib.hid h1
     have h2:=Lib.hid h2
     have h3:=Lib.hid h3
     go_enter Tryz.func86,Tryz.ntmps86
     go_wp2_with fail
     obtain ⟨W,yy,hW,⟨z,hz⟩,cb0,cb1⟩:=box2n V _ _ 145 29
     rw [hW]
     have c0_0:=cb0 0 _ rfl
     have c0_1:=cb0 1 _ rfl
     have c0_2:=cb0 2 _ rfl
     have c0_3:=cb0 3 _ rfl
     have c0_4:=cb0 4 _ rfl
     have c0_5:=cb0 5 _ rfl
     have c1_0:=cb1 0 _ rfl
     have c1_1:=cb1 1 _ rfl
     have c1_2:=cb1 2 _ rfl
     have c1_3:=cb1 3 _ rfl
     have c1_4:=cb1 4 _ rfl
     have c1_5:=cb1 5 _ rfl
     have c1_6:=cb1 6 _ rfl
     have c1_7:=cb1 7 _ rfl
     have c1_8:=cb1 8 _ rfl
     have q0c:=Lib.hid (kp_at hz h0.out)
     have q1c:=Lib.hid (kp_at hz h1.out)
     have q2c:=Lib.hid (kp_at hz h2.out)
     have q3c:=Lib.hid (kp_at hz h3.out)
     have d0:∀ y,(plus W y).cell? ⟨pa.block,pa.off + 9,none⟩ = some (.int .u8 b0):=fun y=>((cellsat_at hz hx).plus y).c0 _ rfl
     have d1:∀ y,(plus W y).cell? ⟨pa.block,pa.off + 9 + 1,none⟩ = some (.int .i64 b1):=fun y=>((cellsat_at hz hx).plus y).cs 0 _ rfl
     have d2:∀ y,(plus W y).cell? ⟨pa.block,pa.off + 9 + 2,none⟩ = some (.int .u64 b2):=fun y=>((cellsat_at hz hx).plus y).cs 1 _ rfl
     have d3:∀ y,(plus W y).cell? ⟨pa.block,pa.off + 9 + 3,none⟩ = some (.int .u64 b3):=fun y=>((cellsat_at hz hx).plus y).cs 2 _ rfl
     have d4:∀ y,(plus W y).cell? ⟨pa.block,pa.off + 9 + 4,none⟩ = some (.string b4):=fun y=>((cellsat_at hz hx).plus y).cs 3 _ rfl
     have d5:∀ y,(plus W y).cell? ⟨pa.block,pa.off + 9 + 5,none⟩ = some (.string b5):=fun y=>((cellsat_at hz hx).plus y).cs 4 _ rfl
     have d6:∀ y,(plus W y).cell? ⟨pa.block,pa.off + 9 + 6,none⟩ = some (.int .i64 b6):=fun y=>((cellsat_at hz hx).plus y).cs 5 _ rfl
     have d7:∀ y,(plus W y).cell? ⟨pa.block,pa.off + 9 + 7,none⟩ = some (.int .i64 b7):=fun y=>((cellsat_at hz hx).plus y).cs 6 _ rfl
     have d8:∀ y,(plus W y).cell? ⟨pa.block,pa.off + 9 + 8,none⟩ = some (.slice b8p b8n b8c):=fun y=>((cellsat_at hz hx).plus y).cs 7 _ rfl
     have hz':=Lib.hid hz
     clear hW hz cb0 cb1
     refine (q0c.out _).mono ?_
     rintro r w' ⟨rfl,x1,rfl⟩
     go_wp2_with (first | (go_at_call 135;with_reducible refine (q1c.out _).mono ?_;rintro r w' ⟨rfl,x,rfl⟩) | (go_at_call 135;with_reducible refine (q2c.out _).mono ?_;rintro r w' ⟨rfl,x,rfl⟩) | (go_at_call 136;with_reducible refine (q3c.out _).mono ?_;rintro r w' ⟨rfl,x,rfl⟩))
     go_ret
     exact ⟨rb hF.out,pp hz'.out⟩
    case true =>
     cases s4
     case false =>
      have hF:=Lib.hid (show (false) = R by first | exact hR | (rw [← hR];simp))
      clear hR
      have h0:=Lib.hid h0
      have h1:=Lib.hid h1
      have h2:=Lib.hid h2
      have h3:=Lib.hid h3
      have h4:=Lib.hid h4
      go_enter Tryz.func86,Tryz.ntmps86
      go_wp2_with fail
      obtain ⟨W,yy,hW,⟨z,hz⟩,cb0,cb1⟩:=box2n V _ _ 145 29
      rw [hW]
      have c0_0:=cb0 0 _ rfl
      have c0_1:=cb0 1 _ rfl
      have c0_2:=cb0 2 _ rfl
      have c0_3:=cb0 3 _ rfl
      have c0_4:=cb0 4 _ rfl
      have c0_5:=cb0 5 _ rfl
      have c1_0:=cb1 0 _ rfl
      have c1_1:=cb1 1 _ rfl
      have c1_2:=cb1 2 _ rfl
      have c1_3:=cb1 3 _ rfl
      have c1_4:=cb1 4 _ rfl
      have c1_5:=cb1 5 _ rfl
      have c1_6:=cb1 6 _ rfl
      have c1_7:=cb1 7 _ rfl
      have c1_8:=cb1 8 _ rfl
      have q0c:=Lib.hid (kp_at hz h0.out)
      have q1c:=Lib.hid (kp_at hz h1.out)
      have q2c:=Lib.hid (kp_at hz h2.out)
      have q3c:=Lib.hid (kp_at hz h3.out)
      have q4c:=Lib.hid (kp_at hz h4.out)
      have d0:∀ y,(plus W y).cell? ⟨pa.block,pa.off + 9,none⟩ = some (.int .u8 b0):=fun y=>((cellsat_at hz hx).plus y).c0 _ rfl
      have d1:∀ y,(plus W y).cell? ⟨pa.block,pa.off + 9 + 1,none⟩ = some (.int .i64 b1):=fun y=>((cellsat_at hz hx).plus y).cs 0 _ rfl
      have d2:∀ y,(plus W y).cell? ⟨pa.block,pa.off + 9 + 2,none⟩ = some (.int .u64 b2):=fun y=>((cellsat_at hz hx).plus y).cs 1 _ rfl
      have d3:∀ y,(plus W y).cell? ⟨pa.block,pa.off + 9 + 3,none⟩ = some (.int .u64 b3):=fun y=>((cellsat_at hz hx).plus y).cs 2 _ rfl
      have d4:∀ y,(plus W y).cell? ⟨pa.block,pa.off + 9 + 4,none⟩ = some (.string b4):=fun y=>((cellsat_at hz hx).plus y).cs 3 _ rfl
      have d5:∀ y,(plus W y).cell? ⟨pa.block,pa.off + 9 + 5,none⟩ = some (.string b5):=fun y=>((cellsat_at hz hx).plus y).cs 4 _ rfl
      have d6:∀ y,(plus W y).cell? ⟨pa.block,pa.off + 9 + 6,none⟩ = some (.int .i64 b6):=fun y=>((cellsat_at hz hx).plus y).cs 5 _ rfl
      have d7:∀ y,(plus W y).cell? ⟨pa.block,pa.off + 9 + 7,none⟩ = some (.int .i64 b7):=fun y=>((cellsat_at hz hx).plus y).cs 6 _ rfl
      have d8:∀ y,(plus W y).cell? ⟨pa.block,pa.off + 9 + 8,none⟩ = some (.slice b8p b8n b8c):=fun y=>((cellsat_at hz hx).plus y).cs 7 _ rfl
      have hz':=Lib.hid hz
      clear hW hz cb0 cb1
      refine (q0c.out _).mono ?_
      rintro r w' ⟨rfl,x1,rfl⟩
      go_wp2_with (first | (go_at_call 135;with_reducible refine (q1c.out _).mono ?_;rintro r w' ⟨rfl,x,rfl⟩) | (go_at_call 135;with_reducible refine (q2c.out _).mono ?_;rintro r w' ⟨rfl,x,rfl⟩) | (go_at_call 136;with_reducible refine (q3c.out _).mono ?_;rintro r w' ⟨rfl,x,rfl⟩) | (go_at_call 137;with_reducible refine (q4c.out _).mono ?_;rintro r w' ⟨rfl,x,rfl⟩))
      go_ret
      exact ⟨rb hF.out,pp hz'.out⟩
     case true =>
      have hF:=Lib.hid (show (true) = R by first | exact hR | (rw [← hR];simp))
      clear hR
      have h0:=Lib.hid h0
      have h1:=Lib.hid h1
      have h2:=Lib.hid h2
      have h3:=Lib.hid h3
      have h4:=Lib.hid h4
      go_enter Tryz.func86,Tryz.ntmps86
      go_wp2_with fail
      obtain ⟨W,yy,hW,⟨z,hz⟩,cb0,cb1⟩:=box2n V _ _ 145 29
      rw [hW]
      have c0_0:=cb0 0 _ rfl
      have c0_1:=cb0 1 _ rfl
      have c0_2:=cb0 2 _ rfl
      have c0_3:=cb0 3 _ rfl
      have c0_4:=cb0 4 _ rfl
      have c0_5:=cb0 5 _ rfl
      have c1_0:=cb1 0 _ rfl
      have c1_1:=cb1 1 _ rfl
      have c1_2:=cb1 2 _ rfl
      have c1_3:=cb1 3 _ rfl
      have c1_4:=cb1 4 _ rfl
      have c1_5:=cb1 5 _ rfl
      have c1_6:=cb1 6 _ rfl
      have c1_7:=cb1 7 _ rfl
      have c1_8:=cb1 8 _ rfl
      have q0c:=Lib.hid (kp_at hz h0.out)
      have q1c:=Lib.hid (kp_at hz h1.out)
      have q2c:=Lib.hid (kp_at hz h2.out)
      have q3c:=Lib.hid (kp_at hz h3.out)
      have q4c:=Lib.hid (kp_at hz h4.out)
      have d0:∀ y,(plus W y).cell? ⟨pa.block,pa.off + 9,none⟩ = some (.int .u8 b0):=fun y=>((cellsat_at hz hx).plus y).c0 _ rfl
      have d1:∀ y,(plus W y).cell? ⟨pa.block,pa.off + 9 + 1,none⟩ = some (.int .i64 b1):=fun y=>((cellsat_at hz hx).plus y).cs 0 _ rfl
      have d2:∀ y,(plus W y).cell? ⟨pa.block,pa.off + 9 + 2,none⟩ = some (.int .u64 b2):=fun y=>((cellsat_at hz hx).plus y).cs 1 _ rfl
      have d3:∀ y,(plus W y).cell? ⟨pa.block,pa.off + 9 + 3,none⟩ = some (.int .u64 b3):=fun y=>((cellsat_at hz hx).plus y).cs 2 _ rfl
      have d4:∀ y,(plus W y).cell? ⟨pa.block,pa.off + 9 + 4,none⟩ = some (.string b4):=fun y=>((cellsat_at hz hx).plus y).cs 3 _ rfl
      have d5:∀ y,(plus W y).cell? ⟨pa.block,pa.off + 9 + 5,none⟩ = some (.string b5):=fun y=>((cellsat_at hz hx).plus y).cs 4 _ rfl
      have d6:∀ y,(plus W y).cell? ⟨pa.block,pa.off + 9 + 6,none⟩ = some (.int .i64 b6):=fun y=>((cellsat_at hz hx).plus y).cs 5 _ rfl
      have d7:∀ y,(plus W y).cell? ⟨pa.block,pa.off + 9 + 7,none⟩ = some (.int .i64 b7):=fun y=>((cellsat_at hz hx).plus y).cs 6 _ rfl
      have d8:∀ y,(plus W y).cell? ⟨pa.block,pa.off + 9 + 8,none⟩ = some (.slice b8p b8n b8c):=fun y=>((cellsat_at hz hx).plus y).cs 7 _ rfl
      have hz':=Lib.hid hz
      clear hW hz cb0 cb1
      refine (q0c.out _).mono ?_
      rintro r w' ⟨rfl,x1,rfl⟩
      go_wp2_with (first | (go_at_call 135;with_reducible refine (q1c.out _).mono ?_;rintro r w' ⟨rfl,x,rfl⟩) | (go_at_call 135;with_reducible refine (q2c.out _).mono ?_;rintro r w' ⟨rfl,x,rfl⟩) | (go_at_call 136;with_reducible refine (q3c.out _).mono ?_;rintro r w' ⟨rfl,x,rfl⟩) | (go_at_call 137;with_reducible refine (q4c.out _).mono ?_;rintro r w' ⟨rfl,x,rfl⟩))
      go_ret
      exact ⟨rb hF.out,pp hz'.out⟩
theorem Kp.all {P:Program} {w:World} {f:FuncId} {args:Array Value} {v:Value} (h:Pure P f args v):Kp P w f args v:=fun _=>h _
def Lt.n (t:Lt):Nat:=t.h.toNat * 18446744073709551616 + t.l.toNat
theorem wf_u64 {h:Int} (k:(Lit.int .u64 h).wf = true):0 ≤ h ∧ h < 18446744073709551616:=by
 simp [Lit.wf,IntKind.min,IntKind.max,IntKind.signed,IntKind.bits] at k
 omega
theorem Lt.nv_eq {t:Lt} (h:t.Ok):Value.agg #[.int .u64 t.h,.int .u64 t.l] = nv t.n:=by
 have h1:=wf_u64 h.h
 have h2:=wf_u64 h.l
 have e1:hi t.n = t.h:=by unfold hi Lt.n;omega
 have e2:lo t.n = t.l:=by unfold lo Lt.n;omega
 unfold nv
 rw [e1,e2]
theorem Lt.n_lt {t:Lt} (h:t.Ok):t.n < B128:=by
 have h1:=wf_u64 h.h
 have h2:=wf_u64 h.l
 unfold Lt.n B128
 omega
def ltB (t:Lt):Bool:=(t.w == 0) || (widthB t.w && decide (t.n % 2 ^ hw t.w = t.n))
def litB (is:Bool) (t:Lt):Bool:=if is then ltB t else ((t.w == 0) && ((t.h == 0) && (t.l == 0)))
def nmB (s:ByteArray) (p:Int):Bool:=if s.toList == [] then p != 1 else ((p != 0) && nameB s)
def endB (a b:Int) (is:Bool):Bool:=if is then (decide (0 ≤ b) && (decide (b ≤ a) && decide (a < 128))) else ((a == 0) && (b == 0))
def amtB (e:Ex):Bool:=(e.op == 1) && ((e.lit.w == 0) && decide (cmpN e.lit.n 127 ≤ 0))
def tgtB (s:ByteArray):Bool:=(s.toList == [97,99,99,101,112,116]) || ((s.toList == [114,101,106,101,99,116]) || nameB s)
def amt2:List Ex → Bool
 | [_,b]=>amtB b
 | _=>false
def Ex.fits (e:Ex):Bool:=litB (xLit e.op) e.lit && (nmB e.head (xHead e.op) && (nmB e.name (xName e.op) && (endB e.hi e.lo (xSlice e.op) && (((e.args.length:Int) == xArgs e.op) && (!(xShift e.op) || amt2 e.args)))))
/-- May it be, with so much room? -/
def Ex.may:Nat → Ex → Bool
 | 0,_=>false
 | n + 1,e=>xIs e.op && (e.fits && eachB (xArgs e.op) (xArgs e.op) (Ex.may n) e.args)
def fdB (f:Fd):Bool:=nameB f.name && widthB f.w
def hrB (h:Hr):Bool:=nameB h.name && eachB 1 16 fdB h.fields.l
theorem name_in (s:ByteArray) (w:World) (hs:s.size ≤ 1048576):Kp Tryz.prog w 61 #[.string s] (.bool (nameB s)):=Kp.all (tok_name s (by omega))
theorem lit_in (t:Lt) (w:World) (h:t.Ok):Kp Tryz.prog w 101 #[.agg t.cells.toArray] (.bool (ltB t)) :=
 lit_of t.w t.h t.l _ _ w (ast_width t.w w) (Kp.all (by rw [Lt.nv_eq h];exact num_fits t.n t.w (Lt.n_lt h)))
theorem litfits_in (t:Lt) (is:Bool) (w:World) (h:t.Ok):Kp Tryz.prog w 134 #[.agg t.cells.toArray,.bool is] (.bool (litB is t)):=litfits_of t.w t.h t.l is _ w (lit_in t w h)
theorem namefits_in (s:ByteArray) (p:Int) (w:World) (hs:s.size ≤ 1048576):Kp Tryz.prog w 135 #[.string s,.int .u8 p] (.bool (nmB s p)):=namefits_of s p _ w (name_in s w hs)
theorem target_in (s:ByteArray) (w:World) (hs:s.size ≤ 1048576):Kp Tryz.prog w 142 #[.string s] (.bool (tgtB s)):=target_of s _ w (name_in s w hs)
theorem field_in (f:Fd) (w:World) (h:f.sz ≤ 1048576):Kp Tryz.prog w 52 #[.agg f.cells.toArray] (.bool (fdB f)):=field_of f.name f.w _ _ w (name_in f.name w (by unfold Fd.sz at h;omega)) (ast_width f.w w)
theorem amount_in (e:Ex) (w:World) (h:e.In w):Kp Tryz.prog w 137 #[.agg e.cells.toArray] (.bool (amtB e)):=by
 obtain ⟨_,_,lit,_⟩:=h
 exact amount_of e.op e.lit.w e.lit.h e.lit.l e.head e.name e.hi e.lo e.p e.args.length e.cap _ w (Kp.all (num_of 127 (by decide))) (Kp.all (by rw [Lt.nv_eq lit];exact num_cmp e.lit.n 127))
theorem fits_in (e:Ex) (w:World) (h:e.In w) (hz:e.wt ≤ 1048576):Kp Tryz.prog w 86 #[xVal e.op,.agg e.cells.toArray] (.bool e.fits):=by
 have h':=h
 obtain ⟨_,_,lit,_,_,hd,nm,len,cap,row,kids⟩:=h'
 have hz':=Ex.wt_eq e
 have k0:=litfits_in e.lit (xLit e.op) w lit
 have k1:=namefits_in e.head (xHead e.op) w (by omega)
 have k2:=namefits_in e.name (xName e.op) w (by omega)
 have k3:Kp Tryz.prog w 136 #[.int .i64 e.hi,.int .i64 e.lo,.bool (xSlice e.op)] (.bool (endB e.hi e.lo (xSlice e.op))):=slicefits_of e.hi e.lo (xSlice e.op) w
 unfold xVal Ex.fits
 cases hS:xShift e.op with
 | false =>
  refine (fits_a _ _ _ _ _ e.op e.lit.w e.lit.h e.lit.l e.head e.name e.hi e.lo e.p e.args.length e.cap _ _ _ _ w k0 k1 k2 k3).eqv ?_
  simp
 | true =>
  have h2:xArgs e.op = 2:=by
   unfold xShift at hS
   rw [Bool.or_eq_true,beq_iff_eq,beq_iff_eq] at hS
   unfold xArgs
   rw [if_neg (by omega),if_pos (by omega)]
  rw [h2]
  by_cases hn:e.args.length = 2
  ·obtain ⟨a,b,hab⟩:∃ a b,e.args = [a,b]:=by
    match e.args,hn with
    | [a,b],_=>exact ⟨a,b,rfl⟩
   obtain ⟨pa,hp,hc⟩:=row 1 b (by rw [hab];rfl)
   have hb:b.In w:=kids b (by rw [hab];simp)
   have k4:=amount_in b w hb
   have hcells:e.cells = [.int .u8 e.op,.int .i64 e.lit.w,.int .u64 e.lit.h,.int .u64 e.lit.l,.string e.head,.string e.name,.int .i64 e.hi,.int .i64 e.lo,.slice (some pa) 2 e.cap]:=by unfold Ex.cells;rw [hp,hn]
   rw [hcells]
   refine (fits_c _ _ _ _ e.op e.lit.w e.lit.h e.lit.l e.head e.name e.hi e.lo pa e.cap b.op b.lit.w b.lit.h b.lit.l b.head b.name b.hi b.lo b.p b.args.length b.cap _ _ _ _ _ w hc k0 k1 k2 k3 k4).eqv ?_
   rw [hab]
   simp [amt2]
  ·refine (fits_b _ _ _ _ e.op e.lit.w e.lit.h e.lit.l e.head e.name e.hi e.lo e.p e.args.length e.cap _ _ _ _ w hn k0 k1 k2 k3).eqv ?_
   have:((e.args.length:Int) == 2) = false:=by
    first | (simp;done) | (simp;omega)
   rw [this]
   simp
end Go.Proofs.YtbelaghcmgefaaaGreatDoor
