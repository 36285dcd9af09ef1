/-
  WHAT IS PROVED HERE: a part of the proof (made narrower and merged by program; the parts: Hb UU Ha).
-/
import Derived.LoopN
import Derived.MapKept
import Derived.Lib.IndexBytes
import Derived.Lib.Strings
import Derived.Test.YtobhijbncchpiaaGreatM3
import Derived.Test.YtobhijbncchpiaaGreatM1
namespace Go.Proofs.YtobhijbncchpiaaGreat
open Go.RowKit
/-- Block r is a map with these entries. -/
def MapAt (w:World) (r:Nat) (es:Array MapEntry):Prop:=∃ n,w.heap[r]?=some (.map es n)
theorem MapAt.lt {w:World} {r:Nat} {es:Array MapEntry} (h:MapAt w r es):r < w.heap.size:=by
 obtain⟨n,h⟩:=h
 exact (Array.getElem?_eq_some_iff.1 h).1
theorem MapAt.plus {w:World} {r:Nat} {es:Array MapEntry} (h:MapAt w r es) (x:Ext):MapAt (plus w x) r es:=by
 have hl:=h.lt
 obtain⟨n,h⟩:=h
 exact⟨n,by simp [Go.Proofs.YtobhijbncchpiaaGreat.plus,Array.getElem?_append,hl];exact (Array.getElem?_eq_some_iff.1 h).2⟩
theorem MapAt.alloc {w:World} {r:Nat} {es:Array MapEntry} (h:MapAt w r es) (a:Obj):MapAt (w.alloc a) r es:=by
 obtain⟨x,hx⟩:=alloc1_plus w a
 rw [hx];exact h.plus x
/-- What stands at a key, and whether one does. -/
def getIn (z:Value) (i:Int):List MapEntry→Value × Bool
 | []=>(z,false)
 | e :: l=>match e.key with
  | .int .u8 b=>if i == b then (e.val,true) else getIn z i l
  | _=>(z,false)
def u8Keys (l:List MapEntry):Prop:=∀ e ∈ l,∃ b,e.key=.int .u8 b
theorem find_get (z:Value) (i:Int):∀ (l:List MapEntry) (j:Nat),u8Keys l→∃ r,Instr.findNow (.int .u8) (.int .u8 i) l j=some r∧((∃ a v,r=some (a,v)∧getIn z i l=(v,true))∨(r=none∧getIn z i l=(z,false)))
 | [],j,_=>⟨none,rfl,.inr ⟨rfl,rfl⟩⟩
 | e :: l,j,h=>by
  obtain⟨b,hb⟩:=h e (List.mem_cons_self)
  cases hib:(i == b) with
  | true=>exact⟨some (j,e.val),by simp [Instr.findNow,Instr.sameNow,hb,hib],.inl ⟨_,_,rfl,by simp [getIn,hb,hib]⟩⟩
  | false =>
   obtain⟨r,h1,h2⟩:=find_get z i l (j+1) (fun e he=>h e (List.mem_cons_of_mem _ he))
   refine⟨r,by simpa [Instr.findNow,Instr.sameNow,hb,hib] using h1,?_⟩
   simpa [getIn,hb,hib] using h2
theorem look_u8 {P:Program} {w:World} {mt kt et:TypeId} {r:Nat} {es:Array MapEntry} {z:Value} (hm:P.underlying mt=some (.map kt et)) (hk:P.underlying kt=some (.int .u8)) (hz:(zeroValue et).run P w=.ok z w) (h:MapAt w r es) (hu:u8Keys es.toList) (i:Int) :
  (Instr.lookup mt (.map (some r)) (.int .u8 i) true).run P w=.ok (.tuple #[(getIn z i es.toList).1,.bool (getIn z i es.toList).2]) w:=by
 obtain⟨n,hb⟩:=h
 obtain⟨q,h1,h2⟩:=find_get z i es.toList 0 hu
 have hc:(Instr.checkKey es.isEmpty 10000 kt (.int .u8 i)).run P w=.ok () w:=MapKept.run_checkKey (k:=.int .u8 i) hk (by simp [MapKept.IsKey]) _ 9999
 rcases h2 with ⟨a,v,rfl,hg⟩ | ⟨rfl,hg⟩
 ·simp [Instr.lookup,run_underlying hm,MapKept.run_getObj_map hb,hc,MapKept.run_findKey hk h1,Result.andThen,hg]
 ·simp [Instr.lookup,run_underlying hm,MapKept.run_getObj_map hb,hc,MapKept.run_findKey hk h1,Result.andThen,hg,hz]
theorem push_set {α:Type} (a:Array α) (x y:α):(a.push x).setIfInBounds a.size y=a.push y:=by
 apply Array.ext_getElem?
 intro i
 rw [Array.getElem?_setIfInBounds,Array.getElem?_push,Array.getElem?_push]
 by_cases h:a.size=i
 ·subst h;simp
 ·rw [if_neg h,if_neg (fun e=>h e.symm),if_neg (fun e=>h e.symm)]
theorem upd_u8 {P:Program} {mt kt et:TypeId} (hm:P.underlying mt=some (.map kt et)) (hk:P.underlying kt=some (.int .u8)) (V:World) (es:Array MapEntry) (n:Nat) (k:Int) (v:Value) (hn:Instr.findNow (.int .u8) (.int .u8 k) es.toList 0=some none) :
  (Instr.mapUpdate mt (.map (some V.heap.size)) (.int .u8 k) v).run P (V.alloc (.map es n))=.ok () (V.alloc (.map (es.push ⟨.int .u8 k,v,n⟩) (n+1))):=by
 have hb:(V.alloc (.map es n)).heap[V.heap.size]?=some (.map es n):=by
  show (V.heap.push _)[V.heap.size]?=_
  simp
 have hc:(Instr.checkKey false 10000 kt (.int .u8 k)).run P (V.alloc (.map es n))=.ok () (V.alloc (.map es n)):=MapKept.run_checkKey (k:=.int .u8 k) hk (by simp [MapKept.IsKey]) false 9999
 simp only [Instr.mapUpdate,Sem.run_bind,run_underlying hm,hc,MapKept.run_getObj_map hb,MapKept.run_findKey hk hn,MapKept.run_setObj_map _ hb,Result.andThen]
 refine congrArg (Result.ok ()) ?_
 show ({ V with heap:=(V.heap.push _).setIfInBounds V.heap.size _ }:World)={ V with heap:=V.heap.push _ }
 congr 1
 exact push_set _ _ _
/-- The forms of an expression: has it a number, ends; head, name: 0 none, 1 one, 2 maybe one; how many Args; is the second one an amount? -/
def xLit (op:Int):Bool:=op == 1
def xSlice (op:Int):Bool:=op == 10
def xHead (op:Int):Int:=if op=2∨op=6 then 1 else 0
def xName (op:Int):Int:=if op=2∨op=3∨op=4 then 1 else 0
def xArgs (op:Int):Int:=if 7≤op∧op≤10 then 1 else if 11≤op∧op≤26 then 2 else 0
def xShift (op:Int):Bool:=op == 14 || op == 15
def xIs (op:Int):Bool:=decide (1≤op∧op≤26)
def xVal (op:Int):Value:=.agg #[.bool (xLit op),.bool (xSlice op),.int .u8 (xHead op),.int .u8 (xName op),.int .i64 (xArgs op),.bool (xShift op)]
def esX (n:Nat):Array MapEntry:=((List.range n).map fun (i:Nat)=>(⟨.int .u8 ((i:Int)+1),xVal ((i:Int)+1),i⟩:MapEntry)).toArray
def wX (V:World) (n:Nat):World:=V.alloc (.map (esX n) n)
/-- Of a set: has it a value, a mask? -/
def sV (k:Int):Bool:=k == 2 || k == 3
def sM (k:Int):Bool:=k == 3
def sIs (k:Int):Bool:=decide (1≤k∧k≤3)
def sVal (k:Int):Value:=.agg #[.bool (sV k),.bool (sM k)]
def esS (n:Nat):Array MapEntry:=((List.range n).map fun (i:Nat)=>(⟨.int .u8 ((i:Int)+1),sVal ((i:Int)+1),i⟩:MapEntry)).toArray
def wS (V:World) (n:Nat):World:=V.alloc (.map (esS n) n)
/-- Of a statement: head, name, an expression, blocks? -/
def tHead (k:Int):Int:=if k=1 then 2 else if k=6∨k=7 then 1 else 0
def tName (k:Int):Int:=if k=1∨k=3 then 1 else 0
def tExpr (k:Int):Bool:=k == 1 || k == 2 || k == 5
def tBlocks (k:Int):Bool:=k == 2
def tIs (k:Int):Bool:=decide (1≤k∧k≤7)
def tVal (k:Int):Value:=.agg #[.int .u8 (tHead k),.int .u8 (tName k),.bool (tExpr k),.bool (tBlocks k)]
def esT (n:Nat):Array MapEntry:=((List.range n).map fun (i:Nat)=>(⟨.int .u8 ((i:Int)+1),tVal ((i:Int)+1),i⟩:MapEntry)).toArray
def wT (V:World) (n:Nat):World:=V.alloc (.map (esT n) n)
theorem upd_X (V:World) (n:Nat) (hn:Instr.findNow (.int .u8) (.int .u8 ((n:Int)+1)) (esX n).toList 0=some none) :
  (Instr.mapUpdate 113 (.map (some V.heap.size)) (.int .u8 ((n:Int)+1)) (xVal ((n:Int)+1))).run Tryz.prog (wX V n)=.ok () (wX V (n+1)):=by
 unfold wX
 rw [upd_u8 Tryz.underlying113 Tryz.underlying5 V _ n _ _ hn]
 simp [esX,List.range_succ]
set_option maxRecDepth 100000 in
set_option maxHeartbeats 8000000 in
theorem forms_X (V:World):Calls Tryz.prog 123 #[] V fun e w'=>e=.returned (.map (some V.heap.size))∧w'=wX V 26:=by
 have u0:(Instr.makeMap 113 none).run Tryz.prog V=.ok (.map (some V.heap.size)) (wX V 0):=rfl
 have v0:(Instr.mapUpdate 113 (.map (some V.heap.size)) (.int .u8 1) (.agg #[.bool true,.bool false,.int .u8 0,.int .u8 0,.int .i64 0,.bool false])).run Tryz.prog (wX V 0)=.ok () (wX V 1):=upd_X V 0 rfl
 have v1:(Instr.mapUpdate 113 (.map (some V.heap.size)) (.int .u8 2) (.agg #[.bool false,.bool false,.int .u8 1,.int .u8 1,.int .i64 0,.bool false])).run Tryz.prog (wX V 1)=.ok () (wX V 2):=upd_X V 1 rfl
 have v2:(Instr.mapUpdate 113 (.map (some V.heap.size)) (.int .u8 3) (.agg #[.bool false,.bool false,.int .u8 0,.int .u8 1,.int .i64 0,.bool false])).run Tryz.prog (wX V 2)=.ok () (wX V 3):=upd_X V 2 rfl
 have v3:(Instr.mapUpdate 113 (.map (some V.heap.size)) (.int .u8 4) (.agg #[.bool false,.bool false,.int .u8 0,.int .u8 1,.int .i64 0,.bool false])).run Tryz.prog (wX V 3)=.ok () (wX V 4):=upd_X V 3 rfl
 have v4:(Instr.mapUpdate 113 (.map (some V.heap.size)) (.int .u8 5) (.agg #[.bool false,.bool false,.int .u8 0,.int .u8 0,.int .i64 0,.bool false])).run Tryz.prog (wX V 4)=.ok () (wX V 5):=upd_X V 4 rfl
 have v5:(Instr.mapUpdate 113 (.map (some V.heap.size)) (.int .u8 6) (.agg #[.bool false,.bool false,.int .u8 1,.int .u8 0,.int .i64 0,.bool false])).run Tryz.prog (wX V 5)=.ok () (wX V 6):=upd_X V 5 rfl
 have v6:(Instr.mapUpdate 113 (.map (some V.heap.size)) (.int .u8 7) (.agg #[.bool false,.bool false,.int .u8 0,.int .u8 0,.int .i64 1,.bool false])).run Tryz.prog (wX V 6)=.ok () (wX V 7):=upd_X V 6 rfl
 have v7:(Instr.mapUpdate 113 (.map (some V.heap.size)) (.int .u8 8) (.agg #[.bool false,.bool false,.int .u8 0,.int .u8 0,.int .i64 1,.bool false])).run Tryz.prog (wX V 7)=.ok () (wX V 8):=upd_X V 7 rfl
 have v8:(Instr.mapUpdate 113 (.map (some V.heap.size)) (.int .u8 9) (.agg #[.bool false,.bool false,.int .u8 0,.int .u8 0,.int .i64 1,.bool false])).run Tryz.prog (wX V 8)=.ok () (wX V 9):=upd_X V 8 rfl
 have v9:(Instr.mapUpdate 113 (.map (some V.heap.size)) (.int .u8 10) (.agg #[.bool false,.bool true,.int .u8 0,.int .u8 0,.int .i64 1,.bool false])).run Tryz.prog (wX V 9)=.ok () (wX V 10):=upd_X V 9 rfl
 have v10:(Instr.mapUpdate 113 (.map (some V.heap.size)) (.int .u8 11) (.agg #[.bool false,.bool false,.int .u8 0,.int .u8 0,.int .i64 2,.bool false])).run Tryz.prog (wX V 10)=.ok () (wX V 11):=upd_X V 10 rfl
 have v11:(Instr.mapUpdate 113 (.map (some V.heap.size)) (.int .u8 12) (.agg #[.bool false,.bool false,.int .u8 0,.int .u8 0,.int .i64 2,.bool false])).run Tryz.prog (wX V 11)=.ok () (wX V 12):=upd_X V 11 rfl
 have v12:(Instr.mapUpdate 113 (.map (some V.heap.size)) (.int .u8 13) (.agg #[.bool false,.bool false,.int .u8 0,.int .u8 0,.int .i64 2,.bool false])).run Tryz.prog (wX V 12)=.ok () (wX V 13):=upd_X V 12 rfl
 have v13:(Instr.mapUpdate 113 (.map (some V.heap.size)) (.int .u8 14) (.agg #[.bool false,.bool false,.int .u8 0,.int .u8 0,.int .i64 2,.bool true])).run Tryz.prog (wX V 13)=.ok () (wX V 14):=upd_X V 13 rfl
 have v14:(Instr.mapUpdate 113 (.map (some V.heap.size)) (.int .u8 15) (.agg #[.bool false,.bool false,.int .u8 0,.int .u8 0,.int .i64 2,.bool true])).run Tryz.prog (wX V 14)=.ok () (wX V 15):=upd_X V 14 rfl
 have v15:(Instr.mapUpdate 113 (.map (some V.heap.size)) (.int .u8 16) (.agg #[.bool false,.bool false,.int .u8 0,.int .u8 0,.int .i64 2,.bool false])).run Tryz.prog (wX V 15)=.ok () (wX V 16):=upd_X V 15 rfl
 have v16:(Instr.mapUpdate 113 (.map (some V.heap.size)) (.int .u8 17) (.agg #[.bool false,.bool false,.int .u8 0,.int .u8 0,.int .i64 2,.bool false])).run Tryz.prog (wX V 16)=.ok () (wX V 17):=upd_X V 16 rfl
 have v17:(Instr.mapUpdate 113 (.map (some V.heap.size)) (.int .u8 18) (.agg #[.bool false,.bool false,.int .u8 0,.int .u8 0,.int .i64 2,.bool false])).run Tryz.prog (wX V 17)=.ok () (wX V 18):=upd_X V 17 rfl
 have v18:(Instr.mapUpdate 113 (.map (some V.heap.size)) (.int .u8 19) (.agg #[.bool false,.bool false,.int .u8 0,.int .u8 0,.int .i64 2,.bool false])).run Tryz.prog (wX V 18)=.ok () (wX V 19):=upd_X V 18 rfl
 have v19:(Instr.mapUpdate 113 (.map (some V.heap.size)) (.int .u8 20) (.agg #[.bool false,.bool false,.int .u8 0,.int .u8 0,.int .i64 2,.bool false])).run Tryz.prog (wX V 19)=.ok () (wX V 20):=upd_X V 19 rfl
 have v20:(Instr.mapUpdate 113 (.map (some V.heap.size)) (.int .u8 21) (.agg #[.bool false,.bool false,.int .u8 0,.int .u8 0,.int .i64 2,.bool false])).run Tryz.prog (wX V 20)=.ok () (wX V 21):=upd_X V 20 rfl
 have v21:(Instr.mapUpdate 113 (.map (some V.heap.size)) (.int .u8 22) (.agg #[.bool false,.bool false,.int .u8 0,.int .u8 0,.int .i64 2,.bool false])).run Tryz.prog (wX V 21)=.ok () (wX V 22):=upd_X V 21 rfl
 have v22:(Instr.mapUpdate 113 (.map (some V.heap.size)) (.int .u8 23) (.agg #[.bool false,.bool false,.int .u8 0,.int .u8 0,.int .i64 2,.bool false])).run Tryz.prog (wX V 22)=.ok () (wX V 23):=upd_X V 22 rfl
 have v23:(Instr.mapUpdate 113 (.map (some V.heap.size)) (.int .u8 24) (.agg #[.bool false,.bool false,.int .u8 0,.int .u8 0,.int .i64 2,.bool false])).run Tryz.prog (wX V 23)=.ok () (wX V 24):=upd_X V 23 rfl
 have v24:(Instr.mapUpdate 113 (.map (some V.heap.size)) (.int .u8 25) (.agg #[.bool false,.bool false,.int .u8 0,.int .u8 0,.int .i64 2,.bool false])).run Tryz.prog (wX V 24)=.ok () (wX V 25):=upd_X V 24 rfl
 have v25:(Instr.mapUpdate 113 (.map (some V.heap.size)) (.int .u8 26) (.agg #[.bool false,.bool false,.int .u8 0,.int .u8 0,.int .i64 2,.bool false])).run Tryz.prog (wX V 25)=.ok () (wX V 26):=upd_X V 25 rfl
 go_enter Tryz.func123,Tryz.ntmps123
 go_wp2
 refine wp_loop_rounds 17 ?_
 iterate 17 (rw [rounds_succ];go_wp2)
 go_ret
 exact⟨rfl,rfl⟩
theorem upd_S (V:World) (n:Nat) (hn:Instr.findNow (.int .u8) (.int .u8 ((n:Int)+1)) (esS n).toList 0=some none) :
  (Instr.mapUpdate 114 (.map (some V.heap.size)) (.int .u8 ((n:Int)+1)) (sVal ((n:Int)+1))).run Tryz.prog (wS V n)=.ok () (wS V (n+1)):=by
 unfold wS
 rw [upd_u8 Tryz.underlying114 Tryz.underlying5 V _ n _ _ hn]
 simp [esS,List.range_succ]
set_option maxRecDepth 100000 in
set_option maxHeartbeats 8000000 in
theorem forms_S (V:World):Calls Tryz.prog 129 #[] V fun e w'=>e=.returned (.map (some V.heap.size))∧w'=wS V 3:=by
 have u0:(Instr.makeMap 114 none).run Tryz.prog V=.ok (.map (some V.heap.size)) (wS V 0):=rfl
 have v0:(Instr.mapUpdate 114 (.map (some V.heap.size)) (.int .u8 1) (.agg #[.bool false,.bool false])).run Tryz.prog (wS V 0)=.ok () (wS V 1):=upd_S V 0 rfl
 have v1:(Instr.mapUpdate 114 (.map (some V.heap.size)) (.int .u8 2) (.agg #[.bool true,.bool false])).run Tryz.prog (wS V 1)=.ok () (wS V 2):=upd_S V 1 rfl
 have v2:(Instr.mapUpdate 114 (.map (some V.heap.size)) (.int .u8 3) (.agg #[.bool true,.bool true])).run Tryz.prog (wS V 2)=.ok () (wS V 3):=upd_S V 2 rfl
 go_enter Tryz.func129,Tryz.ntmps129
 go_wp2
 go_ret
 exact⟨rfl,rfl⟩
theorem upd_T (V:World) (n:Nat) (hn:Instr.findNow (.int .u8) (.int .u8 ((n:Int)+1)) (esT n).toList 0=some none) :
  (Instr.mapUpdate 115 (.map (some V.heap.size)) (.int .u8 ((n:Int)+1)) (tVal ((n:Int)+1))).run Tryz.prog (wT V n)=.ok () (wT V (n+1)):=by
 unfold wT
 rw [upd_u8 Tryz.underlying115 Tryz.underlying5 V _ n _ _ hn]
 simp [esT,List.range_succ]
set_option maxRecDepth 100000 in
set_option maxHeartbeats 8000000 in
theorem forms_T (V:World):Calls Tryz.prog 130 #[] V fun e w'=>e=.returned (.map (some V.heap.size))∧w'=wT V 7:=by
 have u0:(Instr.makeMap 115 none).run Tryz.prog V=.ok (.map (some V.heap.size)) (wT V 0):=rfl
 have v0:(Instr.mapUpdate 115 (.map (some V.heap.size)) (.int .u8 1) (.agg #[.int .u8 2,.int .u8 1,.bool true,.bool false])).run Tryz.prog (wT V 0)=.ok () (wT V 1):=upd_T V 0 rfl
 have v1:(Instr.mapUpdate 115 (.map (some V.heap.size)) (.int .u8 2) (.agg #[.int .u8 0,.int .u8 0,.bool true,.bool true])).run Tryz.prog (wT V 1)=.ok () (wT V 2):=upd_T V 1 rfl
 have v2:(Instr.mapUpdate 115 (.map (some V.heap.size)) (.int .u8 3) (.agg #[.int .u8 0,.int .u8 1,.bool false,.bool false])).run Tryz.prog (wT V 2)=.ok () (wT V 3):=upd_T V 2 rfl
 have v3:(Instr.mapUpdate 115 (.map (some V.heap.size)) (.int .u8 4) (.agg #[.int .u8 0,.int .u8 0,.bool false,.bool false])).run Tryz.prog (wT V 3)=.ok () (wT V 4):=upd_T V 3 rfl
 have v4:(Instr.mapUpdate 115 (.map (some V.heap.size)) (.int .u8 5) (.agg #[.int .u8 0,.int .u8 0,.bool true,.bool false])).run Tryz.prog (wT V 4)=.ok () (wT V 5):=upd_T V 4 rfl
 have v5:(Instr.mapUpdate 115 (.map (some V.heap.size)) (.int .u8 6) (.agg #[.int .u8 1,.int .u8 0,.bool false,.bool false])).run Tryz.prog (wT V 5)=.ok () (wT V 6):=upd_T V 5 rfl
 have v6:(Instr.mapUpdate 115 (.map (some V.heap.size)) (.int .u8 7) (.agg #[.int .u8 1,.int .u8 0,.bool false,.bool false])).run Tryz.prog (wT V 6)=.ok () (wT V 7):=upd_T V 6 rfl
 go_enter Tryz.func130,Tryz.ntmps130
 go_wp2
 go_ret
 exact⟨rfl,rfl⟩
/-- A text's byte; 256 where there is none. -/
def byN (s:ByteArray) (k:Nat):Nat:=match s.data[k]? with | some b=>b.toNat | none=>256
theorem byN_at {s:ByteArray} {k:Nat} (h:k < s.size):byN s k=(s[k]).toNat:=by
 have h':k < s.data.size:=h
 unfold byN
 rw [Array.getElem?_eq_getElem h']
 rfl
def isLet (c:Nat):Bool:=decide ((97≤c∧c≤122)∨(65≤c∧c≤90)∨c=95)
def isDig (c:Nat):Bool:=decide (48≤c∧c≤57)
def kwTab:Array ByteArray:=#[⟨#[104,101,97,100,101,114]⟩,⟨#[109,101,116,97,100,97,116,97]⟩,⟨#[98,105,116]⟩,⟨#[112,97,114,115,101,114]⟩,⟨#[115,116,97,116,101]⟩,⟨#[101,120,116,114,97,99,116]⟩,⟨#[116,114,97,110,115,105,116,105,111,110]⟩,⟨#[115,101,108,101,99,116]⟩,⟨#[97,99,99,101,112,116]⟩,⟨#[114,101,106,101,99,116]⟩,⟨#[100,101,102,97,117,108,116]⟩,⟨#[97,99,116,105,111,110]⟩,⟨#[116,97,98,108,101]⟩,⟨#[107,101,121]⟩,⟨#[97,99,116,105,111,110,115]⟩,⟨#[101,120,97,99,116]⟩,⟨#[108,112,109]⟩,⟨#[116,101,114,110,97,114,121]⟩,⟨#[99,111,110,116,114,111,108]⟩,⟨#[97,112,112,108,121]⟩,⟨#[105,102]⟩,⟨#[101,108,115,101]⟩,⟨#[100,114,111,112]⟩,⟨#[102,111,114,119,97,114,100]⟩,⟨#[118,97,108,105,100]⟩,⟨#[105,110,118,97,108,105,100]⟩,⟨#[100,101,112,97,114,115,101,114]⟩,⟨#[101,109,105,116]⟩,⟨#[109,101,116,97]⟩,⟨#[112,111,114,116]⟩,⟨#[105,115,86,97,108,105,100]⟩,⟨#[95]⟩]
def kwAt (k:Nat):ByteArray:=kwTab.getD k ByteArray.empty
/-- Is it a keyword? -/
def kwB (s:ByteArray):Bool:=(List.range 32).any fun k=>decide (kwAt k=s)
theorem kwB_yes {s:ByteArray} {k:Nat} (h:k < 32) (e:kwAt k=s):kwB s=true:=by
 unfold kwB;rw [List.any_eq_true];exact⟨k,List.mem_range.2 h,decide_eq_true e⟩
theorem str_beq (a b:ByteArray):(a.toList == b.toList)=decide (a=b):=by
 rw [Bool.eq_iff_iff,beq_iff_eq,decide_eq_true_eq,Lib.toList_data,Lib.toList_data]
 exact⟨fun h=>ByteArray.ext (Array.toList_inj.1 h),fun h=>by rw [h]⟩
/-- Is each byte a letter or a digit? -/
def wordB (s:ByteArray):Bool:=(List.range s.size).all fun k=>isLet (byN s k) || isDig (byN s k)
theorem wordB_yes {s:ByteArray} (h:∀ k,k < s.size→(isLet (byN s k) || isDig (byN s k))=true):wordB s=true:=by
 unfold wordB;rw [List.all_eq_true];exact fun k hk=>h k (List.mem_range.1 hk)
/-- Is it a name? -/
def nameB (s:ByteArray):Bool:=decide (1≤s.size∧s.size≤16) && !isDig (byN s 0) && !kwB s && wordB s
/-- Where the word that byte k is of ends. -/
def wEnd (s:ByteArray) (k:Nat):Nat:=if _h:k < s.size then (if (isLet (byN s k) || isDig (byN s k))=true then wEnd s (k+1) else k) else k
termination_by s.size - k
theorem wEnd_go {s:ByteArray} {k:Nat} (h:k < s.size) (hb:(isLet (byN s k) || isDig (byN s k))=true):wEnd s k=wEnd s (k+1):=by rw [wEnd,dif_pos h,if_pos hb]
theorem wEnd_stop {s:ByteArray} {k:Nat} (h:k < s.size) (hb:(isLet (byN s k) || isDig (byN s k))=false):wEnd s k=k:=by rw [wEnd,dif_pos h,if_neg (by rw [hb];simp)]
theorem wEnd_past {s:ByteArray} {k:Nat} (h:¬ k < s.size):wEnd s k=k:=by rw [wEnd,dif_neg h]
theorem wEnd_bounds (s:ByteArray):∀ (d k:Nat),s.size - k=d→k≤s.size→k≤wEnd s k∧wEnd s k≤s.size
 | 0,k,h,hk=>by rw [wEnd_past (by omega)];omega
 | d+1,k,h,hk=>by
  cases hb:(isLet (byN s k) || isDig (byN s k)) with
  | true=>rw [wEnd_go (by omega) hb];have:=wEnd_bounds s d (k+1) (by omega) (by omega);omega
  | false=>rw [wEnd_stop (by omega) hb];omega
/-- What is left of a text from a byte on. -/
abbrev rest (s:ByteArray) (k:Nat):ByteArray:=s.extract k s.size
theorem data_len (s:ByteArray):s.data.toList.length=s.size:=by rw [Array.length_toList];rfl
theorem rest_zero (s:ByteArray):rest s 0=s:=by apply ByteArray.ext;simp [rest]
theorem tok_digit (c:Nat) (w:World) (h:c < 256):Calls Tryz.prog 141 #[.int .u8 (c:Int)] w fun e w'=>e=.returned (.bool (isDig c))∧w=w':=by
 obtain⟨b,hb⟩:∃ b,isDig c=b:=⟨_,rfl⟩
 have hb':=Lib.hid hb
 rw [hb]
 clear hb
 go_enter Tryz.func141,Tryz.ntmps141
 go_wp2
 all_goals
  go_ret
  refine⟨?_,rfl⟩
  show Ending.returned (.bool _)=Ending.returned (.bool _)
  refine congrArg (fun x=>Ending.returned (.bool x)) ?_
  rw [← hb'.out]
  unfold isDig
  rw [Bool.eq_iff_iff]
  simp
  omega
/-- Is it a byte of a word? -/
def isWrd (c:Nat):Bool:=isLet c || isDig c
theorem tok_ofword (c:Nat) (w:World) (h:c < 256):Calls Tryz.prog 197 #[.int .u8 (c:Int)] w fun e w'=>e=.returned (.bool (isWrd c))∧w=w':=by
 obtain⟨b,hb⟩:∃ b,isWrd c=b:=⟨_,rfl⟩
 have hb':=Lib.hid hb
 rw [hb]
 clear hb
 cases hd:isDig c with
 | true =>
  have hd':=Lib.hid hd
  have hD:=Lib.hid (fun w=>tok_digit c w h)
  rw [hd] at hD
  clear hd
  go_enter Tryz.func197,Tryz.ntmps197
  go_wp2_with (go_at_call 141;refine (hD.out _).mono ?_;rintro e w' ⟨rfl,rfl⟩)
  all_goals
   go_ret
   refine⟨?_,rfl⟩
   show Ending.returned (.bool _)=Ending.returned (.bool _)
   refine congrArg (fun x=>Ending.returned (.bool x)) ?_
   rw [← hb'.out]
   have hx:=hd'.out
   unfold isWrd isLet
   unfold isDig at hx ⊢
   rw [Bool.eq_iff_iff]
   simp at hx ⊢
   omega
 | false =>
  have hd':=Lib.hid hd
  have hD:=Lib.hid (fun w=>tok_digit c w h)
  rw [hd] at hD
  clear hd
  go_enter Tryz.func197,Tryz.ntmps197
  go_wp2_with (go_at_call 141;refine (hD.out _).mono ?_;rintro e w' ⟨rfl,rfl⟩)
  all_goals
   go_ret
   refine⟨?_,rfl⟩
   show Ending.returned (.bool _)=Ending.returned (.bool _)
   refine congrArg (fun x=>Ending.returned (.bool x)) ?_
   rw [← hb'.out]
   have hx:=hd'.out
   unfold isWrd isLet
   unfold isDig at hx ⊢
   rw [Bool.eq_iff_iff]
   simp at hx ⊢
   omega
theorem wrd_go {s:ByteArray} {k:Nat} (h:k < s.size) (hb:isWrd (byN s k)=true):wEnd s k=wEnd s (k+1):=wEnd_go h hb
theorem wrd_stop {s:ByteArray} {k:Nat} (h:k < s.size) (hb:isWrd (byN s k)=false):wEnd s k=k:=wEnd_stop h hb
set_option maxHeartbeats 1000000 in
theorem tok_first (s:ByteArray) (hs:s.size≤140737488355328) (w:World):Calls Tryz.prog 142 #[.string s] w fun e w'=>e=.returned (.string (s.extract 0 (wEnd s 0)))∧w=w':=by
 obtain⟨R,hR⟩:∃ R,wEnd s 0=R:=⟨_,rfl⟩
 rw [hR]
 have hR':=Lib.hid hR
 clear hR
 go_enter Tryz.func142,Tryz.ntmps142
 go_wp2
 go_loopw [3] (fun iv wr=>∃ k:Nat,k≤s.size∧iv=.int .i64 (k:Int)∧wr=w∧wEnd s k=R) (fun iv _=>s.size - (intOf iv).toNat)
 case atStart=>exact⟨0,Nat.zero_le _,rfl,rfl,hR'.out⟩
 case round =>
  obtain⟨k,hk,rfl,rfl,hkR⟩:=hrel
  have hkR':=Lib.hid hkR
  clear hkR
  by_cases hlt:k < s.size
  ·have e2:byN s k=(s[k]).toNat:=byN_at hlt
   have d256:=(s[k]).toNat_lt
   generalize hdd:(s[k]).toNat=d at e2 d256
   have hG2:=Lib.hid (fun w=>tok_ofword d w d256)
   cases g1:isWrd d with
   | true =>
    have hgo:=Lib.hid (wrd_go hlt (by rw [e2,g1]))
    rw [g1] at hG2
    clear g1 e2
    go_wp2_with (go_at_call 197;refine (hG2.out _).mono ?_;rintro e w' ⟨rfl,rfl⟩)
    go_roundw
    case rel=>exact⟨k+1,by omega,by go_num,by trivial,by rw [← hgo.out];exact hkR'.out⟩
    case measure=>simp [intOf];omega
   | false =>
    have hst:=Lib.hid (wrd_stop hlt (by rw [e2,g1]))
    rw [g1] at hG2
    clear g1 e2
    go_wp2_with (go_at_call 197;refine (hG2.out _).mono ?_;rintro e w' ⟨rfl,rfl⟩)
    go_wp2
    go_ret
    exact⟨by rw [← hkR'.out,hst.out];rfl,rfl⟩
  ·have hst:=Lib.hid (wEnd_past hlt)
   go_wp2
   go_ret
   exact⟨by rw [← hkR'.out,hst.out];rfl,rfl⟩
theorem list_beq (s:ByteArray) (l:List UInt8):(s.toList == l)=decide (s.data.toList=l):=by
 rw [Bool.eq_iff_iff,beq_iff_eq,decide_eq_true_eq,Lib.toList_data]
theorem list_contra {s:ByteArray} {l:List UInt8} (h1:(s.toList == l)=true) (h2:(s.toList == l)=false):False:=by rw [h1] at h2;cases h2
theorem kwB_list {s:ByteArray} {l:List UInt8} (h:(s.toList == l)=true) (hm:((List.range 32).any fun k=>decide ((kwAt k).data.toList=l))=true):kwB s=true:=by
 rw [List.any_eq_true] at hm
 obtain⟨k,hk,e⟩:=hm
 rw [list_beq,decide_eq_true_eq] at h
 rw [decide_eq_true_eq] at e
 refine kwB_yes (List.mem_range.1 hk) ?_
 apply ByteArray.ext
 rw [← Array.toList_inj,e,h]
theorem kwB_ex {s:ByteArray} (h:kwB s=true):∃ k,k < 32∧(s.toList == (kwAt k).data.toList)=true:=by
 unfold kwB at h
 rw [List.any_eq_true] at h
 obtain⟨k,hk,e⟩:=h
 rw [decide_eq_true_eq] at e
 exact⟨k,List.mem_range.1 hk,by rw [e,list_beq,decide_eq_true rfl]⟩
set_option maxHeartbeats 8000000 in
theorem tok_keyword (s:ByteArray):Pure Tryz.prog 143 #[.string s] (.bool (kwB s)):=by
 intro w
 obtain⟨b,hb⟩:∃ b,kwB s=b:=⟨_,rfl⟩
 have hb':=Lib.hid hb
 rw [hb]
 clear hb
 go_enter Tryz.func143,Tryz.ntmps143
 go_wp2
 all_goals first
  | (exfalso;exact list_contra (s:=s) (by assumption) (by assumption))
  | (go_ret
     refine⟨?_,⟨#[],w.drawn⟩,(plus_self w).symm⟩
     have hk:kwB s=true:=kwB_list (s:=s) (by assumption) (by decide +kernel)
     rw [← hb'.out,hk]
     rfl)
  | (go_ret
     refine⟨?_,⟨#[],w.drawn⟩,(plus_self w).symm⟩
     have hk:kwB s=false:=by
       cases he:kwB s with
       | false=>rfl
       | true =>
         exfalso
         obtain⟨k,hk,e⟩:=kwB_ex he
         match k,hk,e with
         | 0,_,e=>exact list_contra e (by assumption)
         | 1,_,e=>exact list_contra e (by assumption)
         | 2,_,e=>exact list_contra e (by assumption)
         | 3,_,e=>exact list_contra e (by assumption)
         | 4,_,e=>exact list_contra e (by assumption)
         | 5,_,e=>exact list_contra e (by assumption)
         | 6,_,e=>exact list_contra e (by assumption)
         | 7,_,e=>exact list_contra e (by assumption)
         | 8,_,e=>exact list_contra e (by assumption)
         | 9,_,e=>exact list_contra e (by assumption)
         | 10,_,e=>exact list_contra e (by assumption)
         | 11,_,e=>exact list_contra e (by assumption)
         | 12,_,e=>exact list_contra e (by assumption)
         | 13,_,e=>exact list_contra e (by assumption)
         | 14,_,e=>exact list_contra e (by assumption)
         | 15,_,e=>exact list_contra e (by assumption)
         | 16,_,e=>exact list_contra e (by assumption)
         | 17,_,e=>exact list_contra e (by assumption)
         | 18,_,e=>exact list_contra e (by assumption)
         | 19,_,e=>exact list_contra e (by assumption)
         | 20,_,e=>exact list_contra e (by assumption)
         | 21,_,e=>exact list_contra e (by assumption)
         | 22,_,e=>exact list_contra e (by assumption)
         | 23,_,e=>exact list_contra e (by assumption)
         | 24,_,e=>exact list_contra e (by assumption)
         | 25,_,e=>exact list_contra e (by assumption)
         | 26,_,e=>exact list_contra e (by assumption)
         | 27,_,e=>exact list_contra e (by assumption)
         | 28,_,e=>exact list_contra e (by assumption)
         | 29,_,e=>exact list_contra e (by assumption)
         | 30,_,e=>exact list_contra e (by assumption)
         | 31,_,e=>exact list_contra e (by assumption)
         | n+32,hn,_=>omega
     rw [← hb'.out,hk]
     rfl)
theorem wEnd_word (s:ByteArray):(s.extract 0 (wEnd s 0)=s) ↔ wordB s=true:=by
 have hb:=wEnd_bounds s _ 0 rfl (Nat.zero_le _)
 have hz:(s.extract 0 (wEnd s 0)).size=wEnd s 0:=by rw [ByteArray.size_extract];omega
 have hgo:∀ (d k:Nat),s.size - k=d→k≤s.size→wEnd s k=s.size→∀ j,k≤j→j < s.size→isWrd (byN s j)=true:=by
  intro d
  induction d with
  | zero=>intro k h _ _ j h1 h2;omega
  | succ d ih =>
   intro k h hk he j h1 h2
   cases hw:isWrd (byN s k) with
   | false=>rw [wrd_stop (by omega) hw] at he;omega
   | true =>
    by_cases hj:j=k
    ·rw [hj];exact hw
    ·rw [wrd_go (by omega) hw] at he
     exact ih (k+1) (by omega) (by omega) he j (by omega) h2
 have hback:∀ (d k:Nat),s.size - k=d→k≤s.size→(∀ j,k≤j→j < s.size→isWrd (byN s j)=true)→wEnd s k=s.size:=by
  intro d
  induction d with
  | zero=>intro k h hk _;rw [wEnd_past (by omega)];omega
  | succ d ih =>
   intro k h hk hall
   rw [wrd_go (by omega) (hall k (Nat.le_refl _) (by omega))]
   exact ih (k+1) (by omega) (by omega) (fun j h1 h2=>hall j (by omega) h2)
 constructor
 ·intro h
  have he:wEnd s 0=s.size:=by rw [← hz,h]
  exact wordB_yes fun k hk=>hgo _ 0 rfl (Nat.zero_le _) he k (Nat.zero_le _) hk
 ·intro h
  unfold wordB at h
  rw [List.all_eq_true] at h
  have he:wEnd s 0=s.size:=hback _ 0 rfl (Nat.zero_le _) fun j _ hj=>h j (List.mem_range.2 hj)
  rw [he]
  exact rest_zero s
set_option maxHeartbeats 4000000 in
theorem tok_name (s:ByteArray) (hs:s.size≤140737488355328):Pure Tryz.prog 65 #[.string s] (.bool (nameB s)):=by
 intro w
 obtain⟨b,hb⟩:∃ b,nameB s=b:=⟨_,rfl⟩
 have hb':=Lib.hid hb
 rw [hb]
 clear hb
 have hS:∃ x,w=plus w x:=⟨⟨#[],w.drawn⟩,(plus_self w).symm⟩
 have hS':=Lib.hid hS
 clear hS
 by_cases h0:s.size=0
 ·have he:s=⟨#[]⟩:=ByteArray.ext (Array.eq_empty_of_size_eq_zero h0)
  have hv:b=false:=by rw [← hb'.out];unfold nameB;rw [decide_eq_false (by omega)];simp
  subst he hv
  clear hb' h0
  go_enter Tryz.func65,Tryz.ntmps65
  go_wp2
  go_ret
  exact⟨rfl,hS'.out⟩
 ·have q:s.toList.isEmpty=false:=by
   rw [Lib.toList_data]
   cases h:s.data.toList with
   | nil=>have:=data_len s;rw [h,List.length_nil] at this;omega
   | cons _ _=>rfl
  have q2:¬ s.toList=[]:=by intro h;rw [h] at q;cases q
  by_cases h16:s.size≤16
  ·have hlt:0 < s.size:=by omega
   have e0:byN s 0=(s[0]).toNat:=byN_at hlt
   have d256:=(s[0]).toNat_lt
   generalize hdd:(s[0]).toNat=d at e0 d256
   have hG:=Lib.hid (fun w=>tok_digit d w d256)
   have hF:=tok_first s hs
   have hK:=tok_keyword s
   have hiff:=wEnd_word s
   have hn:nameB s=(!isDig d && !kwB s && wordB s):=by unfold nameB;rw [e0,decide_eq_true ⟨hlt,h16⟩];simp
   rw [← hb'.out,hn]
   clear hn e0 hb'
   generalize s.extract 0 (wEnd s 0)=f at hF hiff
   generalize kwB s=kb at hK ⊢
   generalize wordB s=wb at hiff ⊢
   have hF':=Lib.hid hF
   have hK':=Lib.hid hK
   clear hF hK
   cases hd:isDig d with
   | true =>
    rw [hd] at hG
    clear hd hiff
    go_enter Tryz.func65,Tryz.ntmps65
    go_wp2_with (go_at_call 141;refine (hG.out _).mono ?_;rintro r w' ⟨rfl,rfl⟩)
    go_ret
    exact⟨by cases kb <;> cases wb <;> rfl,hS'.out⟩
   | false =>
    rw [hd] at hG
    clear hd
    by_cases hfe:f=s
    ·obtain rfl:wb=true:=hiff.1 hfe
     have q3:(f.toList == s.toList)=true:=by rw [str_beq,decide_eq_true hfe]
     clear hiff hfe
     go_enter Tryz.func65,Tryz.ntmps65
     go_wp2_with (first|(go_at_call 141;refine (hG.out _).mono ?_;rintro r w' ⟨rfl,rfl⟩)|(go_at_call 142;refine (hF'.out _).mono ?_;rintro r w' ⟨rfl,rfl⟩)|(go_at_call 143;refine (hK'.out _).mono ?_;rintro r w' ⟨rfl,x,rfl⟩))
     go_ret
     exact⟨by cases kb <;> rfl,x,rfl⟩
    ·obtain rfl:wb=false:=by
      cases wb with
      | false=>rfl
      | true=>exact absurd (hiff.2 rfl) hfe
     have q3:(f.toList == s.toList)=false:=by rw [str_beq,decide_eq_false hfe]
     clear hiff hfe
     go_enter Tryz.func65,Tryz.ntmps65
     go_wp2_with (first|(go_at_call 141;refine (hG.out _).mono ?_;rintro r w' ⟨rfl,rfl⟩)|(go_at_call 142;refine (hF'.out _).mono ?_;rintro r w' ⟨rfl,rfl⟩))
     go_ret
     exact⟨by cases kb <;> rfl,hS'.out⟩
  ·have h17:(16:Int) < s.size:=by omega
   have hv:b=false:=by rw [← hb'.out];unfold nameB;rw [decide_eq_false (by omega)];simp
   subst hv
   clear hb'
   go_enter Tryz.func65,Tryz.ntmps65
   go_wp2
   go_ret
   exact⟨rfl,hS'.out⟩
end Go.Proofs.YtobhijbncchpiaaGreat
