/-
  WHAT IS PROVED HERE: a part of the proof (made narrower and merged by program; the parts: Hb UU).
-/
import Derived.LoopN
import Derived.MapKept
import Derived.Lib.IndexBytes
import Derived.Test.YtknmeggfokpbjaaGreatM3
import Derived.Test.YtknmeggfokpbjaaGreatM1
set_option maxRecDepth 100000
set_option maxHeartbeats 8000000
set_option linter.all false
namespace Go.Proofs.YtknmeggfokpbjaaGreat
open Z
open Go.RowKit Go.Proofs.Tryz
open Below renaming refl→Zb
open Ending renaming returned→Zd
open Lib renaming hid→Zf
open Nat renaming le_refl→Zt,zero_le→Zw
open Go.Proofs.Tryz renaming prog→Zx
open Go.RowKit
def WQ(w:World)(r:Nat)(es:Array MapEntry):Prop:=∃n,w.heap[r]?=some (.map es n)
theorem WQ.lt{w:World}{r:Nat}{es:Array MapEntry}(h:WQ w r es):r<w.heap.size:=by
 obtain⟨n,h⟩:=h;exact (Array.getElem?_eq_some_iff.1 h).1
theorem WQ.plus{w:World}{r:Nat}{es:Array MapEntry}(h:WQ w r es)(x:ZH):WQ (plus w x) r es:=by
 have hl:=h.lt;obtain⟨n,h⟩:=h;exact⟨n,by simp[Go.Proofs.YtknmeggfokpbjaaGreat.plus,Array.getElem?_append,hl];exact (Array.getElem?_eq_some_iff.1 h).2⟩
theorem WQ.alloc{w:World}{r:Nat}{es:Array MapEntry}(h:WQ w r es)(a:Obj):WQ (w.alloc a) r es:=by
 obtain⟨x,hx⟩:=MQ w a;rw[hx];exact h.plus x
def Ql(z:Value)(i:Int):List MapEntry→Value × Bool
 | []=>(z,false)
 | e :: l=>match e.key with
  | .int .u8 b=>if i==b then (e.val,true) else Ql z i l
  | _=>(z,false)
def Ez(l:List MapEntry):Prop:=∀e∈l,∃b,e.key=.int .u8 b
theorem C9(z:Value)(i):∀(l:List MapEntry) (j:Nat),Ez l→∃r,Instr.findNow (.int .u8) (.int .u8 i) l j=some r∧((∃a v,r=some (a,v)∧Ql z i l=(v,true))∨(r=none∧Ql z i l=(z,false)))
 | [],j,_=>⟨none,rfl,.inr ⟨rfl,rfl⟩⟩
 | e :: l,j,h=>by
  obtain⟨b,hb⟩:=h e (List.mem_cons_self);cases hib:(i==b) with
  | true=>exact⟨some (j,e.val),by simp[Instr.findNow,Instr.sameNow,hb,hib],.inl ⟨_,_,rfl,by simp[Ql,hb,hib]⟩⟩
  | false =>
   obtain⟨r,h1,h2⟩:=C9 z i l (j+1) (fun e he=>h e (List.mem_cons_of_mem _ he));refine⟨r,by simpa [Instr.findNow,Instr.sameNow,hb,hib]using h1,?_⟩;simpa [Ql,hb,hib]using h2
theorem Fp{P:Program}{w:World}{mt kt et:TypeId}{r:Nat}{es:Array MapEntry}{z:Value}(hm:P.underlying mt=some (.map kt et))(hk:P.underlying kt=some (.int .u8))(hz:(zeroValue et).run P w=.ok z w)(h:WQ w r es)(hu:Ez es.toList)(i) :
  (Instr.lookup mt (.map (some r)) (.int .u8 i) true).run P w=.ok (.tuple #[(Ql z i es.toList).1,.bool (Ql z i es.toList).2]) w:=by
 obtain⟨n,hb⟩:=h;obtain⟨q,h1,h2⟩:=C9 z i es.toList 0 hu;have hc:(Instr.checkKey es.isEmpty 10000 kt (.int .u8 i)).run P w=.ok () w:=MapKept.run_checkKey (k:=.int .u8 i) hk (by simp[MapKept.IsKey]) _ 9999;rcases h2 with⟨a,v,rfl,hg⟩|⟨rfl,hg⟩
 ·simp[Instr.lookup,run_underlying hm,MapKept.run_getObj_map hb,hc,MapKept.run_findKey hk h1,Result.andThen,hg]
 ·simp[Instr.lookup,run_underlying hm,MapKept.run_getObj_map hb,hc,MapKept.run_findKey hk h1,Result.andThen,hg,hz]
theorem eq{α:Type}(a:Array α)(x y:α):(a.push x).setIfInBounds a.size y=a.push y:=by
 apply Array.ext_getElem?;intro i;rw[Array.getElem?_setIfInBounds,Array.getElem?_push,Array.getElem?_push];by_cases h:a.size=i
 ·subst h;simp
 ·rw[if_neg h,if_neg (fun e=>h e.symm),if_neg (fun e=>h e.symm)]
theorem ED{P:Program}{mt kt et:TypeId}(hm:P.underlying mt=some (.map kt et))(hk:P.underlying kt=some (.int .u8))(V:World)(es:Array MapEntry)(n:Nat)(k)(v:Value)(hn:Instr.findNow (.int .u8) (.int .u8 k) es.toList 0=some none) :
  (Instr.mapUpdate mt (.map (some V.heap.size)) (.int .u8 k) v).run P (V.alloc (.map es n))=.ok () (V.alloc (.map (es.push ⟨.int .u8 k,v,n⟩) (n+1))):=by
 have hb:(V.alloc (.map es n)).heap[V.heap.size]?=some (.map es n):=by
  show (V.heap.push _)[V.heap.size]?=_
  simp
 have hc:(Instr.checkKey false 10000 kt (.int .u8 k)).run P (V.alloc (.map es n))=.ok () (V.alloc (.map es n)):=MapKept.run_checkKey (k:=.int .u8 k) hk (by simp[MapKept.IsKey]) false 9999;simp only[Instr.mapUpdate,Sem.run_bind,run_underlying hm,hc,MapKept.run_getObj_map hb,MapKept.run_findKey hk hn,MapKept.run_setObj_map _ hb,Result.andThen];refine congrArg (Result.ok ()) ?_;show ({ V with heap:=(V.heap.push _).setIfInBounds V.heap.size _ }:World)={ V with heap:=V.heap.push _ }
 congr 1
 exact eq _ _ _
def VU(op:Int):Bool:=op==1
def Vs(op:Int):Bool:=op==10
def V3(op:Int):Int:=if op=2∨op=6 then 1 else 0
def V4(op:Int):Int:=if op=2∨op=3∨op=4 then 1 else 0
def WD(op:Int):Int:=if 7≤op∧op≤10 then 1 else if 11≤op∧op≤26 then 2 else 0
def TY(op:Int):Bool:=op==14||op==15
def VT(op:Int):Bool:=decide (1≤op∧op≤26)
def PG(op:Int):Value:=.agg #[.bool (VU op),.bool (Vs op),.int .u8 (V3 op),.int .u8 (V4 op),.int .i64 (WD op),.bool (TY op)]
def Sx(n:Nat):Array MapEntry:=((List.range n).map fun (i:Nat)=>(⟨.int .u8 ((i:Int)+1),PG ((i:Int)+1),i⟩:MapEntry)).toArray
def wX(V:World)(n:Nat):World:=V.alloc (.map (Sx n) n)
def sV(k:Int):Bool:=k==2||k==3
def sM(k:Int):Bool:=k==3
def Q2(k:Int):Bool:=decide (1≤k∧k≤3)
def Mg(k:Int):Value:=.agg #[.bool (sV k),.bool (sM k)]
def Nt(n:Nat):Array MapEntry:=((List.range n).map fun (i:Nat)=>(⟨.int .u8 ((i:Int)+1),Mg ((i:Int)+1),i⟩:MapEntry)).toArray
def wS(V:World)(n:Nat):World:=V.alloc (.map (Nt n) n)
def Rr(k:Int):Int:=if k=1 then 2 else if k=6∨k=7 then 1 else 0
def Rs(k:Int):Int:=if k=1∨k=3 then 1 else 0
def TX(k:Int):Bool:=k==1||k==2||k==5
def Rq(k:Int):Bool:=k==2
def ST(k:Int):Bool:=decide (1≤k∧k≤7)
def Mi(k:Int):Value:=.agg #[.int .u8 (Rr k),.int .u8 (Rs k),.bool (TX k),.bool (Rq k)]
def Nu(n:Nat):Array MapEntry:=((List.range n).map fun (i:Nat)=>(⟨.int .u8 ((i:Int)+1),Mi ((i:Int)+1),i⟩:MapEntry)).toArray
def wT(V:World)(n:Nat):World:=V.alloc (.map (Nu n) n)
theorem Vj(V:World)(n:Nat)(hn:Instr.findNow (.int .u8) (.int .u8 ((n:Int)+1)) (Sx n).toList 0=some none) :
  (Instr.mapUpdate 113 (.map (some V.heap.size)) (.int .u8 ((n:Int)+1)) (PG ((n:Int)+1))).run Zx (wX V n)=.ok () (wX V (n+1)):=by
 unfold wX;rw[ED Tryz.underlying113 Tryz.underlying5 V _ n _ _ hn];simp[Sx,List.range_succ]
theorem Bd(V:World):Calls Zx 123 #[] V fun e w'=>e=.returned (.map (some V.heap.size))∧w'=wX V 26:=by
 have u0:(Instr.makeMap 113 none).run Zx V=.ok (.map (some V.heap.size)) (wX V 0):=rfl;have v0:(Instr.mapUpdate 113 (.map (some V.heap.size)) (.int .u8 1) (.agg #[.bool true,.bool false,.int .u8 0,.int .u8 0,.int .i64 0,.bool false])).run Zx (wX V 0)=.ok () (wX V 1):=Vj V 0 rfl;have v1:(Instr.mapUpdate 113 (.map (some V.heap.size)) (.int .u8 2) (.agg #[.bool false,.bool false,.int .u8 1,.int .u8 1,.int .i64 0,.bool false])).run Zx (wX V 1)=.ok () (wX V 2):=Vj V 1 rfl;have v2:(Instr.mapUpdate 113 (.map (some V.heap.size)) (.int .u8 3) (.agg #[.bool false,.bool false,.int .u8 0,.int .u8 1,.int .i64 0,.bool false])).run Zx (wX V 2)=.ok () (wX V 3):=Vj V 2 rfl;have v3:(Instr.mapUpdate 113 (.map (some V.heap.size)) (.int .u8 4) (.agg #[.bool false,.bool false,.int .u8 0,.int .u8 1,.int .i64 0,.bool false])).run Zx (wX V 3)=.ok () (wX V 4):=Vj V 3 rfl;have v4:(Instr.mapUpdate 113 (.map (some V.heap.size)) (.int .u8 5) (.agg #[.bool false,.bool false,.int .u8 0,.int .u8 0,.int .i64 0,.bool false])).run Zx (wX V 4)=.ok () (wX V 5):=Vj V 4 rfl;have v5:(Instr.mapUpdate 113 (.map (some V.heap.size)) (.int .u8 6) (.agg #[.bool false,.bool false,.int .u8 1,.int .u8 0,.int .i64 0,.bool false])).run Zx (wX V 5)=.ok () (wX V 6):=Vj V 5 rfl;have v6:(Instr.mapUpdate 113 (.map (some V.heap.size)) (.int .u8 7) (.agg #[.bool false,.bool false,.int .u8 0,.int .u8 0,.int .i64 1,.bool false])).run Zx (wX V 6)=.ok () (wX V 7):=Vj V 6 rfl;have v7:(Instr.mapUpdate 113 (.map (some V.heap.size)) (.int .u8 8) (.agg #[.bool false,.bool false,.int .u8 0,.int .u8 0,.int .i64 1,.bool false])).run Zx (wX V 7)=.ok () (wX V 8):=Vj V 7 rfl;have v8:(Instr.mapUpdate 113 (.map (some V.heap.size)) (.int .u8 9) (.agg #[.bool false,.bool false,.int .u8 0,.int .u8 0,.int .i64 1,.bool false])).run Zx (wX V 8)=.ok () (wX V 9):=Vj V 8 rfl;have v9:(Instr.mapUpdate 113 (.map (some V.heap.size)) (.int .u8 10) (.agg #[.bool false,.bool true,.int .u8 0,.int .u8 0,.int .i64 1,.bool false])).run Zx (wX V 9)=.ok () (wX V 10):=Vj V 9 rfl;have v10:(Instr.mapUpdate 113 (.map (some V.heap.size)) (.int .u8 11) (.agg #[.bool false,.bool false,.int .u8 0,.int .u8 0,.int .i64 2,.bool false])).run Zx (wX V 10)=.ok () (wX V 11):=Vj V 10 rfl;have v11:(Instr.mapUpdate 113 (.map (some V.heap.size)) (.int .u8 12) (.agg #[.bool false,.bool false,.int .u8 0,.int .u8 0,.int .i64 2,.bool false])).run Zx (wX V 11)=.ok () (wX V 12):=Vj V 11 rfl;have v12:(Instr.mapUpdate 113 (.map (some V.heap.size)) (.int .u8 13) (.agg #[.bool false,.bool false,.int .u8 0,.int .u8 0,.int .i64 2,.bool false])).run Zx (wX V 12)=.ok () (wX V 13):=Vj V 12 rfl;have v13:(Instr.mapUpdate 113 (.map (some V.heap.size)) (.int .u8 14) (.agg #[.bool false,.bool false,.int .u8 0,.int .u8 0,.int .i64 2,.bool true])).run Zx (wX V 13)=.ok () (wX V 14):=Vj V 13 rfl
 have v14:(Instr.mapUpdate 113 (.map (some V.heap.size)) (.int .u8 15) (.agg #[.bool false,.bool false,.int .u8 0,.int .u8 0,.int .i64 2,.bool true])).run Zx (wX V 14)=.ok () (wX V 15):=Vj V 14 rfl;have v15:(Instr.mapUpdate 113 (.map (some V.heap.size)) (.int .u8 16) (.agg #[.bool false,.bool false,.int .u8 0,.int .u8 0,.int .i64 2,.bool false])).run Zx (wX V 15)=.ok () (wX V 16):=Vj V 15 rfl;have v16:(Instr.mapUpdate 113 (.map (some V.heap.size)) (.int .u8 17) (.agg #[.bool false,.bool false,.int .u8 0,.int .u8 0,.int .i64 2,.bool false])).run Zx (wX V 16)=.ok () (wX V 17):=Vj V 16 rfl;have v17:(Instr.mapUpdate 113 (.map (some V.heap.size)) (.int .u8 18) (.agg #[.bool false,.bool false,.int .u8 0,.int .u8 0,.int .i64 2,.bool false])).run Zx (wX V 17)=.ok () (wX V 18):=Vj V 17 rfl;have v18:(Instr.mapUpdate 113 (.map (some V.heap.size)) (.int .u8 19) (.agg #[.bool false,.bool false,.int .u8 0,.int .u8 0,.int .i64 2,.bool false])).run Zx (wX V 18)=.ok () (wX V 19):=Vj V 18 rfl;have v19:(Instr.mapUpdate 113 (.map (some V.heap.size)) (.int .u8 20) (.agg #[.bool false,.bool false,.int .u8 0,.int .u8 0,.int .i64 2,.bool false])).run Zx (wX V 19)=.ok () (wX V 20):=Vj V 19 rfl;have v20:(Instr.mapUpdate 113 (.map (some V.heap.size)) (.int .u8 21) (.agg #[.bool false,.bool false,.int .u8 0,.int .u8 0,.int .i64 2,.bool false])).run Zx (wX V 20)=.ok () (wX V 21):=Vj V 20 rfl;have v21:(Instr.mapUpdate 113 (.map (some V.heap.size)) (.int .u8 22) (.agg #[.bool false,.bool false,.int .u8 0,.int .u8 0,.int .i64 2,.bool false])).run Zx (wX V 21)=.ok () (wX V 22):=Vj V 21 rfl;have v22:(Instr.mapUpdate 113 (.map (some V.heap.size)) (.int .u8 23) (.agg #[.bool false,.bool false,.int .u8 0,.int .u8 0,.int .i64 2,.bool false])).run Zx (wX V 22)=.ok () (wX V 23):=Vj V 22 rfl;have v23:(Instr.mapUpdate 113 (.map (some V.heap.size)) (.int .u8 24) (.agg #[.bool false,.bool false,.int .u8 0,.int .u8 0,.int .i64 2,.bool false])).run Zx (wX V 23)=.ok () (wX V 24):=Vj V 23 rfl;have v24:(Instr.mapUpdate 113 (.map (some V.heap.size)) (.int .u8 25) (.agg #[.bool false,.bool false,.int .u8 0,.int .u8 0,.int .i64 2,.bool false])).run Zx (wX V 24)=.ok () (wX V 25):=Vj V 24 rfl;have v25:(Instr.mapUpdate 113 (.map (some V.heap.size)) (.int .u8 26) (.agg #[.bool false,.bool false,.int .u8 0,.int .u8 0,.int .i64 2,.bool false])).run Zx (wX V 25)=.ok () (wX V 26):=Vj V 25 rfl;go_enter func123,ntmps123;go_wp2;refine wp_loop_rounds 17 ?_;iterate 17 (rw[rounds_succ];go_wp2)
 go_ret;exact⟨rfl,rfl⟩
theorem EC(V:World)(n:Nat)(hn:Instr.findNow (.int .u8) (.int .u8 ((n:Int)+1)) (Nt n).toList 0=some none) :
  (Instr.mapUpdate 114 (.map (some V.heap.size)) (.int .u8 ((n:Int)+1)) (Mg ((n:Int)+1))).run Zx (wS V n)=.ok () (wS V (n+1)):=by
 unfold wS;rw[ED Tryz.underlying114 Tryz.underlying5 V _ n _ _ hn];simp[Nt,List.range_succ]
theorem lY(V:World):Calls Zx 129 #[] V fun e w'=>e=.returned (.map (some V.heap.size))∧w'=wS V 3:=by
 have u0:(Instr.makeMap 114 none).run Zx V=.ok (.map (some V.heap.size)) (wS V 0):=rfl;have v0:(Instr.mapUpdate 114 (.map (some V.heap.size)) (.int .u8 1) (.agg #[.bool false,.bool false])).run Zx (wS V 0)=.ok () (wS V 1):=EC V 0 rfl;have v1:(Instr.mapUpdate 114 (.map (some V.heap.size)) (.int .u8 2) (.agg #[.bool true,.bool false])).run Zx (wS V 1)=.ok () (wS V 2):=EC V 1 rfl;have v2:(Instr.mapUpdate 114 (.map (some V.heap.size)) (.int .u8 3) (.agg #[.bool true,.bool true])).run Zx (wS V 2)=.ok () (wS V 3):=EC V 2 rfl;go_enter func129,ntmps129;go_wp2;go_ret;exact⟨rfl,rfl⟩
theorem OT(V:World)(n:Nat)(hn:Instr.findNow (.int .u8) (.int .u8 ((n:Int)+1)) (Nu n).toList 0=some none) :
  (Instr.mapUpdate 115 (.map (some V.heap.size)) (.int .u8 ((n:Int)+1)) (Mi ((n:Int)+1))).run Zx (wT V n)=.ok () (wT V (n+1)):=by
 unfold wT;rw[ED Tryz.underlying115 Tryz.underlying5 V _ n _ _ hn];simp[Nu,List.range_succ]
theorem lZ(V:World):Calls Zx 130 #[] V fun e w'=>e=.returned (.map (some V.heap.size))∧w'=wT V 7:=by
 have u0:(Instr.makeMap 115 none).run Zx V=.ok (.map (some V.heap.size)) (wT V 0):=rfl;have v0:(Instr.mapUpdate 115 (.map (some V.heap.size)) (.int .u8 1) (.agg #[.int .u8 2,.int .u8 1,.bool true,.bool false])).run Zx (wT V 0)=.ok () (wT V 1):=OT V 0 rfl;have v1:(Instr.mapUpdate 115 (.map (some V.heap.size)) (.int .u8 2) (.agg #[.int .u8 0,.int .u8 0,.bool true,.bool true])).run Zx (wT V 1)=.ok () (wT V 2):=OT V 1 rfl;have v2:(Instr.mapUpdate 115 (.map (some V.heap.size)) (.int .u8 3) (.agg #[.int .u8 0,.int .u8 1,.bool false,.bool false])).run Zx (wT V 2)=.ok () (wT V 3):=OT V 2 rfl;have v3:(Instr.mapUpdate 115 (.map (some V.heap.size)) (.int .u8 4) (.agg #[.int .u8 0,.int .u8 0,.bool false,.bool false])).run Zx (wT V 3)=.ok () (wT V 4):=OT V 3 rfl;have v4:(Instr.mapUpdate 115 (.map (some V.heap.size)) (.int .u8 5) (.agg #[.int .u8 0,.int .u8 0,.bool true,.bool false])).run Zx (wT V 4)=.ok () (wT V 5):=OT V 4 rfl;have v5:(Instr.mapUpdate 115 (.map (some V.heap.size)) (.int .u8 6) (.agg #[.int .u8 1,.int .u8 0,.bool false,.bool false])).run Zx (wT V 5)=.ok () (wT V 6):=OT V 5 rfl;have v6:(Instr.mapUpdate 115 (.map (some V.heap.size)) (.int .u8 7) (.agg #[.int .u8 1,.int .u8 0,.bool false,.bool false])).run Zx (wT V 6)=.ok () (wT V 7):=OT V 6 rfl;go_enter func130,ntmps130;go_wp2;go_ret;exact⟨rfl,rfl⟩
def Wy(s:ByteArray)(k:Nat):Nat:=match s.data[k]? with|some b=>b.toNat|none=>256
theorem MV{s:ByteArray}{k:Nat}(h:k<s.size):Wy s k=(s[k]).toNat:=by
 have h':k<s.data.size:=h;unfold Wy;rw[Array.getElem?_eq_getElem h'];rfl
def Tj(c:Nat):Bool:=decide ((97≤c∧c≤122)∨(65≤c∧c≤90)∨c=95)
def Vy(c:Nat):Bool:=decide (48≤c∧c≤57)
theorem dL(c:Nat)(w:World)(h:c<256):Calls Zx 168 #[.int .u8 (c:Int)] w fun e w'=>e=.returned (.bool (Tj c))∧w=w':=by
 obtain⟨b,hb⟩:=ZB (Tj c);have Yi:=Zf hb;rw[hb];clear hb;go_enter func168,ntmps168;go_wp2;all_goals
  go_ret;refine⟨?_,rfl⟩;show Zd (.bool _)=Zd (.bool _)
  refine congrArg (fun x=>Zd (.bool x)) ?_;rw[←Yi.out];unfold Tj;rw[Bool.eq_iff_iff];simp;omega
theorem yO(c:Nat)(w:World)(h:c<256):Calls Zx 166 #[.int .u8 (c:Int)] w fun e w'=>e=.returned (.bool (Vy c))∧w=w':=by
 obtain⟨b,hb⟩:=ZB (Vy c);have Yi:=Zf hb;rw[hb];clear hb;go_enter func166,ntmps166;exact pn
theorem oG{P:Program}{c:Code}{Q:Exit→Act→World→Prop}{a:Act}{W:World}{T:World→Prop}(h:∀W,T W→c.wp P Q a W)(hT:T W):c.wp P Q a W:=h W hT
def PC(t:Array ByteArray):Array Value:=t.map Value.string
theorem aN{t:Array ByteArray}{k:Nat}(h:k<t.size):(PC t)[k]?=some (.string t[k]):=by
 unfold PC;rw[Array.getElem?_map,Array.getElem?_eq_getElem h];rfl
def Pt:Array ByteArray:=#[⟨#[104,101,97,100,101,114]⟩,⟨#[109,101,116,97,100,97,116,97]⟩,⟨#[98,105,116]⟩,⟨#[112,97,114,115,101,114]⟩,⟨#[115,116,97,116,101]⟩,⟨#[101,120,116,114,97,99,116]⟩,⟨#[116,114,97,110,115,105,116,105,111,110]⟩,⟨#[115,101,108,101,99,116]⟩,⟨#[97,99,99,101,112,116]⟩,⟨#[114,101,106,101,99,116]⟩,⟨#[100,101,102,97,117,108,116]⟩,⟨#[97,99,116,105,111,110]⟩,⟨#[116,97,98,108,101]⟩,⟨#[107,101,121]⟩,⟨#[97,99,116,105,111,110,115]⟩,⟨#[101,120,97,99,116]⟩,⟨#[108,112,109]⟩,⟨#[116,101,114,110,97,114,121]⟩,⟨#[99,111,110,116,114,111,108]⟩,⟨#[97,112,112,108,121]⟩,⟨#[105,102]⟩,⟨#[101,108,115,101]⟩,⟨#[100,114,111,112]⟩,⟨#[102,111,114,119,97,114,100]⟩,⟨#[118,97,108,105,100]⟩,⟨#[105,110,118,97,108,105,100]⟩,⟨#[100,101,112,97,114,115,101,114]⟩,⟨#[101,109,105,116]⟩,⟨#[109,101,116,97]⟩,⟨#[112,111,114,116]⟩,⟨#[105,115,86,97,108,105,100]⟩,⟨#[95]⟩]
theorem jG:PC Pt=#[.string ⟨#[104,101,97,100,101,114]⟩,.string ⟨#[109,101,116,97,100,97,116,97]⟩,.string ⟨#[98,105,116]⟩,.string ⟨#[112,97,114,115,101,114]⟩,.string ⟨#[115,116,97,116,101]⟩,.string ⟨#[101,120,116,114,97,99,116]⟩,.string ⟨#[116,114,97,110,115,105,116,105,111,110]⟩,.string ⟨#[115,101,108,101,99,116]⟩,.string ⟨#[97,99,99,101,112,116]⟩,.string ⟨#[114,101,106,101,99,116]⟩,.string ⟨#[100,101,102,97,117,108,116]⟩,.string ⟨#[97,99,116,105,111,110]⟩,.string ⟨#[116,97,98,108,101]⟩,.string ⟨#[107,101,121]⟩,.string ⟨#[97,99,116,105,111,110,115]⟩,.string ⟨#[101,120,97,99,116]⟩,.string ⟨#[108,112,109]⟩,.string ⟨#[116,101,114,110,97,114,121]⟩,.string ⟨#[99,111,110,116,114,111,108]⟩,.string ⟨#[97,112,112,108,121]⟩,.string ⟨#[105,102]⟩,.string ⟨#[101,108,115,101]⟩,.string ⟨#[100,114,111,112]⟩,.string ⟨#[102,111,114,119,97,114,100]⟩,.string ⟨#[118,97,108,105,100]⟩,.string ⟨#[105,110,118,97,108,105,100]⟩,.string ⟨#[100,101,112,97,114,115,101,114]⟩,.string ⟨#[101,109,105,116]⟩,.string ⟨#[109,101,116,97]⟩,.string ⟨#[112,111,114,116]⟩,.string ⟨#[105,115,86,97,108,105,100]⟩,.string ⟨#[95]⟩]:=by simp[PC,Pt]
def SM(k:Nat):ByteArray:=Pt.getD k ByteArray.empty
theorem jH(k:Nat)(h:k<32):(PC Pt)[k]?=some (.string (SM k)):=by
 have hs:k<Pt.size:=h;rw[aN hs];unfold SM;simp[Array.getD,hs]
def Tl(s:ByteArray):Bool:=(List.range 32).any fun k=>decide (SM k=s)
theorem zM{s:ByteArray}{k:Nat}(h:k<32)(e:SM k=s):Tl s=true:=by
 unfold Tl;rw[List.any_eq_true];exact⟨k,List.mem_range.2 h,decide_eq_true e⟩
theorem jF{s:ByteArray}(h:∀k,k<32→¬SM k=s):Tl s=false:=by
 unfold Tl;rw[List.any_eq_false];intro k hk;rw[decide_eq_false (h k (List.mem_range.1 hk))];simp
theorem Ic(a b:ByteArray):(a.toList==b.toList)=decide (a=b):=by
 rw[Bool.eq_iff_iff,beq_iff_eq,decide_eq_true_eq,Lib.toList_data,Lib.toList_data];exact⟨fun h=>ByteArray.ext (Array.toList_inj.1 h),fun h=>by rw[h]⟩
theorem dK(s):WR Zx 167 #[.string s] (.bool (Tl s)):=by
 intro w;have Qn:∀k:Nat,k<32→(w.alloc (.cells (PC Pt) 9)).cell? ⟨w.heap.size,k,none⟩=some (.string (SM k)):=fun k hk=>(YI w (PC Pt) 9 _ k rfl).trans (jH k hk);have hB:Below w.heap.size w (w.alloc (.cells (PC Pt) 9)):=(Zb _ _).alloc (Zt _) _;rw[jG]at hB Qn;replace Qn:=Zf Qn;replace hB:=Zf hB;go_enter func167,ntmps167;go_wp2;refine oG (T:=fun W=>Below w.heap.size w W∧∀k:Nat,k<32→W.cell? ⟨w.heap.size,k,none⟩=some (.string (SM k))) ?_ ⟨hB.out,Qn.out⟩;clear hB Qn;rintro W ⟨hB,Qn⟩;have hcells':=Zf Qn;clear Qn;go_loopw [4] (fun iv wr=>∃k:Nat,k≤32∧iv=.int .i64 (k:Int)∧wr=W∧∀j:Nat,j<k→¬SM j=s) (fun iv _=>32-(intOf iv).toNat)
 case atStart=>exact⟨0,Zw _,rfl,rfl,fun j hj=>absurd hj asB⟩
 case round =>
  obtain⟨k,hk,rfl,rfl,X8⟩:=hrel;by_cases ZC:k<32
  ·have hc:=hcells'.out k ZC
   by_cases he:SM k=s
   ·have hv':=Zf (zM ZC he)
    rw[he]at hc;have q:(s.toList==s.toList)=true:=by rw[Ic,decide_eq_true rfl]
    clear X8 he;go_wp2;go_ret;exact⟨by rw[hv'.out];rfl,Yy hB⟩
   ·have hno':=Zf X8
    have he':=Zf he;have Qq:=Zf ZC;have q:((SM k).toList==s.toList)=false:=by rw[Ic,decide_eq_false he]
    generalize SM k=v at hc q;clear X8 he;go_wp2;go_roundw
    case rel =>
     refine⟨k+1,asB,by go_num,by trivial,fun j UQ=>?_⟩;rcases Nat.lt_or_ge j k with h|h
     ·exact hno'.out j h
     ·have:j=k:=by omega
      subst this;exact he'.out
    case measure=>simp[intOf];have:=Qq.out;omega
  ·have hw:=Zf (jF (s:=s) (fun j hj=>X8 j asB))
   clear X8;go_wp2;go_ret;exact⟨by rw[hw.out];rfl,Yy hB⟩
def QD(s:ByteArray):Bool:=(List.range s.size).all fun k=>Tj (Wy s k)||Vy (Wy s k)
theorem xM{s:ByteArray}(h:∀k,k<s.size→(Tj (Wy s k)||Vy (Wy s k))=true):QD s=true:=by
 unfold QD;rw[List.all_eq_true];exact fun k hk=>h k (List.mem_range.1 hk)
theorem abb{s:ByteArray}{k:Nat}(hk:k<s.size)(h:(Tj (Wy s k)||Vy (Wy s k))=false):QD s=false:=by
 unfold QD;rw[List.all_eq_false];exact⟨k,List.mem_range.2 hk,by rw[h];simp⟩
def YK(s:ByteArray):Bool:=decide (1≤s.size∧s.size≤16)&&!Vy (Wy s 0)&&!Tl s&&QD s
theorem dM(s):WR Zx 104 #[.string s] (.bool (YK s)):=by
 intro w;by_cases h1:1≤s.size∧s.size≤16
 ·obtain⟨h1a,h1b⟩:=h1
  have h0:0<s.size:=h1a;have hD:=Zf (fun w=>yO (Wy s 0) w (by rw[MV h0];exact (s[0]).toNat_lt));have e0:Wy s 0=(s[0]).toNat:=MV h0;rw[e0]at hD;cases hd:Vy (Wy s 0) with
  | true =>
   rw[e0]at hd;rw[hd]at hD;have e:=Zf (show YK s=false by unfold YK;rw[e0,hd];simp);clear hd e0;go_enter func104,ntmps104;go_wp2_with (go_at_call 166;refine (hD.out _).mono ?_;rintro r w' ⟨rfl,rfl⟩);go_ret;exact⟨by rw[e.out];rfl,⟨#[],w.drawn⟩,(Yk w).symm⟩
  | false =>
   rw[e0]at hd;rw[hd]at hD;have hK:=Zf (dK s);cases hk:Tl s with
   | true =>
    rw[hk]at hK;have e:=Zf (show YK s=false by unfold YK;rw[hk];simp);clear hd e0 hk;go_enter func104,ntmps104;go_wp2_with (first|(go_at_call 166;refine (hD.out _).mono ?_;rintro r w' ⟨rfl,rfl⟩)|(go_at_call 167;refine (hK.out _).mono ?_;rintro r w' ⟨rfl,x,rfl⟩));go_ret;exact⟨by rw[e.out];rfl,x,rfl⟩
   | false =>
    rw[hk]at hK;have e:=Zf (show YK s=QD s by unfold YK;rw[e0,hd,hk,decide_eq_true ⟨h1a,h1b⟩];simp);clear hd e0 hk;go_enter func104,ntmps104;go_wp2_with (first|(go_at_call 166;refine (hD.out _).mono ?_;rintro r w' ⟨rfl,rfl⟩)|(go_at_call 167;refine (hK.out _).mono ?_;rintro r w' ⟨rfl,x,rfl⟩));go_loopw [3] (fun iv wr=>∃k:Nat,k≤s.size∧iv=.int .i64 (k:Int)∧wr=plus w x∧∀j,j<k→(Tj (Wy s j)||Vy (Wy s j))=true) (fun iv _=>s.size-(intOf iv).toNat)
    case atStart=>exact⟨0,Zw _,rfl,rfl,fun j hj=>absurd hj asB⟩
    case round =>
     obtain⟨k,hk,rfl,rfl,X8⟩:=hrel;by_cases ZC:k<s.size
     ·have e1:Wy s k=(s[k]).toNat:=MV ZC
      have hc256:=(s[k]).toNat_lt;generalize hcd:(s[k]).toNat=c at e1 hc256;have hL:=Zf (fun w=>dL c w hc256);have hG:=Zf (fun w=>yO c w hc256);have hno':=Zf X8;have hW:=Zf (abb (s:=s) (k:=k) ZC);rw[e1]at hW;have Ph:Hid ((Tj c||Vy c)=true→∀j,j<k+1→(Tj (Wy s j)||Vy (Wy s j))=true):=by
       intro h j hj;rcases Nat.lt_or_ge j k with h2|h2
       ·exact X8 j h2
       ·rw[show j=k by omega,e1];exact h
      have Qq:=Zf ZC;clear X8 e1;cases h1:Tj c with
      | true =>
       rw[h1]at hL;have SF:=Zf (Ph.out (by rw[h1];rfl));clear hW h1 Ph;go_wp2_with (go_at_call 168;refine (hL.out _).mono ?_;rintro r w' ⟨rfl,rfl⟩);go_roundw
       case rel=>exact⟨k+1,by have:=Qq.out;omega,by go_num,by trivial,SF.out⟩
       case measure=>simp[intOf];have:=Qq.out;omega
      | false =>
       cases h2:Vy c with
       | true =>
        rw[h1]at hL;rw[h2]at hG;have SF:=Zf (Ph.out (by rw[h1,h2];rfl));clear hW h1 Ph h2;go_wp2_with (first|(go_at_call 168;refine (hL.out _).mono ?_;rintro r w' ⟨rfl,rfl⟩)|(go_at_call 166;refine (hG.out _).mono ?_;rintro r w' ⟨rfl,rfl⟩));go_roundw
        case rel=>exact⟨k+1,by have:=Qq.out;omega,by go_num,by trivial,SF.out⟩
        case measure=>simp[intOf];have:=Qq.out;omega
       | false =>
        rw[h1]at hL;rw[h2]at hG;have XJ:=Zf (hW.out (by rw[h1,h2];rfl));clear hW h1 Ph h2;go_wp2_with (first|(go_at_call 168;refine (hL.out _).mono ?_;rintro r w' ⟨rfl,rfl⟩)|(go_at_call 166;refine (hG.out _).mono ?_;rintro r w' ⟨rfl,rfl⟩));go_ret;exact⟨by rw[e.out,XJ.out];rfl,x,rfl⟩
     ·have hY:=Zf (xM (s:=s) (fun j hj=>X8 j asB))
      clear X8;go_wp2;go_ret;exact⟨by rw[e.out,hY.out];rfl,x,rfl⟩
 ·have e:=Zf (show YK s=false by unfold YK;rw[decide_eq_false h1];simp)
  by_cases h2:s.size<1
  ·clear h1
   go_enter func104,ntmps104;go_wp2;go_ret;exact⟨by rw[e.out];rfl,⟨#[],w.drawn⟩,(Yk w).symm⟩
  ·have h3:16<s.size:=by omega
   clear h1;go_enter func104,ntmps104;go_wp2;go_ret;exact⟨by rw[e.out];rfl,⟨#[],w.drawn⟩,(Yk w).symm⟩
end Go.Proofs.YtknmeggfokpbjaaGreat
