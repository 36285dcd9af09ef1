/-
  WHAT IS PROVED HERE: a part of the proof (made narrower and merged by program; the parts: FG Hb Lod).
-/
import Derived.Laws.EntriesVeiled
import Derived.LoopN
import Derived.MapKept
import Derived.Deep.RegionWith
import Derived.Test.YtheaknidbcbneaaGreatM3
set_option maxRecDepth 100000
set_option maxHeartbeats 8000000
set_option linter.all false
namespace Go.Proofs.YtheaknidbcbneaaGreat
open Go.RowKit Go.Proofs.Tryz
open Below renaming refl→Zc
open List renaming getElem?_eq_some_iff→Zj,mem_cons_self→Zk
open Nat renaming le_refl→Zp
open Go.Proofs.Tryz renaming prog→Zr
open Go.RowKit
abbrev Kp(P:Program)(w:World)(f:FuncId)(args:Array Value)(v:Value):Prop:=∀y,Calls P f args (plus w y) fun e w'=>e=.returned v∧∃x,w'=plus (plus w y) x
section
variable {P:Program} {w:World} {f:FuncId} {args:Array Value} {v:Value}
theorem Kp.up(h:Kp P w f args v)(z:ZA):Kp P (plus w z) f args v:=fun y=>by
 rw[Zx];exact h _
theorem Kp.pure(h:Kp P w f args v):Vh P w f args v:=fun y=>(h y).mono fun _ _ ⟨he,x,hx⟩=>⟨he,by rw[hx,Zx];exact⟨_,rfl⟩⟩
theorem Kp.of(h:∀w',(∃y,w'=plus w y)→Calls P f args w' fun e w''=>e=.returned v∧∃x,w''=plus w' x):Kp P w f args v:=fun y=>h _ ⟨y,rfl⟩
theorem Kp.eqv{v':Value}(h:Kp P w f args v)(e:v=v'):Kp P w f args v':=e▸h
end
theorem Ri(w:World)(y:ZA)(a:Obj):∃x,(plus w y).alloc a=plus w x:=by
 obtain⟨z,hz⟩:=ZS ((Zc (plus w y).heap.size (plus w y)).alloc (Zp _) a);rw[hz,Zx];exact⟨_,rfl⟩
theorem XV{P:Program}{W:World}{f:FuncId}{args:Array Value}{v:Value}(h:Vh P W f args v){y:ZA}{a:Obj}{Q:Ending→World→Prop}(hQ:∀e w',(e=.returned v∧∃x,w'=plus W x)→Q e w') :
  Calls P f args ((plus W y).alloc a) Q:=by
 obtain⟨z,hz⟩:=Ri W y a;rw[hz];exact (h z).mono hQ
theorem ZL{w:World}{a:Addr}{v:Value}(h:w.cell? a=some v)(x:Obj):(w.alloc x).cell? a=some v:=by
 obtain⟨z,hz⟩:=Ri w ⟨#[],w.drawn⟩ x;rw[ZK]at hz;rw[hz];exact ZC h z
def OL(l:List Value):Prop:=∃(c0:ByteArray) (c1:Int),l=[.string c0,.int .i64 c1]
def OM(l:List Value):Prop:=∃(c0:ByteArray) (c1p:Option Addr) (c1n:Nat) (c1c:Nat),l=[.string c0,.slice c1p c1n c1c]
def Qr(l:List Value):Prop:=∃(c0:Int) (c1:Int) (c2:Int) (c3:Int) (c4:ByteArray) (c5:ByteArray) (c6:Int) (c7:Int) (c8p:Option Addr) (c8n:Nat) (c8c:Nat),l=[.int .u8 c0,.int .i64 c1,.int .u64 c2,.int .u64 c3,.string c4,.string c5,.int .i64 c6,.int .i64 c7,.slice c8p c8n c8c]
def VB{α:Type}(lo hi:Int)(may:α→Bool)(l:List α):Bool:=decide (lo≤(l.length:Int))&&decide ((l.length:Int)≤hi)&&l.all may
theorem SV{α:Type}(f:α→Bool)(l:List α)(k:Nat)(x:α)(hx:l[k]?=some x):(l.drop k).all f=(f x&&(l.drop (k+1)).all f):=by
 obtain⟨h1,rfl⟩:=Zj.1 hx;rw[List.drop_eq_getElem_cons h1,List.all_cons]
theorem YD(V:World):∃x,V=plus V x:=⟨_,(ZK V).symm⟩
theorem ZW(V:World)(a:Obj):∃x,V.alloc a=plus V x:=ZS ((Zc _ V).alloc (Zp _) a)
theorem XK(V:World)(a b:Obj):∃x,(V.alloc a).alloc b=plus V x:=ZS (((Zc _ V).alloc (Zp _) a).alloc (by simp) b)
theorem YN{P:Program}{V:World}{f:FuncId}{args:Array Value}{v:Value}(h:Kp P V f args v):Calls P f args V fun e w'=>e=.returned v∧∃x,w'=plus V x:=by
 have:=h ⟨#[],V.drawn⟩;rwa [ZK]at this
theorem Zy{P:Program}{V W:World}{z:ZA}{f:FuncId}{args:Array Value}{v:Value}(hz:W=plus V z)(h:Kp P V f args v):Vh P W f args v:=by
 rw[hz];exact (h.up z).pure
theorem Ya(V:World)(c:Array Value)(t:TypeId):∃W y,V.alloc (.cells c t)=plus W y∧(∃z,W=plus V z)∧(∀o v,c[o]?=v→∀y,(plus W y).cell? ⟨V.heap.size,o,none⟩=v):=by
 obtain⟨W,hW,hB,hs,ca,fa⟩:=Vx V c t;exact⟨W,⟨#[],W.drawn⟩,by rw[ZK,hW],ZS hB,ca⟩
theorem ZF(V:World)(c d:Array Value)(t u:TypeId):∃W y,(V.alloc (.cells c t)).alloc (.cells d u)=plus W y∧(∃z,W=plus V z)∧(∀o v,c[o]?=v→∀y,(plus W y).cell? ⟨V.heap.size,o,none⟩=v)∧(∀o v,d[o]?=v→∀y,(plus W y).cell? ⟨V.heap.size+1,o,none⟩=v):=by
 obtain⟨W,hW,hB,hs,ca,cb,fa,fb⟩:=Vy V c d t u;exact⟨W,⟨#[],W.drawn⟩,by rw[ZK,hW],ZS hB,ca,cb⟩
def Yf(w:World)(r:Nat)(es:Array MapEntry):Prop:=∃n,w.heap[r]?=some (.map es n)
theorem Yf.lt{w:World}{r:Nat}{es:Array MapEntry}(h:Yf w r es):r<w.heap.size:=by
 obtain⟨n,h⟩:=h;exact (Array.getElem?_eq_some_iff.1 h).1
theorem Yf.plus{w:World}{r:Nat}{es:Array MapEntry}(h:Yf w r es)(x:ZA):Yf (plus w x) r es:=by
 have hl:=h.lt;obtain⟨n,h⟩:=h;exact⟨n,by simp[Go.Proofs.YtheaknidbcbneaaGreat.plus,Array.getElem?_append,hl];exact (Array.getElem?_eq_some_iff.1 h).2⟩
theorem Yf.alloc{w:World}{r:Nat}{es:Array MapEntry}(h:Yf w r es)(a:Obj):Yf (w.alloc a) r es:=by
 obtain⟨x,hx⟩:=ZW w a;rw[hx];exact h.plus x
def WA(z:Value)(i:Int):List MapEntry→Value × Bool
 | []=>(z,false)
 | e :: l=>match e.key with
  | .int .u8 b=>if i==b then (e.val,true) else WA z i l
  | _=>(z,false)
def SP(l:List MapEntry):Prop:=∀e∈l,∃b,e.key=.int .u8 b
theorem RP(z:Value)(i):∀(l:List MapEntry) (j:Nat),SP l→∃r,Instr.findNow (.int .u8) (.int .u8 i) l j=some r∧((∃a v,r=some (a,v)∧WA z i l=(v,true))∨(r=none∧WA z i l=(z,false)))
 | [],j,_=>⟨none,rfl,.inr ⟨rfl,rfl⟩⟩
 | e :: l,j,h=>by
  obtain⟨b,hb⟩:=h e (Zk);cases hib:(i==b) with
  | true=>exact⟨some (j,e.val),by simp[Instr.findNow,Instr.sameNow,hb,hib],.inl ⟨_,_,rfl,by simp[WA,hb,hib]⟩⟩
  | false =>
   obtain⟨r,h1,h2⟩:=RP z i l (j+1) (fun e he=>h e (List.mem_cons_of_mem _ he));refine⟨r,by simpa [Instr.findNow,Instr.sameNow,hb,hib]using h1,?_⟩;simpa [WA,hb,hib]using h2
theorem PR{P:Program}{w:World}{mt kt et:TypeId}{r:Nat}{es:Array MapEntry}{z:Value}(hm:P.underlying mt=some (.map kt et))(hk:P.underlying kt=some (.int .u8))(hz:(zeroValue et).run P w=.ok z w)(h:Yf w r es)(hu:SP es.toList)(i) :
  (Instr.lookup mt (.map (some r)) (.int .u8 i) true).run P w=.ok (.tuple #[(WA z i es.toList).1,.bool (WA z i es.toList).2]) w:=by
 obtain⟨n,hb⟩:=h;obtain⟨q,h1,h2⟩:=RP z i es.toList 0 hu;have hc:(Instr.checkKey es.isEmpty 10000 kt (.int .u8 i)).run P w=.ok () w:=MapKept.run_checkKey (k:=.int .u8 i) hk (by simp[MapKept.IsKey]) _ 9999;rcases h2 with⟨a,v,rfl,hg⟩|⟨rfl,hg⟩
 ·simp[Instr.lookup,run_underlying hm,MapKept.run_getObj_map hb,hc,MapKept.run_findKey hk h1,Result.andThen,hg]
 ·simp[Instr.lookup,run_underlying hm,MapKept.run_getObj_map hb,hc,MapKept.run_findKey hk h1,Result.andThen,hg,hz]
theorem Hs{α:Type}(a:Array α)(x y:α):(a.push x).setIfInBounds a.size y=a.push y:=by
 apply Array.ext_getElem?;intro i;rw[Array.getElem?_setIfInBounds,Array.getElem?_push,Array.getElem?_push];by_cases h:a.size=i
 ·subst h;simp
 ·rw[if_neg h,if_neg (fun e=>h e.symm),if_neg (fun e=>h e.symm)]
theorem Qw{P:Program}{mt kt et:TypeId}(hm:P.underlying mt=some (.map kt et))(hk:P.underlying kt=some (.int .u8))(V:World)(es:Array MapEntry)(n:Nat)(k)(v:Value)(hn:Instr.findNow (.int .u8) (.int .u8 k) es.toList 0=some none) :
  (Instr.mapUpdate mt (.map (some V.heap.size)) (.int .u8 k) v).run P (V.alloc (.map es n))=.ok () (V.alloc (.map (es.push ⟨.int .u8 k,v,n⟩) (n+1))):=by
 have hb:(V.alloc (.map es n)).heap[V.heap.size]?=some (.map es n):=by
  show (V.heap.push _)[V.heap.size]?=_
  simp
 have hc:(Instr.checkKey false 10000 kt (.int .u8 k)).run P (V.alloc (.map es n))=.ok () (V.alloc (.map es n)):=MapKept.run_checkKey (k:=.int .u8 k) hk (by simp[MapKept.IsKey]) false 9999;simp only[Instr.mapUpdate,Sem.run_bind,run_underlying hm,hc,MapKept.run_getObj_map hb,MapKept.run_findKey hk hn,MapKept.run_setObj_map _ hb,Result.andThen];refine congrArg (Result.ok ()) ?_;show ({ V with heap:=(V.heap.push _).setIfInBounds V.heap.size _ }:World)={ V with heap:=V.heap.push _ }
 congr 1
 exact Hs _ _ _
def UV(op:Int):Bool:=op==1
def Uf(op:Int):Bool:=op==10
def TC(op:Int):Int:=if op=2∨op=6 then 1 else 0
def TD(op:Int):Int:=if op=2∨op=3∨op=4 then 1 else 0
def Ue(op:Int):Int:=if 7≤op∧op≤10 then 1 else if 11≤op∧op≤26 then 2 else 0
def UW(op:Int):Bool:=op==14||op==15
def SQ(op:Int):Bool:=decide (1≤op∧op≤26)
def UX(op:Int):Value:=.agg #[.bool (UV op),.bool (Uf op),.int .u8 (TC op),.int .u8 (TD op),.int .i64 (Ue op),.bool (UW op)]
def Vl(n:Nat):Array MapEntry:=((List.range n).map fun (i:Nat)=>(⟨.int .u8 ((i:Int)+1),UX ((i:Int)+1),i⟩:MapEntry)).toArray
def wX(V:World)(n:Nat):World:=V.alloc (.map (Vl n) n)
def sV(k:Int):Bool:=k==2||k==3
def sM(k:Int):Bool:=k==3
def GP(k:Int):Value:=.agg #[.bool (sV k),.bool (sM k)]
def MU(n:Nat):Array MapEntry:=((List.range n).map fun (i:Nat)=>(⟨.int .u8 ((i:Int)+1),GP ((i:Int)+1),i⟩:MapEntry)).toArray
def O3(k:Int):Int:=if k=1 then 2 else if k=6∨k=7 then 1 else 0
def O4(k:Int):Int:=if k=1∨k=3 then 1 else 0
def O2(k:Int):Bool:=k==1||k==2||k==5
def O1(k:Int):Bool:=k==2
def G7(k:Int):Bool:=decide (1≤k∧k≤7)
def G8(k:Int):Value:=.agg #[.int .u8 (O3 k),.int .u8 (O4 k),.bool (O2 k),.bool (O1 k)]
def MV(n:Nat):Array MapEntry:=((List.range n).map fun (i:Nat)=>(⟨.int .u8 ((i:Int)+1),G8 ((i:Int)+1),i⟩:MapEntry)).toArray
theorem Xx(V:World)(n:Nat)(hn:Instr.findNow (.int .u8) (.int .u8 ((n:Int)+1)) (Vl n).toList 0=some none) :
  (Instr.mapUpdate 201 (.map (some V.heap.size)) (.int .u8 ((n:Int)+1)) (UX ((n:Int)+1))).run Zr (wX V n)=.ok () (wX V (n+1)):=by
 unfold wX;rw[Qw Tryz.underlying201 Tryz.underlying5 V _ n _ _ hn];simp[Vl,List.range_succ]
theorem M9(V:World):Calls Zr 133 #[] V fun e w'=>e=.returned (.map (some V.heap.size))∧w'=wX V 26:=by
 have u0:(Instr.makeMap 201 none).run Zr V=.ok (.map (some V.heap.size)) (wX V 0):=rfl;have v0:(Instr.mapUpdate 201 (.map (some V.heap.size)) (.int .u8 1) (.agg #[.bool true,.bool false,.int .u8 0,.int .u8 0,.int .i64 0,.bool false])).run Zr (wX V 0)=.ok () (wX V 1):=Xx V 0 rfl;have v1:(Instr.mapUpdate 201 (.map (some V.heap.size)) (.int .u8 2) (.agg #[.bool false,.bool false,.int .u8 1,.int .u8 1,.int .i64 0,.bool false])).run Zr (wX V 1)=.ok () (wX V 2):=Xx V 1 rfl;have v2:(Instr.mapUpdate 201 (.map (some V.heap.size)) (.int .u8 3) (.agg #[.bool false,.bool false,.int .u8 0,.int .u8 1,.int .i64 0,.bool false])).run Zr (wX V 2)=.ok () (wX V 3):=Xx V 2 rfl;have v3:(Instr.mapUpdate 201 (.map (some V.heap.size)) (.int .u8 4) (.agg #[.bool false,.bool false,.int .u8 0,.int .u8 1,.int .i64 0,.bool false])).run Zr (wX V 3)=.ok () (wX V 4):=Xx V 3 rfl;have v4:(Instr.mapUpdate 201 (.map (some V.heap.size)) (.int .u8 5) (.agg #[.bool false,.bool false,.int .u8 0,.int .u8 0,.int .i64 0,.bool false])).run Zr (wX V 4)=.ok () (wX V 5):=Xx V 4 rfl;have v5:(Instr.mapUpdate 201 (.map (some V.heap.size)) (.int .u8 6) (.agg #[.bool false,.bool false,.int .u8 1,.int .u8 0,.int .i64 0,.bool false])).run Zr (wX V 5)=.ok () (wX V 6):=Xx V 5 rfl;have v6:(Instr.mapUpdate 201 (.map (some V.heap.size)) (.int .u8 7) (.agg #[.bool false,.bool false,.int .u8 0,.int .u8 0,.int .i64 1,.bool false])).run Zr (wX V 6)=.ok () (wX V 7):=Xx V 6 rfl;have v7:(Instr.mapUpdate 201 (.map (some V.heap.size)) (.int .u8 8) (.agg #[.bool false,.bool false,.int .u8 0,.int .u8 0,.int .i64 1,.bool false])).run Zr (wX V 7)=.ok () (wX V 8):=Xx V 7 rfl;have v8:(Instr.mapUpdate 201 (.map (some V.heap.size)) (.int .u8 9) (.agg #[.bool false,.bool false,.int .u8 0,.int .u8 0,.int .i64 1,.bool false])).run Zr (wX V 8)=.ok () (wX V 9):=Xx V 8 rfl;have v9:(Instr.mapUpdate 201 (.map (some V.heap.size)) (.int .u8 10) (.agg #[.bool false,.bool true,.int .u8 0,.int .u8 0,.int .i64 1,.bool false])).run Zr (wX V 9)=.ok () (wX V 10):=Xx V 9 rfl;have v10:(Instr.mapUpdate 201 (.map (some V.heap.size)) (.int .u8 11) (.agg #[.bool false,.bool false,.int .u8 0,.int .u8 0,.int .i64 2,.bool false])).run Zr (wX V 10)=.ok () (wX V 11):=Xx V 10 rfl;have v11:(Instr.mapUpdate 201 (.map (some V.heap.size)) (.int .u8 12) (.agg #[.bool false,.bool false,.int .u8 0,.int .u8 0,.int .i64 2,.bool false])).run Zr (wX V 11)=.ok () (wX V 12):=Xx V 11 rfl;have v12:(Instr.mapUpdate 201 (.map (some V.heap.size)) (.int .u8 13) (.agg #[.bool false,.bool false,.int .u8 0,.int .u8 0,.int .i64 2,.bool false])).run Zr (wX V 12)=.ok () (wX V 13):=Xx V 12 rfl;have v13:(Instr.mapUpdate 201 (.map (some V.heap.size)) (.int .u8 14) (.agg #[.bool false,.bool false,.int .u8 0,.int .u8 0,.int .i64 2,.bool true])).run Zr (wX V 13)=.ok () (wX V 14):=Xx V 13 rfl
 have v14:(Instr.mapUpdate 201 (.map (some V.heap.size)) (.int .u8 15) (.agg #[.bool false,.bool false,.int .u8 0,.int .u8 0,.int .i64 2,.bool true])).run Zr (wX V 14)=.ok () (wX V 15):=Xx V 14 rfl;have v15:(Instr.mapUpdate 201 (.map (some V.heap.size)) (.int .u8 16) (.agg #[.bool false,.bool false,.int .u8 0,.int .u8 0,.int .i64 2,.bool false])).run Zr (wX V 15)=.ok () (wX V 16):=Xx V 15 rfl;have v16:(Instr.mapUpdate 201 (.map (some V.heap.size)) (.int .u8 17) (.agg #[.bool false,.bool false,.int .u8 0,.int .u8 0,.int .i64 2,.bool false])).run Zr (wX V 16)=.ok () (wX V 17):=Xx V 16 rfl;have v17:(Instr.mapUpdate 201 (.map (some V.heap.size)) (.int .u8 18) (.agg #[.bool false,.bool false,.int .u8 0,.int .u8 0,.int .i64 2,.bool false])).run Zr (wX V 17)=.ok () (wX V 18):=Xx V 17 rfl;have v18:(Instr.mapUpdate 201 (.map (some V.heap.size)) (.int .u8 19) (.agg #[.bool false,.bool false,.int .u8 0,.int .u8 0,.int .i64 2,.bool false])).run Zr (wX V 18)=.ok () (wX V 19):=Xx V 18 rfl;have v19:(Instr.mapUpdate 201 (.map (some V.heap.size)) (.int .u8 20) (.agg #[.bool false,.bool false,.int .u8 0,.int .u8 0,.int .i64 2,.bool false])).run Zr (wX V 19)=.ok () (wX V 20):=Xx V 19 rfl;have v20:(Instr.mapUpdate 201 (.map (some V.heap.size)) (.int .u8 21) (.agg #[.bool false,.bool false,.int .u8 0,.int .u8 0,.int .i64 2,.bool false])).run Zr (wX V 20)=.ok () (wX V 21):=Xx V 20 rfl;have v21:(Instr.mapUpdate 201 (.map (some V.heap.size)) (.int .u8 22) (.agg #[.bool false,.bool false,.int .u8 0,.int .u8 0,.int .i64 2,.bool false])).run Zr (wX V 21)=.ok () (wX V 22):=Xx V 21 rfl;have v22:(Instr.mapUpdate 201 (.map (some V.heap.size)) (.int .u8 23) (.agg #[.bool false,.bool false,.int .u8 0,.int .u8 0,.int .i64 2,.bool false])).run Zr (wX V 22)=.ok () (wX V 23):=Xx V 22 rfl;have v23:(Instr.mapUpdate 201 (.map (some V.heap.size)) (.int .u8 24) (.agg #[.bool false,.bool false,.int .u8 0,.int .u8 0,.int .i64 2,.bool false])).run Zr (wX V 23)=.ok () (wX V 24):=Xx V 23 rfl;have v24:(Instr.mapUpdate 201 (.map (some V.heap.size)) (.int .u8 25) (.agg #[.bool false,.bool false,.int .u8 0,.int .u8 0,.int .i64 2,.bool false])).run Zr (wX V 24)=.ok () (wX V 25):=Xx V 24 rfl;have v25:(Instr.mapUpdate 201 (.map (some V.heap.size)) (.int .u8 26) (.agg #[.bool false,.bool false,.int .u8 0,.int .u8 0,.int .i64 2,.bool false])).run Zr (wX V 25)=.ok () (wX V 26):=Xx V 25 rfl;go_enter func133,ntmps133;go_wp2;refine wp_loop_rounds 17 ?_;iterate 17 (rw[rounds_succ];go_wp2)
 go_ret;exact⟨rfl,rfl⟩
def Tn(op:Int):Value:=.agg #[.int .i64 (Xi op),.bool (lA op),.bool (lB op),.bool (lV op)]
def X9(n:Nat):Array MapEntry:=((List.range n).map fun (i:Nat)=>(⟨.int .u8 ((i:Int)+1),Tn ((i:Int)+1),i⟩:MapEntry)).toArray
def wL(V:World)(n:Nat):World:=V.alloc (.map (X9 n) n)
theorem Wi(V:World)(n:Nat)(hn:Instr.findNow (.int .u8) (.int .u8 ((n:Int)+1)) (X9 n).toList 0=some none) :
  (Instr.mapUpdate 80 (.map (some V.heap.size)) (.int .u8 ((n:Int)+1)) (Tn ((n:Int)+1))).run Zr (wL V n)=.ok () (wL V (n+1)):=by
 unfold wL;rw[Qw Tryz.underlying80 Tryz.underlying5 V _ n _ _ hn];simp[X9,List.range_succ]
structure F4 (V W:World) (b:Nat) (t:Int) (x y z:Bool):Prop where
 lt:b<W.heap.size
 c0:W.cell? ⟨b,0,none⟩=some (.int .i64 t)
 c1:W.cell? ⟨b,1,none⟩=some (.bool x)
 c2:W.cell? ⟨b,2,none⟩=some (.bool y)
 c3:W.cell? ⟨b,3,none⟩=some (.bool z)
theorem F4.plus{V W:World}{b:Nat}{t:Int}{x y z:Bool}(h:F4 V W b t x y z)(u:ZA):F4 V (plus W u) b t x y z :=
 ⟨Nat.lt_of_lt_of_le h.lt (Tu _ u),ZC h.c0 u,ZC h.c1 u,ZC h.c2 u,ZC h.c3 u⟩
theorem F4.alloc{V W:World}{b:Nat}{t:Int}{x y z:Bool}(h:F4 V W b t x y z)(o:Obj):F4 V (W.alloc o) b t x y z :=
 ⟨by simpa using Nat.lt_succ_of_lt h.lt,ZL h.c0 o,ZL h.c1 o,ZL h.c2 o,ZL h.c3 o⟩
theorem MW(V W:World)(t x y z):F4 V (W.alloc (.cells #[.int .i64 t,.bool x,.bool y,.bool z] 111)) W.heap.size t x y z :=
 ⟨by simp,Z4 W _ _ _ 0 rfl,Z4 W _ _ _ 1 rfl,Z4 W _ _ _ 2 rfl,Z4 W _ _ _ 3 rfl⟩
theorem Sv(V W:World){i:Nat}(h:W.heap.size=i)(t x y z):F4 V (W.alloc (.cells #[.int .i64 t,.bool x,.bool y,.bool z] 111)) i t x y z:=h▸MW V W t x y z
theorem Px(W:World)(o:Obj):(W.alloc o).heap[W.heap.size]?=some o:=by
 show (W.heap.push o)[W.heap.size]?=_
 simp
theorem KD{W:World}{y:ZA}(o:Obj):∃x,(plus W y).alloc o=plus W x:=by
 obtain⟨x,h⟩:=ZS ((Z9 W y).alloc (Tu W y) o);exact⟨x,h⟩
theorem M8(V:World):Calls Zr 38 #[] V fun e w'=>∃r,e=.returned (.map (some r))∧Yf w' r (X9 20)∧∃z,w'=plus V z:=by
 go_enter func38,ntmps38;go_upto_region 4 with (fail)
 obtain⟨W,hW,fs⟩:∃W,(((((V.alloc (.cells #[.int .i64 0,.bool false,.bool false,.bool false] 111)).alloc (.cells #[.int .i64 0,.bool true,.bool false,.bool false] 111)).alloc (.cells #[.int .i64 1,.bool false,.bool false,.bool false] 111)).alloc (.cells #[.int .i64 2,.bool false,.bool false,.bool false] 111)).alloc (.cells #[.int .i64 1,.bool true,.bool false,.bool false] 111))=W∧(∃z,W=plus V z)∧F4 V W (V.heap.size) 0 false false false∧F4 V W (V.heap.size+1) 0 true false false∧F4 V W (V.heap.size+1+1) 1 false false false∧F4 V W (V.heap.size+1+1+1) 2 false false false∧F4 V W (V.heap.size+1+1+1+1) 1 true false false:=by
  refine⟨_,rfl,?_,?_⟩
  ·obtain⟨z,h⟩:=ZS (((((((Zc V.heap.size V).alloc (Zp _) _).alloc (by simp) _).alloc (by simp;omega) _).alloc (by simp;omega) _).alloc (by simp;omega) _))
   exact⟨z,h⟩
  ·exact⟨F4.alloc (F4.alloc (F4.alloc (F4.alloc (Sv V _ (by simp) 0 false false false) _) _) _) _,F4.alloc (F4.alloc (F4.alloc (Sv V _ (by simp) 0 true false false) _) _) _,F4.alloc (F4.alloc (Sv V _ (by simp) 1 false false false) _) _,F4.alloc (Sv V _ (by simp) 2 false false false) _,Sv V _ (by simp) 1 true false false⟩
 rw[hW];obtain⟨hz,f0,f1,f2,f3,f4⟩:=fs;clear hW;have g00:∀k,(wL W k).cell? ⟨V.heap.size,0,none⟩=some (.int .i64 0):=fun k=>ZL f0.c0 _;have g01:∀k,(wL W k).cell? ⟨V.heap.size,1,none⟩=some (.bool false):=fun k=>ZL f0.c1 _;have g02:∀k,(wL W k).cell? ⟨V.heap.size,2,none⟩=some (.bool false):=fun k=>ZL f0.c2 _;have g03:∀k,(wL W k).cell? ⟨V.heap.size,3,none⟩=some (.bool false):=fun k=>ZL f0.c3 _;have g10:∀k,(wL W k).cell? ⟨V.heap.size+1,0,none⟩=some (.int .i64 0):=fun k=>ZL f1.c0 _;have g11:∀k,(wL W k).cell? ⟨V.heap.size+1,1,none⟩=some (.bool true):=fun k=>ZL f1.c1 _;have g12:∀k,(wL W k).cell? ⟨V.heap.size+1,2,none⟩=some (.bool false):=fun k=>ZL f1.c2 _;have g13:∀k,(wL W k).cell? ⟨V.heap.size+1,3,none⟩=some (.bool false):=fun k=>ZL f1.c3 _;have g20:∀k,(wL W k).cell? ⟨V.heap.size+1+1,0,none⟩=some (.int .i64 1):=fun k=>ZL f2.c0 _;have g21:∀k,(wL W k).cell? ⟨V.heap.size+1+1,1,none⟩=some (.bool false):=fun k=>ZL f2.c1 _;have g22:∀k,(wL W k).cell? ⟨V.heap.size+1+1,2,none⟩=some (.bool false):=fun k=>ZL f2.c2 _;have g23:∀k,(wL W k).cell? ⟨V.heap.size+1+1,3,none⟩=some (.bool false):=fun k=>ZL f2.c3 _;have g30:∀k,(wL W k).cell? ⟨V.heap.size+1+1+1,0,none⟩=some (.int .i64 2):=fun k=>ZL f3.c0 _;have g31:∀k,(wL W k).cell? ⟨V.heap.size+1+1+1,1,none⟩=some (.bool false):=fun k=>ZL f3.c1 _;have g32:∀k,(wL W k).cell? ⟨V.heap.size+1+1+1,2,none⟩=some (.bool false):=fun k=>ZL f3.c2 _;have g33:∀k,(wL W k).cell? ⟨V.heap.size+1+1+1,3,none⟩=some (.bool false):=fun k=>ZL f3.c3 _;have g40:∀k,(wL W k).cell? ⟨V.heap.size+1+1+1+1,0,none⟩=some (.int .i64 1):=fun k=>ZL f4.c0 _;have g41:∀k,(wL W k).cell? ⟨V.heap.size+1+1+1+1,1,none⟩=some (.bool true):=fun k=>ZL f4.c1 _;have g42:∀k,(wL W k).cell? ⟨V.heap.size+1+1+1+1,2,none⟩=some (.bool false):=fun k=>ZL f4.c2 _;have g43:∀k,(wL W k).cell? ⟨V.heap.size+1+1+1+1,3,none⟩=some (.bool false):=fun k=>ZL f4.c3 _;clear f0 f1 f2 f3 f4;have u0:(Instr.makeMap 80 none).run Zr W=.ok (.map (some W.heap.size)) (wL W 0):=rfl;have v0:(Instr.mapUpdate 80 (.map (some W.heap.size)) (.int .u8 1) (.agg #[.int .i64 0,.bool false,.bool false,.bool true])).run Zr (wL W 0)=.ok () (wL W 1):=Wi W 0 rfl;have v1:(Instr.mapUpdate 80 (.map (some W.heap.size)) (.int .u8 2) (.agg #[.int .i64 0,.bool true,.bool true,.bool false])).run Zr (wL W 1)=.ok () (wL W 2):=Wi W 1 rfl;have v2:(Instr.mapUpdate 80 (.map (some W.heap.size)) (.int .u8 3) (.agg #[.int .i64 0,.bool true,.bool false,.bool false])).run Zr (wL W 2)=.ok () (wL W 3):=Wi W 2 rfl;have v3:(Instr.mapUpdate 80 (.map (some W.heap.size)) (.int .u8 4) (.agg #[.int .i64 0,.bool true,.bool false,.bool false])).run Zr (wL W 3)=.ok () (wL W 4):=Wi W 3 rfl;have v4:(Instr.mapUpdate 80 (.map (some W.heap.size)) (.int .u8 5) (.agg #[.int .i64 0,.bool false,.bool false,.bool false])).run Zr (wL W 4)=.ok () (wL W 5):=Wi W 4 rfl;have v5:(Instr.mapUpdate 80 (.map (some W.heap.size)) (.int .u8 6) (.agg #[.int .i64 0,.bool true,.bool false,.bool false])).run Zr (wL W 5)=.ok () (wL W 6):=Wi W 5 rfl
 have v6:(Instr.mapUpdate 80 (.map (some W.heap.size)) (.int .u8 7) (.agg #[.int .i64 1,.bool false,.bool false,.bool false])).run Zr (wL W 6)=.ok () (wL W 7):=Wi W 6 rfl;have v7:(Instr.mapUpdate 80 (.map (some W.heap.size)) (.int .u8 8) (.agg #[.int .i64 1,.bool false,.bool false,.bool false])).run Zr (wL W 7)=.ok () (wL W 8):=Wi W 7 rfl;have v8:(Instr.mapUpdate 80 (.map (some W.heap.size)) (.int .u8 9) (.agg #[.int .i64 1,.bool true,.bool true,.bool false])).run Zr (wL W 8)=.ok () (wL W 9):=Wi W 8 rfl;have v9:(Instr.mapUpdate 80 (.map (some W.heap.size)) (.int .u8 10) (.agg #[.int .i64 2,.bool false,.bool false,.bool false])).run Zr (wL W 9)=.ok () (wL W 10):=Wi W 9 rfl;have v10:(Instr.mapUpdate 80 (.map (some W.heap.size)) (.int .u8 11) (.agg #[.int .i64 2,.bool false,.bool false,.bool false])).run Zr (wL W 10)=.ok () (wL W 11):=Wi W 10 rfl;have v11:(Instr.mapUpdate 80 (.map (some W.heap.size)) (.int .u8 12) (.agg #[.int .i64 2,.bool false,.bool false,.bool false])).run Zr (wL W 11)=.ok () (wL W 12):=Wi W 11 rfl;have v12:(Instr.mapUpdate 80 (.map (some W.heap.size)) (.int .u8 13) (.agg #[.int .i64 1,.bool true,.bool false,.bool false])).run Zr (wL W 12)=.ok () (wL W 13):=Wi W 12 rfl;have v13:(Instr.mapUpdate 80 (.map (some W.heap.size)) (.int .u8 14) (.agg #[.int .i64 1,.bool true,.bool false,.bool false])).run Zr (wL W 13)=.ok () (wL W 14):=Wi W 13 rfl;have v14:(Instr.mapUpdate 80 (.map (some W.heap.size)) (.int .u8 15) (.agg #[.int .i64 2,.bool false,.bool false,.bool false])).run Zr (wL W 14)=.ok () (wL W 15):=Wi W 14 rfl;have v15:(Instr.mapUpdate 80 (.map (some W.heap.size)) (.int .u8 16) (.agg #[.int .i64 2,.bool false,.bool false,.bool false])).run Zr (wL W 15)=.ok () (wL W 16):=Wi W 15 rfl;have v16:(Instr.mapUpdate 80 (.map (some W.heap.size)) (.int .u8 17) (.agg #[.int .i64 2,.bool false,.bool false,.bool false])).run Zr (wL W 16)=.ok () (wL W 17):=Wi W 16 rfl;have v17:(Instr.mapUpdate 80 (.map (some W.heap.size)) (.int .u8 18) (.agg #[.int .i64 2,.bool false,.bool false,.bool false])).run Zr (wL W 17)=.ok () (wL W 18):=Wi W 17 rfl;have v18:(Instr.mapUpdate 80 (.map (some W.heap.size)) (.int .u8 19) (.agg #[.int .i64 2,.bool false,.bool false,.bool false])).run Zr (wL W 18)=.ok () (wL W 19):=Wi W 18 rfl;have v19:(Instr.mapUpdate 80 (.map (some W.heap.size)) (.int .u8 20) (.agg #[.int .i64 2,.bool false,.bool false,.bool false])).run Zr (wL W 19)=.ok () (wL W 20):=Wi W 19 rfl;go_wp2;go_ret;obtain⟨z,rfl⟩:=hz;exact⟨_,rfl,⟨20,Px _ _⟩,KD _⟩
end Go.Proofs.YtheaknidbcbneaaGreat
