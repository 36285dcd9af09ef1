/-
  WHAT IS PROVED HERE: a part of the proof (made narrower and merged by program; the parts: Eg Db Dg Dh).
-/
import Derived.Test.YtknmeggfokpbjaaGreatM27
import Derived.Test.YtknmeggfokpbjaaGreatM19
import Derived.Test.YtknmeggfokpbjaaGreatM26
import Derived.Test.YtknmeggfokpbjaaGreatM12
import Derived.Test.YtknmeggfokpbjaaGreatM11
import Derived.Test.YtknmeggfokpbjaaGreatM18
set_option maxRecDepth 100000
set_option maxHeartbeats 8000000
set_option linter.all false
namespace Go.Proofs.YtknmeggfokpbjaaGreat
open Z
open Go.RowKit Go.Proofs.Tryz
open Below renaming refl→Zb
open Lib renaming hid→Zf
open List renaming drop_succ_cons→Zg,drop_zero→Zh,length_cons→Zk,map_cons→Zm,take_succ_cons→Zs
open Nat renaming le_refl→Zt
open Go.Proofs.Tryz renaming prog→Zx
open Value renaming int→Zz
open Go.RowKit Go.Shelf
theorem KP{w:World}{o:Obj}{i:Nat}(h:i=w.heap.size):(w.alloc o).heap[i]?=some o:=by
 subst h;show (w.heap.push o)[w.heap.size]?=_
 simp
theorem Bw{w:World}{o x:Obj}{i:Nat}(h:w.heap[i]?=some x):(w.alloc o).heap[i]?=some x:=by
 show (w.heap.push o)[i]?=_
 have:=(Array.getElem?_eq_some_iff.1 h).1;rw[Array.getElem?_push,if_neg asB];exact h
theorem kQ{w:World}{x:Obj}{i:Nat}(h:w.heap[i]?=some x):w.drew.heap[i]?=some x:=h
theorem Bz{w:World}{x:Obj}{i:Nat}{y:ZH}(h:w.heap[i]?=some x):(plus w y).heap[i]?=some x:=UN h y
theorem Ov.plus{W U:World}{y:ZH}(h:Ov W U):Ov W (Go.Proofs.YtknmeggfokpbjaaGreat.plus U y):=aug
def Ss(W:World)(b:Nat):Prop:=W.heap[b]?=some (.cells #[.int .i64 0,.bool false,.bool false] 75)
theorem Kz(W:World):Ss (W.alloc (.cells #[.int .i64 0,.bool false,.bool false] 75)) W.heap.size:=KP rfl
theorem Kx(W:World)(o:Obj)(b:Nat)(h:Ss W b):Ss (W.alloc o) b:=Bw h
theorem MU(W:World)(x:ZH)(b:Nat)(h:Ss W b):Ss (plus W x) b:=Bz h
theorem Ky(W:World)(b:Nat)(h:Ss W b):Ss W.drew b:=h
theorem Np(W:World)(b j:Nat)(h:Ss W b):W.frozen? ⟨b,j,none⟩=false:=frozen_of_row W b j _ _ h
theorem Ct(W:World)(b:Nat)(h:Ss W b):W.cell? ⟨b,0,none⟩=some (.int .i64 0):=YX h rfl
theorem Cu(W:World)(b:Nat)(h:Ss W b):W.cell? ⟨b,1,none⟩=some (.bool false):=YX h rfl
theorem Cv(W:World)(b:Nat)(h:Ss W b):W.cell? ⟨b,2,none⟩=some (.bool false):=YX h rfl
structure BF (w:World) (b:Nat):Prop where
 c0:w.cell? ⟨b,0,none⟩=some (.int .i64 0)
 c1:w.cell? ⟨b,1,none⟩=some (.bool false)
 c2:w.cell? ⟨b,2,none⟩=some (.bool false)
 f0:w.frozen? ⟨b,0,none⟩=false
 f1:w.frozen? ⟨b,1,none⟩=false
 f2:w.frozen? ⟨b,2,none⟩=false
 d0:w.drew.cell? ⟨b,0,none⟩=some (.int .i64 0)
 d1:w.drew.cell? ⟨b,1,none⟩=some (.bool false)
 d2:w.drew.cell? ⟨b,2,none⟩=some (.bool false)
 e0:w.drew.frozen? ⟨b,0,none⟩=false
 e1:w.drew.frozen? ⟨b,1,none⟩=false
 e2:w.drew.frozen? ⟨b,2,none⟩=false
theorem np{w:World}{b:Nat}(h:Ss w b):BF w b:=⟨Ct w b h,Cu w b h,Cv w b h,Np w b 0 h,Np w b 1 h,Np w b 2 h,Ct w.drew b h,Cu w.drew b h,Cv w.drew b h,Np w.drew b 0 h,Np w.drew b 1 h,Np w.drew b 2 h⟩
theorem KG{P:Program}{V:World}{f:FuncId}{args:Array Value}{v:Value}(h:Calls P f args V fun e w'=>e=.returned v∧∃x,w'=plus V x):Calls P f args V fun e w'=>e=.returned v∧∃x,w'=plus V x∧∀b,Ss V b→BF (plus V x) b:=h.mono fun _ _ ⟨h1,x,h2⟩=>⟨h1,x,h2,fun b hb=>np (MU _ x b hb)⟩
theorem HJ{P:Program}{V:World}{f:FuncId}{args:Array Value}{v:Value}(h:Kp P V f args v):Calls P f args V fun e w'=>e=.returned v∧∃x,w'=plus V x:=by
 exact Cb
def K8(V W:World)(b:Nat)(wx:World):Prop:=(wx.cell? ⟨b,0,none⟩=some (.int .i64 9)∧wx.cell? ⟨b,1,none⟩=some (.bool false)∧wx.cell? ⟨b,2,none⟩=some (.bool false))∧wx.cell? ⟨V.heap.size,0,none⟩=some (.int .u8 5)∧wx.cell? ⟨V.heap.size,1,none⟩=some (.int .i64 0)∧wx.cell? ⟨V.heap.size,2,none⟩=some (.int .u64 0)∧wx.cell? ⟨V.heap.size,3,none⟩=some (.int .u64 0)∧wx.cell? ⟨V.heap.size,4,none⟩=some (.string ⟨#[]⟩)∧wx.cell? ⟨V.heap.size,5,none⟩=some (.string ⟨#[]⟩)∧wx.cell? ⟨V.heap.size,6,none⟩=some (.int .i64 0)∧wx.cell? ⟨V.heap.size,7,none⟩=some (.int .i64 0)∧wx.cell? ⟨V.heap.size,8,none⟩=some (.slice none 0 0)∧Ov W wx
theorem K8.go{V W wx wz:World}{b:Nat}(h:K8 V W b wx)(g:Below wx.heap.size wx wz):K8 V W b wz:=by
 obtain⟨⟨Ym,ZL,ZT⟩,c0,c1,c2,c3,c4,c5,c6,c7,c8,hO⟩:=h;have cc:∀a v,wx.cell? a=some v→wz.cell? a=some v:=fun a v e=>(g.cell (KA e)).trans e;obtain⟨y,rfl⟩:=Yy g;exact⟨⟨cc _ _ Ym,cc _ _ ZL,cc _ _ ZT⟩,cc _ _ c0,cc _ _ c1,cc _ _ c2,cc _ _ c3,cc _ _ c4,cc _ _ c5,cc _ _ c6,cc _ _ c7,cc _ _ c8,hO.plus⟩
theorem nl(U:World)(y1 y2:ZH)(A:Obj)(y3:ZH)(B:Obj):Below U.heap.size U ((plus ((plus (plus U y1) y2).alloc A) y3).alloc B):=by
 have h1:=Xl U y1;have h2:=h1.trans ((Xl (plus U y1) y2).mono h1.size);have h3:=h2.alloc h2.size A;have h4:=h3.trans ((Xl ((plus (plus U y1) y2).alloc A) y3).mono h3.size);exact h4.alloc h4.size B
theorem nn(U:World)(A:Obj)(y3:ZH)(B:Obj):Below U.heap.size U ((plus (U.alloc A) y3).alloc B):=by
 have h3:=(Zb U.heap.size U).alloc (Zt _) A;have h4:=h3.trans ((Xl (U.alloc A) y3).mono h3.size);exact h4.alloc h4.size B
theorem bJ{U:World}{b:Nat}(h0:U.cell? ⟨b,0,none⟩=some (.int .i64 0))(h1:U.cell? ⟨b,1,none⟩=some (.bool false))(h2:U.cell? ⟨b,2,none⟩=some (.bool false)) :
  (((U.setCell ⟨b,0,none⟩ (.int .i64 9)).setCell ⟨b,1,none⟩ (.bool false)).setCell ⟨b,2,none⟩ (.bool false)).cell? ⟨b,0,none⟩=some (.int .i64 9)∧(((U.setCell ⟨b,0,none⟩ (.int .i64 9)).setCell ⟨b,1,none⟩ (.bool false)).setCell ⟨b,2,none⟩ (.bool false)).cell? ⟨b,1,none⟩=some (.bool false)∧(((U.setCell ⟨b,0,none⟩ (.int .i64 9)).setCell ⟨b,1,none⟩ (.bool false)).setCell ⟨b,2,none⟩ (.bool false)).cell? ⟨b,2,none⟩=some (.bool false):=by
 simp[World.cell?_setCell_far,go_sem,h0,h1,h2]
theorem Ov.set{W U:World}(h:Ov W U)(a:Addr)(v:Value)(ha:W.heap.size≤a.block):Ov W (U.setCell a v):=by
 exact tE
theorem jM(V:World):Calls Zx 6 #[] V fun e w'=>e=.returned (.bool true)∧∃x,w'=plus V x:=by
 go_enter func6,ntmps6;go_upto_region 3 with (fail)
 obtain⟨W,hW,hB,hs,ca,fa⟩:=WS V _ 45;rw[←hW];have ca0:=ca 0 _ rfl ⟨#[],W.drawn⟩;have ca1:=ca 1 _ rfl ⟨#[],W.drawn⟩;have ca2:=ca 2 _ rfl ⟨#[],W.drawn⟩;have ca3:=ca 3 _ rfl ⟨#[],W.drawn⟩;have ca4:=ca 4 _ rfl ⟨#[],W.drawn⟩;have ca5:=ca 5 _ rfl ⟨#[],W.drawn⟩;have ca6:=ca 6 _ rfl ⟨#[],W.drawn⟩;have ca7:=ca 7 _ rfl ⟨#[],W.drawn⟩;have ca8:=ca 8 _ rfl ⟨#[],W.drawn⟩;rw[Yk]at ca0 ca1 ca2 ca3 ca4 ca5 ca6 ca7 ca8;have XI:=Zf hB;clear hW ca fa hB hs;go_cut [3,4] from 10 to 19 (fun s3 s4 wx=>∃b:Nat,s3=.pointer (some ⟨b,0,none⟩)∧s4=.int .i64 0∧K8 V W b wx)
 case first =>
  have hS:∀U,Ov W U→(U.cell? ⟨V.heap.size,0,none⟩=some (.int .u8 5)∧U.cell? ⟨V.heap.size,1,none⟩=some (.int .i64 0)∧U.cell? ⟨V.heap.size,2,none⟩=some (.int .u64 0)∧U.cell? ⟨V.heap.size,3,none⟩=some (.int .u64 0)∧U.cell? ⟨V.heap.size,4,none⟩=some (.string ⟨#[]⟩)∧U.cell? ⟨V.heap.size,5,none⟩=some (.string ⟨#[]⟩)∧U.cell? ⟨V.heap.size,6,none⟩=some (.int .i64 0)∧U.cell? ⟨V.heap.size,7,none⟩=some (.int .i64 0)∧U.cell? ⟨V.heap.size,8,none⟩=some (.slice none 0 0)∧Ov W U):=fun U hU=>by
   obtain⟨z,rfl⟩:=id hU;exact⟨ZS ca0 z,ZS ca1 z,ZS ca2 z,ZS ca3 z,ZS ca4 z,ZS ca5 z,ZS ca6 z,ZS ca7 z,ZS ca8 z,hU⟩
  have Vn:=Zf hS;have UL:Ov W W:=⟨⟨#[],W.drawn⟩,(Yk W).symm⟩;have Y8:=Zf UL;clear hS UL ca0 ca1 ca2 ca3 ca4 ca5 ca6 ca7 ca8;have HL:=Zf Ff;have HA:=Zf jl;go_region_held3 (fun U=>U.cell? ⟨V.heap.size,0,none⟩=some (.int .u8 5)∧U.cell? ⟨V.heap.size,1,none⟩=some (.int .i64 0)∧U.cell? ⟨V.heap.size,2,none⟩=some (.int .u64 0)∧U.cell? ⟨V.heap.size,3,none⟩=some (.int .u64 0)∧U.cell? ⟨V.heap.size,4,none⟩=some (.string ⟨#[]⟩)∧U.cell? ⟨V.heap.size,5,none⟩=some (.string ⟨#[]⟩)∧U.cell? ⟨V.heap.size,6,none⟩=some (.int .i64 0)∧U.cell? ⟨V.heap.size,7,none⟩=some (.int .i64 0)∧U.cell? ⟨V.heap.size,8,none⟩=some (.slice none 0 0)∧Ov W U) (exact Vn.out _ (by repeat (first|exact Y8.out|assumption|apply Ov.drew|apply Ov.alloc|apply Ov.plus|refine Ov.set ?_ _ _ ?_|exact Zt _|exact XZ W.drew _|exact Nat.le_trans (XZ W.drew _) (Nat.le_succ _)))) (first|(go_at_call 15;refine (HJ (HL.out _ _)).mono ?_;rintro e w' ⟨rfl,x,rfl⟩)|(go_at_call 16;refine (KG (HA.out _ _ (by repeat (first|((with_reducible apply KP);simp;done)|(with_reducible apply Bw)|(with_reducible apply Bz)|(with_reducible apply kQ))))).mono ?_;rintro e w' ⟨rfl,x,rfl,hk⟩;first|(obtain⟨t0,t1,t2,t3,t4,t5,t6,t7,t8,t9,ta,tb⟩:=hk _ atQ;clear hk;try simp only[World.size_alloc]at t0 t1 t2 t3 t4 t5 t6 t7 t8 t9 ta tb)|skip));all_goals
   go_wp2_with fail;go_meet;refine⟨_,rfl,rfl,?_,asF⟩;first|exact bJ asF asF asF|exact⟨(YI _ _ _ _ _ rfl).trans rfl,(YI _ _ _ _ _ rfl).trans rfl,(YI _ _ _ _ _ rfl).trans rfl⟩
 case rest =>
  obtain⟨b,rfl,rfl,hK⟩:=hcut;have hK':=Zf hK;clear hK ca0 ca1 ca2 ca3 ca4 ca5 ca6 ca7 ca8;go_upto_region 4 with (fail)
  go_cut [5,6] from 20 to 30 (fun s5 s6 wz=>s6=.int .i64 10∧K8 V W b wz)
  case first =>
   go_wp2_with fail;refine (HJ (Ff 1 _)).mono ?_;rintro e w' ⟨rfl,y1,rfl⟩;go_wp2_with fail;refine (HJ (Ff 2 _)).mono ?_;rintro e w' ⟨rfl,y2,rfl⟩;go_wp2_with fail;obtain⟨w1,t1,f1,q⟩:=jn _ _ (KP rfl);refine q.mono ?_;rintro e w' ⟨rfl,y3,rfl⟩;go_wp2_with fail;go_meet;exact⟨rfl,hK'.out.go (nl _ _ _ _ _ _)⟩
  case rest =>
   obtain⟨rfl,hK2⟩:=hcut;clear hK';have hK3:=Zf hK2;obtain⟨-,c0,c1,c2,c3,c4,c5,c6,c7,c8,-⟩:=hK2;go_upto_region 5 with (fail)
   go_cut [7,8] from 31 to 38 (fun s7 s8 wz=>s8=.int .i64 9∧K8 V W b wz)
   case first =>
    go_wp2_with fail;obtain⟨w1,t1,f1,q⟩:=jm _ _ (KP rfl);refine q.mono ?_;rintro e w' ⟨rfl,y3,rfl⟩;go_wp2_with fail;go_meet;exact⟨rfl,hK3.out.go (nn _ _ _ _)⟩
   case rest =>
    obtain⟨rfl,hK4⟩:=hcut;obtain⟨⟨Ym,ZL,ZT⟩,-,-,-,-,-,-,-,-,-,hO⟩:=hK4;have hO':=Zf hO;clear hO c0 c1 c2 c3 c4 c5 c6 c7 c8 hK3;go_wp2_with fail;go_ret;obtain⟨z,rfl⟩:=hO'.out;exact⟨rfl,Yy (XI.out.trans ((Xl W z).mono XI.out.size))⟩
theorem Kv(p:Pr)(act:Int):∀e:Ex,e.bare.ty p act=e.ty p act∧e.bare.free=e.free:=fun e=>Ex.ind (Q:=fun e=>e.bare.ty p act=e.ty p act∧e.bare.free=e.free) (fun e ih=>by
 constructor
 ·rw[Ex.ty_eq,Ex.ty_eq p act e,Ex.bare_eq]
  simp only[Ex.op,Ex.lit,Ex.head,Ex.name,Ex.hi,Ex.lo,Ex.args,List.map_map];congr 1
  refine List.map_congr_left fun x hx=>?_;simp only[Function.comp];rw[(ih x hx).1,(ih x hx).2]
 ·have key:Ex.frees (e.args.map Ex.bare)=Ex.frees e.args:=by
   cases hl:e.args with
   | nil=>rfl
   | cons x l=>rw[Zm,Ex.frees,Ex.frees,(ih x as1).2]
  rw[Ex.free_eq,Ex.free_eq e,Ex.bare_eq];show (if e.op=1 then e.lit.n else Ex.frees (e.args.map Ex.bare))=_
  rw[key]) e
theorem j0{e f:Ex}(h:e.bare=f.bare)(p:Pr)(act:Int):e.ty p act=f.ty p act:=by
 rw[←(Kv p act e).1,←(Kv p act f).1,h]
theorem jX{e f:Ex}(h:e.bare=f.bare)(p:Pr):e.free=f.free:=by
 rw[←(Kv p 0 e).2,←(Kv p 0 f).2,h]
def V7:List Int→Int
 | []=>0
 | x :: l=>if x=0 then V7 l else x
theorem P0:∀(l:List Int),(∀(k:Nat) (x:Int),l[k]?=some x→x=0)→V7 l=0
 | [],_=>rfl
 | x :: l,h=>by
  rw[V7,if_pos (h 0 x rfl)];exact P0 l fun k y hy=>h (k+1) y ats
theorem Qk:∀(l:List Int) (k:Nat) (x:Int),l[k]?=some x→(∀(j:Nat) (y:Int),j<k→l[j]?=some y→y=0)→x≠0→V7 l=x
 | [],k,x,h,_,_=>by simp at h
 | y :: l,0,x,h,_,hx=>by
  obtain rfl:y=x:=asN;rw[V7,if_neg hx]
 | y :: l,k+1,x,h,hj,hx=>by
  rw[V7,if_pos (hj 0 y (Nat.succ_pos k) rfl)];exact Qk l k x asN (fun j z ZC hz=>hj (j+1) z (Nat.succ_lt_succ ZC) (by simpa using hz)) hx
def Wg(t:Lt)(w:Int):Int:=if t.w=0 then (if WI t.n w then 0 else 5) else if t.w=w then 0 else 10
def VA(p:Pr)(e:Ex):Int:=if (e.ty p (-1)).1=0 then Yz (e.ty p (-1)).2 else (e.ty p (-1)).1
def UW(p:Pr)(e:Ex):Int:=(e.ty p (-1)).2.w
def Lz(p:Pr)(s:Sa):Int:=V7 (s.keys.l.map (VA p))
def TW:List Se→List Int→List Int
 | x :: l,w :: ws=>(if Wg x.v w=0 then Wg x.m w else Wg x.v w) :: TW l ws
 | _,_=>[]
def Ns(p:Pr)(s:Sa)(c:Ca):Int:=V7 (TW c.sets.l (s.keys.l.map (UW p)))
def Fc(p:Pr)(t:Ta)(b:Nat):Int:=match t.keys.l[b]? with
 | some k=>if VA p k.e=0 then (if k.kind=2 then (if (t.keys.l.take b).all fun y=>decide (y.kind≠2) then 0 else 8) else 0) else VA p k.e
 | none=>0
def Ts:List Lt→List Fd→List Int
 | x :: l,f :: ws=>Wg x f.w :: Ts l ws
 | _,_=>[]
def HR(p:Pr)(t:Ta):Int:=match p.actions.l[(XD p.actions.l t.dflt.name).toNat]? with
 | some a=>V7 (Ts t.dflt.args.l a.params.l)
 | none=>0
def R6(p:Pr)(s:St):Int:=if s.head.toList=[] then TE p.metas.l (Xv p.metas.l s.name) else TM p (YF p.headers.l s.head) (X5 p (YF p.headers.l s.head) s.name)
def RX(p:Pr)(a:Int)(s:St):Int :=
 if s.kind=1 then (if (s.e.ty p a).1=0 then WA (s.e.ty p a).2 s.e.free (R6 p s) else (s.e.ty p a).1)
 else if s.kind=2 then (if (s.e.ty p a).1=0 then (if (s.e.ty p a).2.tr then 0 else 9) else (s.e.ty p a).1)
 else if s.kind=5 then (if (s.e.ty p a).1=0 then (if (s.e.ty p a).2.tr then 9 else if (s.e.ty p a).2.fr then WA (s.e.ty p a).2 s.e.free 9 else 0) else (s.e.ty p a).1)
 else 0
def XL(p:Pr):It→Int
 | .st a s=>RX p a s
 | .num kind a b =>
  if kind=6 then (match p.states.l[a]? with|some s=>Lz p s|none=>0)
  else if kind=7 then (match p.states.l[a]? with|some s=>(match s.cases.l[b]? with|some c=>Ns p s c|none=>0)|none=>0)
  else if kind=12 then (match p.tables.l[a]? with|some t=>Fc p t b|none=>0)
  else if kind=14 then (match p.tables.l[a]? with|some t=>HR p t|none=>0)
  else 0
theorem Ec:∀(l:List Se) (ws:List Int) (k:Nat) (x:Se) (w:Int),l[k]?=some x→ws[k]?=some w→(TW l ws)[k]?=some (if Wg x.v w=0 then Wg x.m w else Wg x.v w)
 | [],_,k,x,w,h,_=>by simp at h
 | _ :: _,[],k,x,w,_,h=>by simp at h
 | y :: l,v :: ws,0,x,w,h,h2=>by
  obtain rfl:y=x:=asN;obtain rfl:v=w:=by simpa using h2
  rfl
 | y :: l,v :: ws,k+1,x,w,h,h2=>by
  rw[TW];simpa using Ec l ws k x w asN (by simpa using h2)
theorem Ed:∀(l:List Se) (ws:List Int),(TW l ws).length≤l.length
 | [],_=>by simp[TW]
 | _ :: _,[]=>by simp[TW]
 | _ :: l,_ :: ws=>by have:=Ed l ws;simp only[TW,Zk];omega
theorem HC:∀(l:List Lt) (ws:List Fd) (k:Nat) (x:Lt) (w:Fd),l[k]?=some x→ws[k]?=some w→(Ts l ws)[k]?=some (Wg x w.w)
 | [],_,k,x,w,h,_=>by simp at h
 | _ :: _,[],k,x,w,_,h=>by simp at h
 | y :: l,v :: ws,0,x,w,h,h2=>by
  obtain rfl:y=x:=asN;obtain rfl:v=w:=by simpa using h2
  rfl
 | y :: l,v :: ws,k+1,x,w,h,h2=>by
  rw[Ts];simpa using HC l ws k x w asN (by simpa using h2)
theorem HD:∀(l:List Lt) (ws:List Fd),(Ts l ws).length≤l.length
 | [],_=>by simp[Ts]
 | _ :: _,[]=>by simp[Ts]
 | _ :: l,_ :: ws=>by have:=HD l ws;simp only[Ts,Zk];omega
theorem ay(t:Lt)(k)(h:t.Ok):WR Zx 164 #[.agg t.cells.toArray,.int .i64 k] (.int .i64 (Wg t k)):=by
 have hf:=Fv t.n k (Lt.n_lt h);rw[←Lt.nv_eq h]at hf;obtain⟨B,hB⟩:=ZB (WI t.n k);rw[show decide (t.n % 2 ^ hw k=t.n)=B from hB]at hf;intro V;obtain⟨lw,lh,ll⟩:=t;have hE:Wg ⟨lw,lh,ll⟩ k=if lw=0 then (if B then 0 else 5) else if lw=k then 0 else 10:=by rw[←hB];rfl
 rw[hE];clear hE hB h;simp only[Lt.cells];simp only at hf;have Wi:=Zf hf;clear hf;by_cases h0:lw=0
 ·subst h0
  rw[if_pos rfl];go_enter func164,ntmps164;go_upto_region 1 with (fail)
  obtain⟨X,Y0,hX,⟨zX,ZE⟩,ca⟩:=YO V _ 42;rw[hX];have d0:=ca 0 _ rfl;have d1:=ca 1 _ rfl;have d2:=ca 2 _ rfl;have hz:=Zf ZE;clear hX ca ZE;go_wp2_with fail;refine (Wi.out.at X _).mono ?_;rintro r w' ⟨rfl,x1,rfl⟩;clear Wi;cases B <;>
  ·go_wp2
   go_ret;exact⟨rfl,att⟩
 ·rw[if_neg h0]
  have e0:(lw==0)=false:=as4;clear Wi;by_cases hk:lw=k
  ·subst hk
   rw[if_pos rfl];exact tH
  ·rw[if_neg hk]
   have n0:(lw !=0)=true:=as4;have nk:(lw !=k)=true:=by simpa using hk
   exact tH
theorem Es(t:Lt)(k w)(h:t.Ok):Yr Zx w 99 #[.agg t.cells.toArray,.int .i64 k] (Yl (Wg t k) (.tuple #[])):=by
 intro y0;have kl:=ay t k h;obtain⟨V,hV⟩:=ZB (plus w y0);rw[hV];clear hV h;obtain⟨R,hR⟩:=ZB (Wg t k);rw[hR]at kl ⊢;clear hR;obtain⟨lw,lh,ll⟩:=t;simp only[Lt.cells]at kl ⊢;have kl':=Zf kl;clear kl;by_cases r0:R=0
 ·subst r0
  open Z renaming aie→Ar in exact uh
 ·have e0:(R==0)=false:=by simpa using r0
  rw[show Yl R (.tuple #[])=YJ R by rw[Yl,if_neg r0]];open Z renaming aif→Ar in exact uh
theorem kH(p0 n0 c0 p1 n1 c1 p2 n2 c2 p3 n3 c3 p4 n4 c4 p5 n5 c5 p6 n6 c6 act op lw lh ll hd nm eh el ep en ec)(k r:Int)(w)(kt:Yr Zx w 28 #[.agg #[.slice p0 n0 c0,.slice p1 n1 c1,.slice p2 n2 c2,.slice p3 n3 c3,.slice p4 n4 c4,.slice p5 n5 c5,.slice p6 n6 c6,.int .i64 act],.agg #[.int .u8 op,.int .i64 lw,.int .u64 lh,.int .u64 ll,.string hd,.string nm,.int .i64 eh,.int .i64 el,.slice ep en ec]] (YJ r)) :
  Yr Zx w 100 #[.agg #[.slice p0 n0 c0,.slice p1 n1 c1,.slice p2 n2 c2,.slice p3 n3 c3,.slice p4 n4 c4,.slice p5 n5 c5,.slice p6 n6 c6,.int .i64 act],.agg #[.int .u8 op,.int .i64 lw,.int .u64 lh,.int .u64 ll,.string hd,.string nm,.int .i64 eh,.int .i64 el,.slice ep en ec],.int .i64 k] (YJ r):=by
 open Z renaming afo→QV in exact Q3
theorem kI(p0 n0 c0 p1 n1 c1 p2 n2 c2 p3 n3 c3 p4 n4 c4 p5 n5 c5 p6 n6 c6 act op lw lh ll hd nm eh el ep en ec k tw tt tf)(R:Int)(w)(kt:Yr Zx w 28 #[.agg #[.slice p0 n0 c0,.slice p1 n1 c1,.slice p2 n2 c2,.slice p3 n3 c3,.slice p4 n4 c4,.slice p5 n5 c5,.slice p6 n6 c6,.int .i64 act],.agg #[.int .u8 op,.int .i64 lw,.int .u64 lh,.int .u64 ll,.string hd,.string nm,.int .i64 eh,.int .i64 el,.slice ep en ec]] (.returned (.agg #[.int .i64 tw,.bool tt,.bool tf])))(kg:Yr Zx w 165 #[.agg #[.int .i64 tw,.bool tt,.bool tf],.agg #[.int .u8 op,.int .i64 lw,.int .u64 lh,.int .u64 ll,.string hd,.string nm,.int .i64 eh,.int .i64 el,.slice ep en ec],.int .i64 k] (Yl R (.tuple #[]))) :
  Yr Zx w 100 #[.agg #[.slice p0 n0 c0,.slice p1 n1 c1,.slice p2 n2 c2,.slice p3 n3 c3,.slice p4 n4 c4,.slice p5 n5 c5,.slice p6 n6 c6,.int .i64 act],.agg #[.int .u8 op,.int .i64 lw,.int .u64 lh,.int .u64 ll,.string hd,.string nm,.int .i64 eh,.int .i64 el,.slice ep en ec],.int .i64 k] (Yl R (.tuple #[])):=by
 open Z renaming ajR→GG in exact Dh
theorem aY(p0 n0 c0 p1 n1 c1 p2 n2 c2 p3 n3 c3 p4 n4 c4 p5 n5 c5 p6 n6 c6 act op lw lh ll hd nm eh el ep en ec sk)(ZI ZJ:ByteArray)(tp tn tc up un uc k w)(h0:ZI.toList.isEmpty=true)(kt:Kp Zx w 126 #[.agg #[.slice p0 n0 c0,.slice p1 n1 c1,.slice p2 n2 c2,.slice p3 n3 c3,.slice p4 n4 c4,.slice p5 n5 c5,.slice p6 n6 c6,.int .i64 act],.string ZJ] (.int .i64 k)) :
  Kp Zx w 101 #[.agg #[.slice p0 n0 c0,.slice p1 n1 c1,.slice p2 n2 c2,.slice p3 n3 c3,.slice p4 n4 c4,.slice p5 n5 c5,.slice p6 n6 c6,.int .i64 act],.agg #[.int .u8 sk,.string ZI,.string ZJ,.int .u8 op,.int .i64 lw,.int .u64 lh,.int .u64 ll,.string hd,.string nm,.int .i64 eh,.int .i64 el,.slice ep en ec,.slice tp tn tc,.slice up un uc]] (.int .i64 k):=by
 open Z renaming afp→QV in exact Q3
theorem aX(p0 n0 c0 p1 n1 c1 p2 n2 c2 p3 n3 c3 p4 n4 c4 p5 n5 c5 p6 n6 c6 act op lw lh ll hd nm eh el ep en ec sk)(ZI ZJ:ByteArray)(tp tn tc up un uc k w)(h0:ZI.toList.isEmpty=false)(kt:Kp Zx w 125 #[.agg #[.slice p0 n0 c0,.slice p1 n1 c1,.slice p2 n2 c2,.slice p3 n3 c3,.slice p4 n4 c4,.slice p5 n5 c5,.slice p6 n6 c6,.int .i64 act],.string ZI,.string ZJ] (.int .i64 k)) :
  Kp Zx w 101 #[.agg #[.slice p0 n0 c0,.slice p1 n1 c1,.slice p2 n2 c2,.slice p3 n3 c3,.slice p4 n4 c4,.slice p5 n5 c5,.slice p6 n6 c6,.int .i64 act],.agg #[.int .u8 sk,.string ZI,.string ZJ,.int .u8 op,.int .i64 lw,.int .u64 lh,.int .u64 ll,.string hd,.string nm,.int .i64 eh,.int .i64 el,.slice ep en ec,.slice tp tn tc,.slice up un uc]] (.int .i64 k):=by
 open Z renaming afr→QV in exact Q3
theorem ky(p0 n0 c0 p1 n1 c1 p2 n2 c2 p3 n3 c3 p4 n4 c4 p5 n5 c5 p6 n6 c6 act op lw lh ll hd nm eh el ep en ec)(r:Int)(w)(kt:Yr Zx w 28 #[.agg #[.slice p0 n0 c0,.slice p1 n1 c1,.slice p2 n2 c2,.slice p3 n3 c3,.slice p4 n4 c4,.slice p5 n5 c5,.slice p6 n6 c6,.int .i64 act],.agg #[.int .u8 op,.int .i64 lw,.int .u64 lh,.int .u64 ll,.string hd,.string nm,.int .i64 eh,.int .i64 el,.slice ep en ec]] (YJ r)) :
  Yr Zx w 103 #[.agg #[.slice p0 n0 c0,.slice p1 n1 c1,.slice p2 n2 c2,.slice p3 n3 c3,.slice p4 n4 c4,.slice p5 n5 c5,.slice p6 n6 c6,.int .i64 act],.agg #[.int .u8 op,.int .i64 lw,.int .u64 lh,.int .u64 ll,.string hd,.string nm,.int .i64 eh,.int .i64 el,.slice ep en ec]] (YJ r):=by
 open Z renaming afs→QV in exact Q3
theorem kz(p0 n0 c0 p1 n1 c1 p2 n2 c2 p3 n3 c3 p4 n4 c4 p5 n5 c5 p6 n6 c6 act op lw lh ll hd nm eh el ep en ec tw tf w)(kt:Yr Zx w 28 #[.agg #[.slice p0 n0 c0,.slice p1 n1 c1,.slice p2 n2 c2,.slice p3 n3 c3,.slice p4 n4 c4,.slice p5 n5 c5,.slice p6 n6 c6,.int .i64 act],.agg #[.int .u8 op,.int .i64 lw,.int .u64 lh,.int .u64 ll,.string hd,.string nm,.int .i64 eh,.int .i64 el,.slice ep en ec]] (.returned (.agg #[.int .i64 tw,.bool true,.bool tf]))) :
  Yr Zx w 103 #[.agg #[.slice p0 n0 c0,.slice p1 n1 c1,.slice p2 n2 c2,.slice p3 n3 c3,.slice p4 n4 c4,.slice p5 n5 c5,.slice p6 n6 c6,.int .i64 act],.agg #[.int .u8 op,.int .i64 lw,.int .u64 lh,.int .u64 ll,.string hd,.string nm,.int .i64 eh,.int .i64 el,.slice ep en ec]] (YJ 9):=by
 open Z renaming aft→QV in exact Q3
theorem l9(p0 n0 c0 p1 n1 c1 p2 n2 c2 p3 n3 c3 p4 n4 c4 p5 n5 c5 p6 n6 c6 act op lw lh ll hd nm eh el ep en ec tw w)(kt:Yr Zx w 28 #[.agg #[.slice p0 n0 c0,.slice p1 n1 c1,.slice p2 n2 c2,.slice p3 n3 c3,.slice p4 n4 c4,.slice p5 n5 c5,.slice p6 n6 c6,.int .i64 act],.agg #[.int .u8 op,.int .i64 lw,.int .u64 lh,.int .u64 ll,.string hd,.string nm,.int .i64 eh,.int .i64 el,.slice ep en ec]] (.returned (.agg #[.int .i64 tw,.bool false,.bool false]))) :
  Yr Zx w 103 #[.agg #[.slice p0 n0 c0,.slice p1 n1 c1,.slice p2 n2 c2,.slice p3 n3 c3,.slice p4 n4 c4,.slice p5 n5 c5,.slice p6 n6 c6,.int .i64 act],.agg #[.int .u8 op,.int .i64 lw,.int .u64 lh,.int .u64 ll,.string hd,.string nm,.int .i64 eh,.int .i64 el,.slice ep en ec]] (.returned (.tuple #[])):=by
 open Z renaming afu→QV in exact Q3
theorem kj(p0 n0 c0 p1 n1 c1 p2 n2 c2 p3 n3 c3 p4 n4 c4 p5 n5 c5 p6 n6 c6 act op lw lh ll hd nm eh el ep en ec tw)(R:Int)(w)(kt:Yr Zx w 28 #[.agg #[.slice p0 n0 c0,.slice p1 n1 c1,.slice p2 n2 c2,.slice p3 n3 c3,.slice p4 n4 c4,.slice p5 n5 c5,.slice p6 n6 c6,.int .i64 act],.agg #[.int .u8 op,.int .i64 lw,.int .u64 lh,.int .u64 ll,.string hd,.string nm,.int .i64 eh,.int .i64 el,.slice ep en ec]] (.returned (.agg #[.int .i64 tw,.bool false,.bool true])))(kg:Yr Zx w 165 #[.agg #[.int .i64 tw,.bool false,.bool true],.agg #[.int .u8 op,.int .i64 lw,.int .u64 lh,.int .u64 ll,.string hd,.string nm,.int .i64 eh,.int .i64 el,.slice ep en ec],.int .i64 9] (Yl R (.tuple #[]))) :
  Yr Zx w 103 #[.agg #[.slice p0 n0 c0,.slice p1 n1 c1,.slice p2 n2 c2,.slice p3 n3 c3,.slice p4 n4 c4,.slice p5 n5 c5,.slice p6 n6 c6,.int .i64 act],.agg #[.int .u8 op,.int .i64 lw,.int .u64 lh,.int .u64 ll,.string hd,.string nm,.int .i64 eh,.int .i64 el,.slice ep en ec]] (Yl R (.tuple #[])):=by
 open Z renaming ajS→GG in exact Dh
theorem aq(p0 n0 c0 p1 n1 c1 p2 n2 c2 p3 n3 c3 p4 n4 c4 p5 n5 c5 p6 n6 c6 act op lw lh ll hd nm eh el ep en ec)(sk:Int)(ZI ZJ tp tn tc up un uc)(k R:Int)(w)(kt:Kp Zx w 101 #[.agg #[.slice p0 n0 c0,.slice p1 n1 c1,.slice p2 n2 c2,.slice p3 n3 c3,.slice p4 n4 c4,.slice p5 n5 c5,.slice p6 n6 c6,.int .i64 act],.agg #[.int .u8 1,.string ZI,.string ZJ,.int .u8 op,.int .i64 lw,.int .u64 lh,.int .u64 ll,.string hd,.string nm,.int .i64 eh,.int .i64 el,.slice ep en ec,.slice tp tn tc,.slice up un uc]] (.int .i64 k))(kg:Yr Zx w 100 #[.agg #[.slice p0 n0 c0,.slice p1 n1 c1,.slice p2 n2 c2,.slice p3 n3 c3,.slice p4 n4 c4,.slice p5 n5 c5,.slice p6 n6 c6,.int .i64 act],.agg #[.int .u8 op,.int .i64 lw,.int .u64 lh,.int .u64 ll,.string hd,.string nm,.int .i64 eh,.int .i64 el,.slice ep en ec],.int .i64 k] (Yl R (.tuple #[]))) :
  Yr Zx w 36 #[.agg #[.slice p0 n0 c0,.slice p1 n1 c1,.slice p2 n2 c2,.slice p3 n3 c3,.slice p4 n4 c4,.slice p5 n5 c5,.slice p6 n6 c6,.int .i64 act],.agg #[.int .u8 1,.string ZI,.string ZJ,.int .u8 op,.int .i64 lw,.int .u64 lh,.int .u64 ll,.string hd,.string nm,.int .i64 eh,.int .i64 el,.slice ep en ec,.slice tp tn tc,.slice up un uc]] (Yl R (.tuple #[])):=by
 open Z renaming ajT→GG in exact Dh
theorem aj(p0 n0 c0 p1 n1 c1 p2 n2 c2 p3 n3 c3 p4 n4 c4 p5 n5 c5 p6 n6 c6 act op lw lh ll hd nm eh el ep en ec)(sk:Int)(ZI ZJ tp tn tc up un uc)(r:Int)(w)(kt:Yr Zx w 28 #[.agg #[.slice p0 n0 c0,.slice p1 n1 c1,.slice p2 n2 c2,.slice p3 n3 c3,.slice p4 n4 c4,.slice p5 n5 c5,.slice p6 n6 c6,.int .i64 act],.agg #[.int .u8 op,.int .i64 lw,.int .u64 lh,.int .u64 ll,.string hd,.string nm,.int .i64 eh,.int .i64 el,.slice ep en ec]] (YJ r)) :
  Yr Zx w 36 #[.agg #[.slice p0 n0 c0,.slice p1 n1 c1,.slice p2 n2 c2,.slice p3 n3 c3,.slice p4 n4 c4,.slice p5 n5 c5,.slice p6 n6 c6,.int .i64 act],.agg #[.int .u8 2,.string ZI,.string ZJ,.int .u8 op,.int .i64 lw,.int .u64 lh,.int .u64 ll,.string hd,.string nm,.int .i64 eh,.int .i64 el,.slice ep en ec,.slice tp tn tc,.slice up un uc]] (YJ r):=by
 open Z renaming afv→QV in exact Q3
theorem ai(p0 n0 c0 p1 n1 c1 p2 n2 c2 p3 n3 c3 p4 n4 c4 p5 n5 c5 p6 n6 c6 act op lw lh ll hd nm eh el ep en ec)(sk:Int)(ZI ZJ tp tn tc up un uc tw tt tf w)(kt:Yr Zx w 28 #[.agg #[.slice p0 n0 c0,.slice p1 n1 c1,.slice p2 n2 c2,.slice p3 n3 c3,.slice p4 n4 c4,.slice p5 n5 c5,.slice p6 n6 c6,.int .i64 act],.agg #[.int .u8 op,.int .i64 lw,.int .u64 lh,.int .u64 ll,.string hd,.string nm,.int .i64 eh,.int .i64 el,.slice ep en ec]] (.returned (.agg #[.int .i64 tw,.bool tt,.bool tf]))) :
  Yr Zx w 36 #[.agg #[.slice p0 n0 c0,.slice p1 n1 c1,.slice p2 n2 c2,.slice p3 n3 c3,.slice p4 n4 c4,.slice p5 n5 c5,.slice p6 n6 c6,.int .i64 act],.agg #[.int .u8 2,.string ZI,.string ZJ,.int .u8 op,.int .i64 lw,.int .u64 lh,.int .u64 ll,.string hd,.string nm,.int .i64 eh,.int .i64 el,.slice ep en ec,.slice tp tn tc,.slice up un uc]] (Yl (if tt then 0 else 9) (.tuple #[])):=by
 open Z renaming afw→QV in exact Q3
theorem ah(p0 n0 c0 p1 n1 c1 p2 n2 c2 p3 n3 c3 p4 n4 c4 p5 n5 c5 p6 n6 c6 act op lw lh ll hd nm eh el ep en ec)(sk:Int)(ZI ZJ tp tn tc up un uc)(R:Int)(w)(kt:Yr Zx w 103 #[.agg #[.slice p0 n0 c0,.slice p1 n1 c1,.slice p2 n2 c2,.slice p3 n3 c3,.slice p4 n4 c4,.slice p5 n5 c5,.slice p6 n6 c6,.int .i64 act],.agg #[.int .u8 op,.int .i64 lw,.int .u64 lh,.int .u64 ll,.string hd,.string nm,.int .i64 eh,.int .i64 el,.slice ep en ec]] (Yl R (.tuple #[]))) :
  Yr Zx w 36 #[.agg #[.slice p0 n0 c0,.slice p1 n1 c1,.slice p2 n2 c2,.slice p3 n3 c3,.slice p4 n4 c4,.slice p5 n5 c5,.slice p6 n6 c6,.int .i64 act],.agg #[.int .u8 5,.string ZI,.string ZJ,.int .u8 op,.int .i64 lw,.int .u64 lh,.int .u64 ll,.string hd,.string nm,.int .i64 eh,.int .i64 el,.slice ep en ec,.slice tp tn tc,.slice up un uc]] (Yl R (.tuple #[])):=by
 open Z renaming afx→QV in exact Q3
theorem ao(p0 n0 c0 p1 n1 c1 p2 n2 c2 p3 n3 c3 p4 n4 c4 p5 n5 c5 p6 n6 c6 act op lw lh ll hd nm eh el ep en ec)(sk:Int)(ZI ZJ tp tn tc up un uc w)(h1:(sk==1)=false)(h2:(sk==2)=false)(h5:(sk==5)=false) :
  Yr Zx w 36 #[.agg #[.slice p0 n0 c0,.slice p1 n1 c1,.slice p2 n2 c2,.slice p3 n3 c3,.slice p4 n4 c4,.slice p5 n5 c5,.slice p6 n6 c6,.int .i64 act],.agg #[.int .u8 sk,.string ZI,.string ZJ,.int .u8 op,.int .i64 lw,.int .u64 lh,.int .u64 ll,.string hd,.string nm,.int .i64 eh,.int .i64 el,.slice ep en ec,.slice tp tn tc,.slice up un uc]] (.returned (.tuple #[])):=by
 intro y0;obtain⟨V,hV⟩:=ZB (plus w y0);rw[hV];clear hV;open Z renaming ajl→Ln in exact L8
end Go.Proofs.YtknmeggfokpbjaaGreat
