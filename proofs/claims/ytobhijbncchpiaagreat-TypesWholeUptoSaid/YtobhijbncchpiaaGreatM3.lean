/-
  WHAT IS PROVED HERE: a part of the proof (made narrower and merged by program; the parts: SE SH FG Za).
-/
import Derived.Deep.CutRange
import Derived.Deep.RegionHeld3
import Derived.Laws.EntriesVeiled
import Derived.Test.YtobhijbncchpiaaGreatM2
namespace Go.Proofs.YtobhijbncchpiaaGreat
open Go.RowKit
theorem wr_sum (t h n E A B u:Nat) (hu:u=t+(1+h+n+E+A+B)) (hb:u≤1048576):wrap64 (wrap64 (wrap64 (wrap64 (wrap64 (wrap64 ((t:Int)+1)+h)+n)+E)+A)+B)=(u:Int):=by
 rw [wr_in ((t:Int)+1) (by omega),wr_in ((t:Int)+1+h) (by omega),wr_in ((t:Int)+1+h+n) (by omega),wr_in ((t:Int)+1+h+n+E) (by omega),wr_in ((t:Int)+1+h+n+E+A) (by omega),wr_in _ (by omega)]
 omega
theorem PureIn.of_plus {P:Program} {w:World} {f:FuncId} {args:Array Value} {v:Value} (h:∀ w',(∃ y,w'=plus w y)→Calls P f args w' fun e w''=>e=.returned v∧∃ x,w''=plus w' x):PureIn P w f args v:=fun y =>
 (h _ ⟨y,rfl⟩).mono fun _ _ ⟨he,x,hx⟩=>⟨he,by rw [hx,plus_plus];exact⟨_,rfl⟩⟩
theorem weigh_in (e:Ex) (w:World) (h:e.In w) (hb:e.wt≤1048576):PureIn Tryz.prog w 14 #[e.val] (.int .i64 (e.wt:Int)) :=
 PureIn.of_plus fun _ ⟨y,hy⟩=>ref_weigh e _ (hy ▸ h.plus y) hb
def St.thnS (s:St):Sl St:=⟨s.p,s.cap,s.thn⟩
def St.elsS (s:St):Sl St:=⟨s.q,s.cbp,s.els⟩
def WeighsAt (L:Sl St):Prop:=∀ w:World,L.In w 14 St.cells (St.In w)→L.size St.sz≤1048576→PureIn Tryz.prog w 12 #[L.v] (.int .i64 (L.size St.sz:Int))
theorem St.sz_pos (s:St):1≤s.sz:=by rw [St.sz_eq];omega
set_option maxHeartbeats 8000000 in
theorem weighs_of (L:Sl St) (ih:∀ x ∈ L.l,WeighsAt x.thnS∧WeighsAt x.elsS):WeighsAt L:=by
 intro w hin hb y0
 obtain⟨p,cap,l⟩:=L
 obtain⟨h1,h2,hrow,hkids⟩:=hin
 simp only [Sl.size,Sl.v] at hb h1 hrow hkids ih ⊢
 have hn:∃ n,l.length=n:=⟨_,rfl⟩
 obtain⟨n,hn⟩:=hn
 have hl:n≤1048576:=by have:=length_le_sum St.sz St.sz_pos l;omega
 rw [hn]
 have hR:∃ R,(l.map St.sz).sum=R:=⟨_,rfl⟩
 obtain⟨R,hR⟩:=hR
 rw [hR] at hb ⊢
 have ih':=Lib.hid ih
 have hrow':=Lib.hid (hrow.plus y0)
 have hkids':=Lib.hid (fun x hx=>(hkids x hx).plus y0)
 have hR':=Lib.hid hR
 have hb':=Lib.hid hb
 have hn':=Lib.hid hn
 have hl':=Lib.hid hl
 clear hrow hkids hb hn hl hR h1 h2 ih
 obtain⟨W,hW⟩:∃ W,plus w y0=W:=⟨_,rfl⟩
 rw [hW] at hrow' hkids' ⊢
 have hW':=Lib.hid hW
 clear hW
 go_enter Tryz.func12,Tryz.ntmps12
 go_wp2
 go_loopw [3,4] (fun nv iv wr=>∃ k:Nat,k≤n∧iv=.int .i64 (k:Int)∧nv=.int .i64 (tally St.sz 0 l k:Int)∧∃ y,wr=plus W y) (fun _ iv _=>n - (intOf iv).toNat)
 case atStart=>exact⟨0,Nat.zero_le _,rfl,congrArg (Value.int .i64) (by rw [tally_zero];rfl),⟨#[],W.drawn⟩,(plus_self W).symm⟩
 case round =>
  obtain⟨k,hk,rfl,rfl,y,rfl⟩:=hrel
  by_cases hlt:k < n
  ·obtain⟨s,hs⟩:∃ s,l[k]?=some s:=⟨l[k]'(by rw [hn'.out];exact hlt),List.getElem?_eq_getElem _⟩
   obtain⟨a,rfl,hc⟩:=hrow'.out k s hs
   have a3:=tally_succ St.sz 0 l k s hs
   have a4:=tally_le St.sz 0 l (k+1)
   have hmem:s ∈ l:=List.mem_of_getElem? hs
   obtain⟨i1,i2⟩:=ih'.out s hmem
   have hst:=hkids'.out s hmem
   obtain⟨kind,hd,nm,e,sp,scap,thn,sq,scbp,els⟩:=s
   have hsz:=St.sz_eq (.mk kind hd nm e sp scap thn sq scbp els)
   obtain⟨_,_,_,_,he,l1,l2,l3,l4,l5,l6,l7,l8⟩:=hst
   simp only [St.head,St.name,St.e,St.p,St.cap,St.thn,St.q,St.cbp,St.els] at he l1 l2 l3 l4 l5 l6 l7 l8 hsz
   have hS:∃ S,St.sz (.mk kind hd nm e sp scap thn sq scbp els)=S:=⟨_,rfl⟩
   obtain⟨S,hS⟩:=hS
   rw [hS] at hsz a3
   have b0:S≤1048576:=by have:=hb'.out;have:=hR'.out;omega
   have q1:=weigh_in e W he (by omega)
   have q2:=i1 W ⟨l1,l2,l3,l4⟩ (show (thn.map St.sz).sum≤1048576 by omega)
   have q3:=i2 W ⟨l5,l6,l7,l8⟩ (show (els.map St.sz).sum≤1048576 by omega)
   simp only [Sl.size,Sl.v,St.thnS,St.elsS,St.p,St.cap,St.thn,St.q,St.cbp,St.els] at q2 q3
   obtain⟨eop,⟨elw,elh,ell⟩,ehd,enm,eeh,eel,ep,ecap,eargs⟩:=e
   have d0:=fun y=>(hc.plus y).c0 _ rfl
   have d1:=fun y=>(hc.plus y).cs 0 _ rfl
   have d2:=fun y=>(hc.plus y).cs 1 _ rfl
   have d3:=fun y=>(hc.plus y).cs 2 _ rfl
   have d4:=fun y=>(hc.plus y).cs 3 _ rfl
   have d5:=fun y=>(hc.plus y).cs 4 _ rfl
   have d6:=fun y=>(hc.plus y).cs 5 _ rfl
   have d7:=fun y=>(hc.plus y).cs 6 _ rfl
   have d8:=fun y=>(hc.plus y).cs 7 _ rfl
   have d9:=fun y=>(hc.plus y).cs 8 _ rfl
   have d10:=fun y=>(hc.plus y).cs 9 _ rfl
   have d11:=fun y=>(hc.plus y).cs 10 _ rfl
   have d12:=fun y=>(hc.plus y).cs 11 _ rfl
   have d13:=fun y=>(hc.plus y).cs 12 _ rfl
   simp only [St.kind,St.head,St.name,St.e,St.p,St.cap,St.thn,St.q,St.cbp,St.els,Ex.op,Ex.lit,Ex.head,Ex.name,Ex.hi,Ex.lo,Ex.p,Ex.cap,Ex.args] at d0 d1 d2 d3 d4 d5 d6 d7 d8 d9 d10 d11 d12 d13
   have q1:PureIn Tryz.prog W 14 #[.agg #[.int .u8 eop,.int .i64 elw,.int .u64 elh,.int .u64 ell,.string ehd,.string enm,.int .i64 eeh,.int .i64 eel,.slice ep eargs.length ecap]] _:=q1
   have hE:∃ E,Ex.wt (.mk eop ⟨elw,elh,ell⟩ ehd enm eeh eel ep ecap eargs)=E:=⟨_,rfl⟩
   obtain⟨E,hE⟩:=hE
   rw [hE] at q1 hsz
   have hA:∃ A,(thn.map St.sz).sum=A:=⟨_,rfl⟩
   obtain⟨A,hA⟩:=hA
   rw [hA] at q2 hsz
   have hB:∃ B,(els.map St.sz).sum=B:=⟨_,rfl⟩
   obtain⟨B,hB⟩:=hB
   rw [hB] at q3 hsz
   have q1':=Lib.hid q1
   have q2':=Lib.hid q2
   have q3':=Lib.hid q3
   have a6:=wr_succ k n hlt hl'.out
   have hsz':=Lib.hid hsz
   have a3':=Lib.hid a3
   have a4':=Lib.hid a4
   have b0':=Lib.hid b0
   clear hE hA hB a3 a4 hs hc he l1 l2 l3 l4 l5 l6 l7 l8 hS i1 i2 q1 q2 q3 hsz hmem b0
   go_wp2
   refine wp_region_own (by kernel_rfl) (by kernel_rfl) ?_
   repeat (go_big_quiet_step (first|(with_reducible exact q1'.out _)|(with_reducible exact q2'.out _)|(with_reducible exact q3'.out _)))
   refine wpQuiet_nil ?_
   rintro _ ⟨y1,rfl⟩
   have a7:=wr_sum (tally St.sz 0 l k) hd.size nm.size E A B (tally St.sz 0 l (k+1)) (by rw [a3'.out,hsz'.out]) (by have:=a4'.out;have:=hR'.out;have:=hb'.out;omega)
   have a7':=Lib.hid a7
   have a6':=Lib.hid a6
   clear a6 a7
   go_wp2
   go_roundw
   case rel=>exact⟨k+1,hlt,congrArg (Value.int .i64) a6'.out,congrArg (Value.int .i64) a7'.out,y1,rfl⟩
   case measure=>exact step_less k n hlt a6'.out
  ·obtain rfl:k=n:=by omega
   have hT:(tally St.sz 0 l k:Int)=(R:Int):=by
    have:=hR'.out
    rw [tally_all St.sz _ l k hn'.out]
    omega
   have hT':=Lib.hid hT
   clear hT
   go_wp2
   go_ret
   exact⟨congrArg (fun z=>Ending.returned (Value.int .i64 z)) hT'.out,by rw [← hW'.out,plus_plus];exact⟨_,rfl⟩⟩
theorem weighs_at (L:Sl St):WeighsAt L :=
 weighs_of L fun x _=>St.ind (Q:=fun s=>WeighsAt s.thnS∧WeighsAt s.elsS) (fun s h1 h2=>⟨weighs_of s.thnS h1,weighs_of s.elsS h2⟩) x
/-- The same ones, one by one? -/
def eqAll {α:Type} (f:α→α→Bool):List α→List α→Bool
 | [],[]=>true
 | a :: l,b :: r=>f a b && eqAll f l r
 | [],_ :: _=>false
 | _ :: _,[]=>false
theorem eqAll_drop {α:Type} (f:α→α→Bool) (l r:List α) (k:Nat) (x y:α) (hx:l[k]?=some x) (hy:r[k]?=some y):eqAll f (l.drop k) (r.drop k)=(f x y && eqAll f (l.drop (k+1)) (r.drop (k+1))):=by
 obtain⟨h1,rfl⟩:=List.getElem?_eq_some_iff.1 hx
 obtain⟨h2,rfl⟩:=List.getElem?_eq_some_iff.1 hy
 rw [List.drop_eq_getElem_cons h1,List.drop_eq_getElem_cons h2,eqAll]
theorem eqAll_length {α:Type} (f:α→α→Bool):∀ l r:List α,l.length≠r.length→eqAll f l r=false
 | [],[],h=>by simp at h
 | [],_ :: _,_=>by rw [eqAll]
 | _ :: _,[],_=>by rw [eqAll]
 | a :: l,b :: r,h=>by
  rw [eqAll,eqAll_length f l r (by simpa using h),Bool.and_false]
/-- The same but for Args? -/
def Ex.top (a b:Ex):Bool:=a.op == b.op && (a.lit.w == b.lit.w && (a.lit.h == b.lit.h && a.lit.l == b.lit.l)) && a.head.toList == b.head.toList && a.name.toList == b.name.toList && a.hi == b.hi && a.lo == b.lo
mutual
/-- The same? -/
def Ex.same:Ex→Ex→Bool
 | .mk op lit hd nm h l _ _ args,b=>Ex.top (.mk op lit hd nm h l none 0 []) b && Ex.sames args b.args
def Ex.sames:List Ex→List Ex→Bool
 | [],[]=>true
 | a :: l,b :: r=>a.same b && Ex.sames l r
 | [],_ :: _=>false
 | _ :: _,[]=>false
end
theorem Ex.same_eq (a b:Ex):a.same b=(Ex.top a b && Ex.sames a.args b.args):=by cases a;rw [Ex.same];rfl
theorem plus_alloc2 (w:World) (y:Ext) (a b:Obj):∃ x,((plus w y).alloc a).alloc b=plus w x:=by
 obtain⟨z,hz⟩:=plus_of_below (((Below.refl (plus w y).heap.size (plus w y)).alloc (Nat.le_refl _) a).alloc (by simp) b)
 rw [hz,plus_plus]
 exact⟨_,rfl⟩
/-- A world that has more than this one. -/
def Ov (W U:World):Prop:=∃ z,U=plus W z
theorem Ov.drew {W U:World} (h:Ov W U):Ov W U.drew:=by
 obtain⟨z,rfl⟩:=h
 exact⟨⟨z.blocks,z.draws+1⟩,rfl⟩
theorem Ov.alloc {W U:World} (h:Ov W U) (o:Obj):Ov W (U.alloc o):=by
 obtain⟨z,rfl⟩:=h
 obtain⟨y,hy⟩:=plus_of_below ((Below.refl (plus W z).heap.size (plus W z)).alloc (Nat.le_refl _) o)
 exact⟨_,hy.trans (plus_plus _ _ _)⟩
/-- Called with these in whatever world that has more than this one: this is handed back, and the world has blocks and draws of the call's own beside what there was. -/
abbrev Kp (P:Program) (w:World) (f:FuncId) (args:Array Value) (v:Value):Prop:=∀ y,Calls P f args (plus w y) fun e w'=>e=.returned v∧∃ x,w'=plus (plus w y) x
section
variable {P:Program} {w:World} {f:FuncId} {args:Array Value} {v:Value}
theorem Kp.up (h:Kp P w f args v) (z:Ext):Kp P (plus w z) f args v:=fun y=>by
 rw [plus_plus];exact h _
theorem Kp.pure (h:Kp P w f args v):PureIn P w f args v:=fun y=>(h y).mono fun _ _ ⟨he,x,hx⟩=>⟨he,by rw [hx,plus_plus];exact⟨_,rfl⟩⟩
theorem Kp.eqv {v':Value} (h:Kp P w f args v) (e:v=v'):Kp P w f args v':=e ▸ h
end
theorem pure_call2 {P:Program} {W:World} {f:FuncId} {args:Array Value} {v:Value} (h:PureIn P W f args v) {y:Ext} {a b:Obj} {Q:Ending→World→Prop} (hQ:∀ e w',(e=.returned v∧∃ x,w'=plus W x)→Q e w') :
  Calls P f args (((plus W y).alloc a).alloc b) Q:=by
 obtain⟨z,hz⟩:=plus_alloc2 W y a b
 rw [hz]
 exact (h z).mono hQ
theorem plus_alloc1 (w:World) (y:Ext) (a:Obj):∃ x,(plus w y).alloc a=plus w x:=by
 obtain⟨z,hz⟩:=plus_of_below ((Below.refl (plus w y).heap.size (plus w y)).alloc (Nat.le_refl _) a)
 rw [hz,plus_plus]
 exact⟨_,rfl⟩
theorem pure_call1 {P:Program} {W:World} {f:FuncId} {args:Array Value} {v:Value} (h:PureIn P W f args v) {y:Ext} {a:Obj} {Q:Ending→World→Prop} (hQ:∀ e w',(e=.returned v∧∃ x,w'=plus W x)→Q e w') :
  Calls P f args ((plus W y).alloc a) Q:=by
 obtain⟨z,hz⟩:=plus_alloc1 W y a
 rw [hz]
 exact (h z).mono hQ
theorem cell_alloc {w:World} {a:Addr} {v:Value} (h:w.cell? a=some v) (x:Obj):(w.alloc x).cell? a=some v:=by
 obtain⟨z,hz⟩:=plus_alloc1 w ⟨#[],w.drawn⟩ x
 rw [plus_self] at hz
 rw [hz]
 exact cell_keep h z
def shp_Field (l:List Value):Prop:=∃ (c0:ByteArray) (c1:Int),l=[.string c0,.int .i64 c1]
def shp_Header (l:List Value):Prop:=∃ (c0:ByteArray) (c1p:Option Addr) (c1n:Nat) (c1c:Nat),l=[.string c0,.slice c1p c1n c1c]
def shp_Lit (l:List Value):Prop:=∃ (c0:Int) (c1:Int) (c2:Int),l=[.int .i64 c0,.int .u64 c1,.int .u64 c2]
def shp_Expr (l:List Value):Prop:=∃ (c0:Int) (c1:Int) (c2:Int) (c3:Int) (c4:ByteArray) (c5:ByteArray) (c6:Int) (c7:Int) (c8p:Option Addr) (c8n:Nat) (c8c:Nat),l=[.int .u8 c0,.int .i64 c1,.int .u64 c2,.int .u64 c3,.string c4,.string c5,.int .i64 c6,.int .i64 c7,.slice c8p c8n c8c]
def shp_Set (l:List Value):Prop:=∃ (c0:Int) (c1:Int) (c2:Int) (c3:Int) (c4:Int) (c5:Int) (c6:Int),l=[.int .u8 c0,.int .i64 c1,.int .u64 c2,.int .u64 c3,.int .i64 c4,.int .u64 c5,.int .u64 c6]
def shp_Case (l:List Value):Prop:=∃ (c0:Bool) (c1p:Option Addr) (c1n:Nat) (c1c:Nat) (c2:ByteArray),l=[.bool c0,.slice c1p c1n c1c,.string c2]
def shp_State (l:List Value):Prop:=∃ (c0:ByteArray) (c1p:Option Addr) (c1n:Nat) (c1c:Nat) (c2:ByteArray) (c3p:Option Addr) (c3n:Nat) (c3c:Nat) (c4p:Option Addr) (c4n:Nat) (c4c:Nat),l=[.string c0,.slice c1p c1n c1c,.string c2,.slice c3p c3n c3c,.slice c4p c4n c4c]
def shp_Stmt (l:List Value):Prop:=∃ (c0:Int) (c1:ByteArray) (c2:ByteArray) (c3:Int) (c4:Int) (c5:Int) (c6:Int) (c7:ByteArray) (c8:ByteArray) (c9:Int) (c10:Int) (c11p:Option Addr) (c11n:Nat) (c11c:Nat) (c12p:Option Addr) (c12n:Nat) (c12c:Nat) (c13p:Option Addr) (c13n:Nat) (c13c:Nat),l=[.int .u8 c0,.string c1,.string c2,.int .u8 c3,.int .i64 c4,.int .u64 c5,.int .u64 c6,.string c7,.string c8,.int .i64 c9,.int .i64 c10,.slice c11p c11n c11c,.slice c12p c12n c12c,.slice c13p c13n c13c]
def shp_Action (l:List Value):Prop:=∃ (c0:ByteArray) (c1p:Option Addr) (c1n:Nat) (c1c:Nat) (c2p:Option Addr) (c2n:Nat) (c2c:Nat),l=[.string c0,.slice c1p c1n c1c,.slice c2p c2n c2c]
def shp_Key (l:List Value):Prop:=∃ (c0:Int) (c1:Int) (c2:Int) (c3:Int) (c4:ByteArray) (c5:ByteArray) (c6:Int) (c7:Int) (c8p:Option Addr) (c8n:Nat) (c8c:Nat) (c9:Int),l=[.int .u8 c0,.int .i64 c1,.int .u64 c2,.int .u64 c3,.string c4,.string c5,.int .i64 c6,.int .i64 c7,.slice c8p c8n c8c,.int .u8 c9]
def shp_Table (l:List Value):Prop:=∃ (c0:ByteArray) (c1p:Option Addr) (c1n:Nat) (c1c:Nat) (c2p:Option Addr) (c2n:Nat) (c2c:Nat) (c3:ByteArray) (c4p:Option Addr) (c4n:Nat) (c4c:Nat),l=[.string c0,.slice c1p c1n c1c,.slice c2p c2n c2c,.string c3,.slice c4p c4n c4c]
/-- So many, and each may be. -/
def eachB {α:Type} (lo hi:Int) (may:α→Bool) (l:List α):Bool:=decide (lo≤(l.length:Int)) && decide ((l.length:Int)≤hi) && l.all may
theorem all_drop {α:Type} (f:α→Bool) (l:List α) (k:Nat) (x:α) (hx:l[k]?=some x):(l.drop k).all f=(f x && (l.drop (k+1)).all f):=by
 obtain⟨h1,rfl⟩:=List.getElem?_eq_some_iff.1 hx
 rw [List.drop_eq_getElem_cons h1,List.all_cons]
theorem alloc0_plus (V:World):∃ x,V=plus V x:=⟨_,(plus_self V).symm⟩
theorem alloc1_plus (V:World) (a:Obj):∃ x,V.alloc a=plus V x:=plus_of_below ((Below.refl _ V).alloc (Nat.le_refl _) a)
theorem alloc2_plus (V:World) (a b:Obj):∃ x,(V.alloc a).alloc b=plus V x:=plus_of_below (((Below.refl _ V).alloc (Nat.le_refl _) a).alloc (by simp) b)
theorem calls_self {P:Program} {V:World} {f:FuncId} {args:Array Value} {v:Value} (h:Kp P V f args v):Calls P f args V fun e w'=>e=.returned v∧∃ x,w'=plus V x:=by
 have:=h ⟨#[],V.drawn⟩
 rwa [plus_self] at this
theorem kp_at {P:Program} {V W:World} {z:Ext} {f:FuncId} {args:Array Value} {v:Value} (hz:W=plus V z) (h:Kp P V f args v):PureIn P W f args v:=by
 rw [hz];exact (h.up z).pure
theorem box1n (V:World) (c:Array Value) (t:TypeId):∃ W y,V.alloc (.cells c t)=plus W y∧(∃ z,W=plus V z)∧(∀ o v,c[o]?=v→∀ y,(plus W y).cell? ⟨V.heap.size,o,none⟩=v):=by
 obtain⟨W,hW,hB,hs,ca,fa⟩:=box1 V c t
 exact⟨W,⟨#[],W.drawn⟩,by rw [plus_self,hW],plus_of_below hB,ca⟩
theorem box2n (V:World) (c d:Array Value) (t u:TypeId):∃ W y,(V.alloc (.cells c t)).alloc (.cells d u)=plus W y∧(∃ z,W=plus V z)∧(∀ o v,c[o]?=v→∀ y,(plus W y).cell? ⟨V.heap.size,o,none⟩=v)∧(∀ o v,d[o]?=v→∀ y,(plus W y).cell? ⟨V.heap.size+1,o,none⟩=v):=by
 obtain⟨W,hW,hB,hs,ca,cb,fa,fb⟩:=box2 V c d t u
 exact⟨W,⟨#[],W.drawn⟩,by rw [plus_self,hW],plus_of_below hB,ca,cb⟩
theorem cell_at {V W:World} {z:Ext} {a:Addr} {v:Value} (hz:W=plus V z) (h:V.cell? a=some v):W.cell? a=some v:=by rw [hz];exact cell_keep h z
/-- The number of the first one that is so, counted from k on; -1: there is none. -/
def firstI {α:Type} (q:α→Bool):List α→Nat→Int
 | [],_=>-1
 | x :: l,k=>if q x then (k:Int) else firstI q l (k+1)
theorem firstI_drop {α:Type} (q:α→Bool) (l:List α) (k:Nat) (x:α) (hx:l[k]?=some x):firstI q (l.drop k) k=if q x then (k:Int) else firstI q (l.drop (k+1)) (k+1):=by
 obtain⟨h1,rfl⟩:=List.getElem?_eq_some_iff.1 hx
 rw [List.drop_eq_getElem_cons h1,firstI]
set_option maxHeartbeats 8000000 in
theorem first_Header {α:Type} (cells:α→List Value) (hC:∀ x,shp_Header (cells x)) (may:α→Bool) (g:FuncId) (first caps:Array Value) (K:α→Prop) (w:World) (A:Sl α) (hA:A.In w 2 cells K) (hl:A.l.length≤1048576)
  (hent:∀ args w,(callFunc g args).run Tryz.prog w=.ok (.enter g args) w)
  (hf:∀ x ∈ A.l,Kp Tryz.prog w g (first.push (.agg (cells x).toArray)++caps) (.bool (may x))) :
  Kp Tryz.prog w 151 #[A.v,.func (.func g) first caps] (.int .i64 (firstI may A.l 0)):=by
 intro y0
 obtain⟨p,cap,l⟩:=A
 simp only [Sl.v] at hl hf ⊢
 obtain⟨n,hn⟩:∃ n,l.length=n:=⟨_,rfl⟩
 have hA:=hA.row.plus y0
 have hf:=fun x hx=>((hf x hx).up y0).pure
 obtain⟨W,hW⟩:∃ W,plus w y0=W:=⟨_,rfl⟩
 rw [hW] at hA ⊢
 simp only [hW] at hf
 rw [hn] at hl
 clear hW
 obtain⟨R,hR⟩:∃ R,firstI may l 0=R:=⟨_,rfl⟩
 have h0:firstI may (l.drop 0) 0=R:=hR
 rw [hn,hR]
 have hA':=Lib.hid hA
 have hn':=Lib.hid hn
 have hl':=Lib.hid hl
 have h0':=Lib.hid h0
 have hf':=Lib.hid hf
 have hC':=Lib.hid hC
 clear hA hl hn hR h0 hf hC
 go_enter Tryz.func151,Tryz.ntmps151
 go_wp2
 go_loopw [5,6,9] (fun _ _ iv wr=>∃ k:Nat,k≤n∧iv=.int .i64 (k:Int)∧Hid (firstI may (l.drop k) k=R)∧∃ y,wr=plus W y) (fun _ _ iv _=>n - (intOf iv).toNat)
 case atStart=>exact⟨0,Nat.zero_le _,rfl,h0',⟨#[],W.drawn⟩,(plus_self W).symm⟩
 case round =>
  obtain⟨k,hk,rfl,hs,y,rfl⟩:=hrel
  by_cases hlt:k < n
  ·obtain⟨a,ha⟩:∃ s,l[k]?=some s:=⟨l[k]'(by rw [hn'.out];exact hlt),List.getElem?_eq_getElem _⟩
   obtain⟨pa,rfl,hc⟩:=hA'.out k a ha
   have q1:=hf'.out a (List.mem_of_getElem? ha)
   have hs1:=(firstI_drop may l k a ha).symm.trans hs.out
   obtain⟨Z,hZ⟩:∃ Z,may a=Z:=⟨_,rfl⟩
   rw [hZ] at q1 hs1
   obtain⟨c0,c1p,c1n,c1c,ea⟩:=hC'.out a
   rw [ea] at q1
   have d0:=fun y=>(hc.plus y).c0 _ (by rw [ea];rfl)
   have d1:=fun y=>(hc.plus y).cs 0 _ (by rw [ea];rfl)
   have q1':=Lib.hid q1
   have a6:=Lib.hid (wr_succ k n hlt hl'.out)
   clear q1 hZ hc ha hs ea
   cases Z with
   | false =>
    have hs2:=Lib.hid (show firstI may (l.drop (k+1)) (k+1)=R by rw [← hs1,if_neg (by decide)])
    clear hs1
    go_wp2_with (refine pure_call1 q1'.out ?_;rintro e w' ⟨rfl,x,rfl⟩)
    go_roundw
    case rel=>exact⟨k+1,hlt,congrArg (Value.int .i64) a6.out,hs2,x,rfl⟩
    case measure=>exact step_less k n hlt a6.out
   | true =>
    have hs2:=Lib.hid (show (k:Int)=R by rw [← hs1,if_pos rfl])
    clear hs1
    go_wp2_with (refine pure_call1 q1'.out ?_;rintro e w' ⟨rfl,x,rfl⟩)
    go_ret
    exact⟨congrArg (fun z=>Ending.returned (Value.int .i64 z)) hs2.out,x,rfl⟩
  ·obtain rfl:k=n:=by omega
   have hs2:=Lib.hid (show (-1:Int)=R by
    rw [← hs.out,List.drop_of_length_le (by rw [hn'.out];exact Nat.le_refl _)];rfl)
   clear hs hlt hk
   go_wp2
   go_ret
   exact⟨congrArg (fun z=>Ending.returned (Value.int .i64 z)) hs2.out,y,rfl⟩
set_option maxHeartbeats 8000000 in
theorem first_Field {α:Type} (cells:α→List Value) (hC:∀ x,shp_Field (cells x)) (may:α→Bool) (g:FuncId) (first caps:Array Value) (K:α→Prop) (w:World) (A:Sl α) (hA:A.In w 2 cells K) (hl:A.l.length≤1048576)
  (hent:∀ args w,(callFunc g args).run Tryz.prog w=.ok (.enter g args) w)
  (hf:∀ x ∈ A.l,Kp Tryz.prog w g (first.push (.agg (cells x).toArray)++caps) (.bool (may x))) :
  Kp Tryz.prog w 198 #[A.v,.func (.func g) first caps] (.int .i64 (firstI may A.l 0)):=by
 intro y0
 obtain⟨p,cap,l⟩:=A
 simp only [Sl.v] at hl hf ⊢
 obtain⟨n,hn⟩:∃ n,l.length=n:=⟨_,rfl⟩
 have hA:=hA.row.plus y0
 have hf:=fun x hx=>((hf x hx).up y0).pure
 obtain⟨W,hW⟩:∃ W,plus w y0=W:=⟨_,rfl⟩
 rw [hW] at hA ⊢
 simp only [hW] at hf
 rw [hn] at hl
 clear hW
 obtain⟨R,hR⟩:∃ R,firstI may l 0=R:=⟨_,rfl⟩
 have h0:firstI may (l.drop 0) 0=R:=hR
 rw [hn,hR]
 have hA':=Lib.hid hA
 have hn':=Lib.hid hn
 have hl':=Lib.hid hl
 have h0':=Lib.hid h0
 have hf':=Lib.hid hf
 have hC':=Lib.hid hC
 clear hA hl hn hR h0 hf hC
 go_enter Tryz.func198,Tryz.ntmps198
 go_wp2
 go_loopw [5,6,9] (fun _ _ iv wr=>∃ k:Nat,k≤n∧iv=.int .i64 (k:Int)∧Hid (firstI may (l.drop k) k=R)∧∃ y,wr=plus W y) (fun _ _ iv _=>n - (intOf iv).toNat)
 case atStart=>exact⟨0,Nat.zero_le _,rfl,h0',⟨#[],W.drawn⟩,(plus_self W).symm⟩
 case round =>
  obtain⟨k,hk,rfl,hs,y,rfl⟩:=hrel
  by_cases hlt:k < n
  ·obtain⟨a,ha⟩:∃ s,l[k]?=some s:=⟨l[k]'(by rw [hn'.out];exact hlt),List.getElem?_eq_getElem _⟩
   obtain⟨pa,rfl,hc⟩:=hA'.out k a ha
   have q1:=hf'.out a (List.mem_of_getElem? ha)
   have hs1:=(firstI_drop may l k a ha).symm.trans hs.out
   obtain⟨Z,hZ⟩:∃ Z,may a=Z:=⟨_,rfl⟩
   rw [hZ] at q1 hs1
   obtain⟨c0,c1,ea⟩:=hC'.out a
   rw [ea] at q1
   have d0:=fun y=>(hc.plus y).c0 _ (by rw [ea];rfl)
   have d1:=fun y=>(hc.plus y).cs 0 _ (by rw [ea];rfl)
   have q1':=Lib.hid q1
   have a6:=Lib.hid (wr_succ k n hlt hl'.out)
   clear q1 hZ hc ha hs ea
   cases Z with
   | false =>
    have hs2:=Lib.hid (show firstI may (l.drop (k+1)) (k+1)=R by rw [← hs1,if_neg (by decide)])
    clear hs1
    go_wp2_with (refine pure_call1 q1'.out ?_;rintro e w' ⟨rfl,x,rfl⟩)
    go_roundw
    case rel=>exact⟨k+1,hlt,congrArg (Value.int .i64) a6.out,hs2,x,rfl⟩
    case measure=>exact step_less k n hlt a6.out
   | true =>
    have hs2:=Lib.hid (show (k:Int)=R by rw [← hs1,if_pos rfl])
    clear hs1
    go_wp2_with (refine pure_call1 q1'.out ?_;rintro e w' ⟨rfl,x,rfl⟩)
    go_ret
    exact⟨congrArg (fun z=>Ending.returned (Value.int .i64 z)) hs2.out,x,rfl⟩
  ·obtain rfl:k=n:=by omega
   have hs2:=Lib.hid (show (-1:Int)=R by
    rw [← hs.out,List.drop_of_length_le (by rw [hn'.out];exact Nat.le_refl _)];rfl)
   clear hs hlt hk
   go_wp2
   go_ret
   exact⟨congrArg (fun z=>Ending.returned (Value.int .i64 z)) hs2.out,y,rfl⟩
set_option maxHeartbeats 8000000 in
theorem first_State {α:Type} (cells:α→List Value) (hC:∀ x,shp_State (cells x)) (may:α→Bool) (g:FuncId) (first caps:Array Value) (K:α→Prop) (w:World) (A:Sl α) (hA:A.In w 5 cells K) (hl:A.l.length≤1048576)
  (hent:∀ args w,(callFunc g args).run Tryz.prog w=.ok (.enter g args) w)
  (hf:∀ x ∈ A.l,Kp Tryz.prog w g (first.push (.agg (cells x).toArray)++caps) (.bool (may x))) :
  Kp Tryz.prog w 149 #[A.v,.func (.func g) first caps] (.int .i64 (firstI may A.l 0)):=by
 intro y0
 obtain⟨p,cap,l⟩:=A
 simp only [Sl.v] at hl hf ⊢
 obtain⟨n,hn⟩:∃ n,l.length=n:=⟨_,rfl⟩
 have hA:=hA.row.plus y0
 have hf:=fun x hx=>((hf x hx).up y0).pure
 obtain⟨W,hW⟩:∃ W,plus w y0=W:=⟨_,rfl⟩
 rw [hW] at hA ⊢
 simp only [hW] at hf
 rw [hn] at hl
 clear hW
 obtain⟨R,hR⟩:∃ R,firstI may l 0=R:=⟨_,rfl⟩
 have h0:firstI may (l.drop 0) 0=R:=hR
 rw [hn,hR]
 have hA':=Lib.hid hA
 have hn':=Lib.hid hn
 have hl':=Lib.hid hl
 have h0':=Lib.hid h0
 have hf':=Lib.hid hf
 have hC':=Lib.hid hC
 clear hA hl hn hR h0 hf hC
 go_enter Tryz.func149,Tryz.ntmps149
 go_wp2
 go_loopw [5,6,9] (fun _ _ iv wr=>∃ k:Nat,k≤n∧iv=.int .i64 (k:Int)∧Hid (firstI may (l.drop k) k=R)∧∃ y,wr=plus W y) (fun _ _ iv _=>n - (intOf iv).toNat)
 case atStart=>exact⟨0,Nat.zero_le _,rfl,h0',⟨#[],W.drawn⟩,(plus_self W).symm⟩
 case round =>
  obtain⟨k,hk,rfl,hs,y,rfl⟩:=hrel
  by_cases hlt:k < n
  ·obtain⟨a,ha⟩:∃ s,l[k]?=some s:=⟨l[k]'(by rw [hn'.out];exact hlt),List.getElem?_eq_getElem _⟩
   obtain⟨pa,rfl,hc⟩:=hA'.out k a ha
   have q1:=hf'.out a (List.mem_of_getElem? ha)
   have hs1:=(firstI_drop may l k a ha).symm.trans hs.out
   obtain⟨Z,hZ⟩:∃ Z,may a=Z:=⟨_,rfl⟩
   rw [hZ] at q1 hs1
   obtain⟨c0,c1p,c1n,c1c,c2,c3p,c3n,c3c,c4p,c4n,c4c,ea⟩:=hC'.out a
   rw [ea] at q1
   have d0:=fun y=>(hc.plus y).c0 _ (by rw [ea];rfl)
   have d1:=fun y=>(hc.plus y).cs 0 _ (by rw [ea];rfl)
   have d2:=fun y=>(hc.plus y).cs 1 _ (by rw [ea];rfl)
   have d3:=fun y=>(hc.plus y).cs 2 _ (by rw [ea];rfl)
   have d4:=fun y=>(hc.plus y).cs 3 _ (by rw [ea];rfl)
   have q1':=Lib.hid q1
   have a6:=Lib.hid (wr_succ k n hlt hl'.out)
   clear q1 hZ hc ha hs ea
   cases Z with
   | false =>
    have hs2:=Lib.hid (show firstI may (l.drop (k+1)) (k+1)=R by rw [← hs1,if_neg (by decide)])
    clear hs1
    go_wp2_with (refine pure_call1 q1'.out ?_;rintro e w' ⟨rfl,x,rfl⟩)
    go_roundw
    case rel=>exact⟨k+1,hlt,congrArg (Value.int .i64) a6.out,hs2,x,rfl⟩
    case measure=>exact step_less k n hlt a6.out
   | true =>
    have hs2:=Lib.hid (show (k:Int)=R by rw [← hs1,if_pos rfl])
    clear hs1
    go_wp2_with (refine pure_call1 q1'.out ?_;rintro e w' ⟨rfl,x,rfl⟩)
    go_ret
    exact⟨congrArg (fun z=>Ending.returned (Value.int .i64 z)) hs2.out,x,rfl⟩
  ·obtain rfl:k=n:=by omega
   have hs2:=Lib.hid (show (-1:Int)=R by
    rw [← hs.out,List.drop_of_length_le (by rw [hn'.out];exact Nat.le_refl _)];rfl)
   clear hs hlt hk
   go_wp2
   go_ret
   exact⟨congrArg (fun z=>Ending.returned (Value.int .i64 z)) hs2.out,y,rfl⟩
set_option maxHeartbeats 8000000 in
theorem first_Action {α:Type} (cells:α→List Value) (hC:∀ x,shp_Action (cells x)) (may:α→Bool) (g:FuncId) (first caps:Array Value) (K:α→Prop) (w:World) (A:Sl α) (hA:A.In w 3 cells K) (hl:A.l.length≤1048576)
  (hent:∀ args w,(callFunc g args).run Tryz.prog w=.ok (.enter g args) w)
  (hf:∀ x ∈ A.l,Kp Tryz.prog w g (first.push (.agg (cells x).toArray)++caps) (.bool (may x))) :
  Kp Tryz.prog w 153 #[A.v,.func (.func g) first caps] (.int .i64 (firstI may A.l 0)):=by
 intro y0
 obtain⟨p,cap,l⟩:=A
 simp only [Sl.v] at hl hf ⊢
 obtain⟨n,hn⟩:∃ n,l.length=n:=⟨_,rfl⟩
 have hA:=hA.row.plus y0
 have hf:=fun x hx=>((hf x hx).up y0).pure
 obtain⟨W,hW⟩:∃ W,plus w y0=W:=⟨_,rfl⟩
 rw [hW] at hA ⊢
 simp only [hW] at hf
 rw [hn] at hl
 clear hW
 obtain⟨R,hR⟩:∃ R,firstI may l 0=R:=⟨_,rfl⟩
 have h0:firstI may (l.drop 0) 0=R:=hR
 rw [hn,hR]
 have hA':=Lib.hid hA
 have hn':=Lib.hid hn
 have hl':=Lib.hid hl
 have h0':=Lib.hid h0
 have hf':=Lib.hid hf
 have hC':=Lib.hid hC
 clear hA hl hn hR h0 hf hC
 go_enter Tryz.func153,Tryz.ntmps153
 go_wp2
 go_loopw [5,6,9] (fun _ _ iv wr=>∃ k:Nat,k≤n∧iv=.int .i64 (k:Int)∧Hid (firstI may (l.drop k) k=R)∧∃ y,wr=plus W y) (fun _ _ iv _=>n - (intOf iv).toNat)
 case atStart=>exact⟨0,Nat.zero_le _,rfl,h0',⟨#[],W.drawn⟩,(plus_self W).symm⟩
 case round =>
  obtain⟨k,hk,rfl,hs,y,rfl⟩:=hrel
  by_cases hlt:k < n
  ·obtain⟨a,ha⟩:∃ s,l[k]?=some s:=⟨l[k]'(by rw [hn'.out];exact hlt),List.getElem?_eq_getElem _⟩
   obtain⟨pa,rfl,hc⟩:=hA'.out k a ha
   have q1:=hf'.out a (List.mem_of_getElem? ha)
   have hs1:=(firstI_drop may l k a ha).symm.trans hs.out
   obtain⟨Z,hZ⟩:∃ Z,may a=Z:=⟨_,rfl⟩
   rw [hZ] at q1 hs1
   obtain⟨c0,c1p,c1n,c1c,c2p,c2n,c2c,ea⟩:=hC'.out a
   rw [ea] at q1
   have d0:=fun y=>(hc.plus y).c0 _ (by rw [ea];rfl)
   have d1:=fun y=>(hc.plus y).cs 0 _ (by rw [ea];rfl)
   have d2:=fun y=>(hc.plus y).cs 1 _ (by rw [ea];rfl)
   have q1':=Lib.hid q1
   have a6:=Lib.hid (wr_succ k n hlt hl'.out)
   clear q1 hZ hc ha hs ea
   cases Z with
   | false =>
    have hs2:=Lib.hid (show firstI may (l.drop (k+1)) (k+1)=R by rw [← hs1,if_neg (by decide)])
    clear hs1
    go_wp2_with (refine pure_call1 q1'.out ?_;rintro e w' ⟨rfl,x,rfl⟩)
    go_roundw
    case rel=>exact⟨k+1,hlt,congrArg (Value.int .i64) a6.out,hs2,x,rfl⟩
    case measure=>exact step_less k n hlt a6.out
   | true =>
    have hs2:=Lib.hid (show (k:Int)=R by rw [← hs1,if_pos rfl])
    clear hs1
    go_wp2_with (refine pure_call1 q1'.out ?_;rintro e w' ⟨rfl,x,rfl⟩)
    go_ret
    exact⟨congrArg (fun z=>Ending.returned (Value.int .i64 z)) hs2.out,x,rfl⟩
  ·obtain rfl:k=n:=by omega
   have hs2:=Lib.hid (show (-1:Int)=R by
    rw [← hs.out,List.drop_of_length_le (by rw [hn'.out];exact Nat.le_refl _)];rfl)
   clear hs hlt hk
   go_wp2
   go_ret
   exact⟨congrArg (fun z=>Ending.returned (Value.int .i64 z)) hs2.out,y,rfl⟩
set_option maxHeartbeats 8000000 in
theorem first_Table {α:Type} (cells:α→List Value) (hC:∀ x,shp_Table (cells x)) (may:α→Bool) (g:FuncId) (first caps:Array Value) (K:α→Prop) (w:World) (A:Sl α) (hA:A.In w 5 cells K) (hl:A.l.length≤1048576)
  (hent:∀ args w,(callFunc g args).run Tryz.prog w=.ok (.enter g args) w)
  (hf:∀ x ∈ A.l,Kp Tryz.prog w g (first.push (.agg (cells x).toArray)++caps) (.bool (may x))) :
  Kp Tryz.prog w 156 #[A.v,.func (.func g) first caps] (.int .i64 (firstI may A.l 0)):=by
 intro y0
 obtain⟨p,cap,l⟩:=A
 simp only [Sl.v] at hl hf ⊢
 obtain⟨n,hn⟩:∃ n,l.length=n:=⟨_,rfl⟩
 have hA:=hA.row.plus y0
 have hf:=fun x hx=>((hf x hx).up y0).pure
 obtain⟨W,hW⟩:∃ W,plus w y0=W:=⟨_,rfl⟩
 rw [hW] at hA ⊢
 simp only [hW] at hf
 rw [hn] at hl
 clear hW
 obtain⟨R,hR⟩:∃ R,firstI may l 0=R:=⟨_,rfl⟩
 have h0:firstI may (l.drop 0) 0=R:=hR
 rw [hn,hR]
 have hA':=Lib.hid hA
 have hn':=Lib.hid hn
 have hl':=Lib.hid hl
 have h0':=Lib.hid h0
 have hf':=Lib.hid hf
 have hC':=Lib.hid hC
 clear hA hl hn hR h0 hf hC
 go_enter Tryz.func156,Tryz.ntmps156
 go_wp2
 go_loopw [5,6,9] (fun _ _ iv wr=>∃ k:Nat,k≤n∧iv=.int .i64 (k:Int)∧Hid (firstI may (l.drop k) k=R)∧∃ y,wr=plus W y) (fun _ _ iv _=>n - (intOf iv).toNat)
 case atStart=>exact⟨0,Nat.zero_le _,rfl,h0',⟨#[],W.drawn⟩,(plus_self W).symm⟩
 case round =>
  obtain⟨k,hk,rfl,hs,y,rfl⟩:=hrel
  by_cases hlt:k < n
  ·obtain⟨a,ha⟩:∃ s,l[k]?=some s:=⟨l[k]'(by rw [hn'.out];exact hlt),List.getElem?_eq_getElem _⟩
   obtain⟨pa,rfl,hc⟩:=hA'.out k a ha
   have q1:=hf'.out a (List.mem_of_getElem? ha)
   have hs1:=(firstI_drop may l k a ha).symm.trans hs.out
   obtain⟨Z,hZ⟩:∃ Z,may a=Z:=⟨_,rfl⟩
   rw [hZ] at q1 hs1
   obtain⟨c0,c1p,c1n,c1c,c2p,c2n,c2c,c3,c4p,c4n,c4c,ea⟩:=hC'.out a
   rw [ea] at q1
   have d0:=fun y=>(hc.plus y).c0 _ (by rw [ea];rfl)
   have d1:=fun y=>(hc.plus y).cs 0 _ (by rw [ea];rfl)
   have d2:=fun y=>(hc.plus y).cs 1 _ (by rw [ea];rfl)
   have d3:=fun y=>(hc.plus y).cs 2 _ (by rw [ea];rfl)
   have d4:=fun y=>(hc.plus y).cs 3 _ (by rw [ea];rfl)
   have q1':=Lib.hid q1
   have a6:=Lib.hid (wr_succ k n hlt hl'.out)
   clear q1 hZ hc ha hs ea
   cases Z with
   | false =>
    have hs2:=Lib.hid (show firstI may (l.drop (k+1)) (k+1)=R by rw [← hs1,if_neg (by decide)])
    clear hs1
    go_wp2_with (refine pure_call1 q1'.out ?_;rintro e w' ⟨rfl,x,rfl⟩)
    go_roundw
    case rel=>exact⟨k+1,hlt,congrArg (Value.int .i64) a6.out,hs2,x,rfl⟩
    case measure=>exact step_less k n hlt a6.out
   | true =>
    have hs2:=Lib.hid (show (k:Int)=R by rw [← hs1,if_pos rfl])
    clear hs1
    go_wp2_with (refine pure_call1 q1'.out ?_;rintro e w' ⟨rfl,x,rfl⟩)
    go_ret
    exact⟨congrArg (fun z=>Ending.returned (Value.int .i64 z)) hs2.out,x,rfl⟩
  ·obtain rfl:k=n:=by omega
   have hs2:=Lib.hid (show (-1:Int)=R by
    rw [← hs.out,List.drop_of_length_le (by rw [hn'.out];exact Nat.le_refl _)];rfl)
   clear hs hlt hk
   go_wp2
   go_ret
   exact⟨congrArg (fun z=>Ending.returned (Value.int .i64 z)) hs2.out,y,rfl⟩
set_option maxHeartbeats 8000000 in
theorem first_Expr {α:Type} (cells:α→List Value) (hC:∀ x,shp_Expr (cells x)) (may:α→Bool) (g:FuncId) (first caps:Array Value) (K:α→Prop) (w:World) (A:Sl α) (hA:A.In w 9 cells K) (hl:A.l.length≤1048576)
  (hent:∀ args w,(callFunc g args).run Tryz.prog w=.ok (.enter g args) w)
  (hf:∀ x ∈ A.l,Kp Tryz.prog w g (first.push (.agg (cells x).toArray)++caps) (.bool (may x))) :
  Kp Tryz.prog w 160 #[A.v,.func (.func g) first caps] (.int .i64 (firstI may A.l 0)):=by
 intro y0
 obtain⟨p,cap,l⟩:=A
 simp only [Sl.v] at hl hf ⊢
 obtain⟨n,hn⟩:∃ n,l.length=n:=⟨_,rfl⟩
 have hA:=hA.row.plus y0
 have hf:=fun x hx=>((hf x hx).up y0).pure
 obtain⟨W,hW⟩:∃ W,plus w y0=W:=⟨_,rfl⟩
 rw [hW] at hA ⊢
 simp only [hW] at hf
 rw [hn] at hl
 clear hW
 obtain⟨R,hR⟩:∃ R,firstI may l 0=R:=⟨_,rfl⟩
 have h0:firstI may (l.drop 0) 0=R:=hR
 rw [hn,hR]
 have hA':=Lib.hid hA
 have hn':=Lib.hid hn
 have hl':=Lib.hid hl
 have h0':=Lib.hid h0
 have hf':=Lib.hid hf
 have hC':=Lib.hid hC
 clear hA hl hn hR h0 hf hC
 go_enter Tryz.func160,Tryz.ntmps160
 go_wp2
 go_loopw [5,6,9] (fun _ _ iv wr=>∃ k:Nat,k≤n∧iv=.int .i64 (k:Int)∧Hid (firstI may (l.drop k) k=R)∧∃ y,wr=plus W y) (fun _ _ iv _=>n - (intOf iv).toNat)
 case atStart=>exact⟨0,Nat.zero_le _,rfl,h0',⟨#[],W.drawn⟩,(plus_self W).symm⟩
 case round =>
  obtain⟨k,hk,rfl,hs,y,rfl⟩:=hrel
  by_cases hlt:k < n
  ·obtain⟨a,ha⟩:∃ s,l[k]?=some s:=⟨l[k]'(by rw [hn'.out];exact hlt),List.getElem?_eq_getElem _⟩
   obtain⟨pa,rfl,hc⟩:=hA'.out k a ha
   have q1:=hf'.out a (List.mem_of_getElem? ha)
   have hs1:=(firstI_drop may l k a ha).symm.trans hs.out
   obtain⟨Z,hZ⟩:∃ Z,may a=Z:=⟨_,rfl⟩
   rw [hZ] at q1 hs1
   obtain⟨c0,c1,c2,c3,c4,c5,c6,c7,c8p,c8n,c8c,ea⟩:=hC'.out a
   rw [ea] at q1
   have d0:=fun y=>(hc.plus y).c0 _ (by rw [ea];rfl)
   have d1:=fun y=>(hc.plus y).cs 0 _ (by rw [ea];rfl)
   have d2:=fun y=>(hc.plus y).cs 1 _ (by rw [ea];rfl)
   have d3:=fun y=>(hc.plus y).cs 2 _ (by rw [ea];rfl)
   have d4:=fun y=>(hc.plus y).cs 3 _ (by rw [ea];rfl)
   have d5:=fun y=>(hc.plus y).cs 4 _ (by rw [ea];rfl)
   have d6:=fun y=>(hc.plus y).cs 5 _ (by rw [ea];rfl)
   have d7:=fun y=>(hc.plus y).cs 6 _ (by rw [ea];rfl)
   have d8:=fun y=>(hc.plus y).cs 7 _ (by rw [ea];rfl)
   have q1':=Lib.hid q1
   have a6:=Lib.hid (wr_succ k n hlt hl'.out)
   clear q1 hZ hc ha hs ea
   cases Z with
   | false =>
    have hs2:=Lib.hid (show firstI may (l.drop (k+1)) (k+1)=R by rw [← hs1,if_neg (by decide)])
    clear hs1
    go_wp2_with (refine pure_call1 q1'.out ?_;rintro e w' ⟨rfl,x,rfl⟩)
    go_roundw
    case rel=>exact⟨k+1,hlt,congrArg (Value.int .i64) a6.out,hs2,x,rfl⟩
    case measure=>exact step_less k n hlt a6.out
   | true =>
    have hs2:=Lib.hid (show (k:Int)=R by rw [← hs1,if_pos rfl])
    clear hs1
    go_wp2_with (refine pure_call1 q1'.out ?_;rintro e w' ⟨rfl,x,rfl⟩)
    go_ret
    exact⟨congrArg (fun z=>Ending.returned (Value.int .i64 z)) hs2.out,x,rfl⟩
  ·obtain rfl:k=n:=by omega
   have hs2:=Lib.hid (show (-1:Int)=R by
    rw [← hs.out,List.drop_of_length_le (by rw [hn'.out];exact Nat.le_refl _)];rfl)
   clear hs hlt hk
   go_wp2
   go_ret
   exact⟨congrArg (fun z=>Ending.returned (Value.int .i64 z)) hs2.out,y,rfl⟩
set_option maxHeartbeats 8000000 in
theorem first_string (may:ByteArray→Bool) (g:FuncId) (first caps:Array Value) (K:ByteArray→Prop) (w:World) (A:Sl ByteArray) (hA:A.In w 1 strCells K) (hl:A.l.length≤1048576)
  (hent:∀ args w,(callFunc g args).run Tryz.prog w=.ok (.enter g args) w)
  (hf:∀ x ∈ A.l,Kp Tryz.prog w g (first.push (.string x)++caps) (.bool (may x))) :
  Kp Tryz.prog w 200 #[A.v,.func (.func g) first caps] (.int .i64 (firstI may A.l 0)):=by
 intro y0
 obtain⟨p,cap,l⟩:=A
 simp only [Sl.v] at hl hf ⊢
 obtain⟨n,hn⟩:∃ n,l.length=n:=⟨_,rfl⟩
 have hA:=hA.row.plus y0
 have hf:=fun x hx=>((hf x hx).up y0).pure
 obtain⟨W,hW⟩:∃ W,plus w y0=W:=⟨_,rfl⟩
 rw [hW] at hA ⊢
 simp only [hW] at hf
 rw [hn] at hl
 clear hW
 obtain⟨R,hR⟩:∃ R,firstI may l 0=R:=⟨_,rfl⟩
 have h0:firstI may (l.drop 0) 0=R:=hR
 rw [hn,hR]
 have hA':=Lib.hid hA
 have hn':=Lib.hid hn
 have hl':=Lib.hid hl
 have h0':=Lib.hid h0
 have hf':=Lib.hid hf
 clear hA hl hn hR h0 hf
 go_enter Tryz.func200,Tryz.ntmps200
 go_wp2
 go_loopw [5,6,9] (fun _ _ iv wr=>∃ k:Nat,k≤n∧iv=.int .i64 (k:Int)∧Hid (firstI may (l.drop k) k=R)∧∃ y,wr=plus W y) (fun _ _ iv _=>n - (intOf iv).toNat)
 case atStart=>exact⟨0,Nat.zero_le _,rfl,h0',⟨#[],W.drawn⟩,(plus_self W).symm⟩
 case round =>
  obtain⟨k,hk,rfl,hs,y,rfl⟩:=hrel
  by_cases hlt:k < n
  ·obtain⟨a,ha⟩:∃ s,l[k]?=some s:=⟨l[k]'(by rw [hn'.out];exact hlt),List.getElem?_eq_getElem _⟩
   obtain⟨pa,rfl,hc⟩:=hA'.out k a ha
   have q1:=hf'.out a (List.mem_of_getElem? ha)
   have hs1:=(firstI_drop may l k a ha).symm.trans hs.out
   obtain⟨Z,hZ⟩:∃ Z,may a=Z:=⟨_,rfl⟩
   rw [hZ] at q1 hs1
   have d0:=fun y=>(hc.plus y).c0 _ rfl
   simp only [Nat.mul_one] at d0
   have q1':=Lib.hid q1
   have a6:=Lib.hid (wr_succ k n hlt hl'.out)
   clear q1 hZ hc ha hs 
   cases Z with
   | false =>
    have hs2:=Lib.hid (show firstI may (l.drop (k+1)) (k+1)=R by rw [← hs1,if_neg (by decide)])
    clear hs1
    go_wp2_with (refine (q1'.out _).mono ?_;rintro e w' ⟨rfl,x,rfl⟩)
    go_roundw
    case rel=>exact⟨k+1,hlt,congrArg (Value.int .i64) a6.out,hs2,x,rfl⟩
    case measure=>exact step_less k n hlt a6.out
   | true =>
    have hs2:=Lib.hid (show (k:Int)=R by rw [← hs1,if_pos rfl])
    clear hs1
    go_wp2_with (refine (q1'.out _).mono ?_;rintro e w' ⟨rfl,x,rfl⟩)
    go_ret
    exact⟨congrArg (fun z=>Ending.returned (Value.int .i64 z)) hs2.out,x,rfl⟩
  ·obtain rfl:k=n:=by omega
   have hs2:=Lib.hid (show (-1:Int)=R by
    rw [← hs.out,List.drop_of_length_le (by rw [hn'.out];exact Nat.le_refl _)];rfl)
   clear hs hlt hk
   go_wp2
   go_ret
   exact⟨congrArg (fun z=>Ending.returned (Value.int .i64 z)) hs2.out,y,rfl⟩
end Go.Proofs.YtobhijbncchpiaaGreat
