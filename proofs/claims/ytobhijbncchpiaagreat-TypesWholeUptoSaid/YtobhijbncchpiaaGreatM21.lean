/-
  WHAT IS PROVED HERE: a part of the proof (made narrower and merged by program; the parts: Vv Vw Vx Vy Wr Da).
-/
import Derived.Recover
import Derived.Test.YtobhijbncchpiaaGreatM17
import Derived.Test.YtobhijbncchpiaaGreatM20
import Derived.Test.YtobhijbncchpiaaGreatM12
namespace Go.Proofs.YtobhijbncchpiaaGreat
open Go.RowKit
theorem W64 {x:Int} (h1:-9223372036854775808≤x) (h2:x≤9223372036854775807):wrap64 x=x:=by unfold wrap64;omega
theorem endE_z {v:Value}:endE 0 v=.returned v:=rfl
theorem endE_n {r:Int} {v:Value} (h:¬ r=0):endE r v=gaveE r:=by rw [endE,if_neg h]
set_option maxRecDepth 100000 in
set_option maxHeartbeats 16000000 in
theorem t_type (p:Pr) (hz:p.sz≤1048576) (hW:Wide p) (act:Int):∀ (e:Ex) (n:Nat) (w:World),e.may n=true→p.In w→e.In w→e.wt≤1048576 →
  KpE Tryz.prog w 28 #[scV p act,e.val] (endE (e.ty p act).1 (e.ty p act).2.v):=by
 intro e
 induction e using Ex.ind with
 | _ e ih =>
 intro n w hm hin he hb
 have hty:=Ex.ty_eq p act e
 cases n with
 | zero=>simp [Ex.may] at hm
 | succ n =>
 rw [Ex.may] at hm
 simp only [Bool.and_eq_true] at hm
 obtain⟨-,hfit,hk⟩:=hm
 have hkid:=eachB_all hk
 unfold Ex.fits at hfit
 simp only [Bool.and_eq_true] at hfit
 obtain⟨-,-,-,hend,-⟩:=hfit
 have hwt:=Ex.wt_eq e
 have hlf:=t_leaf p w hin hz act e he hb
 have hone:=fun t h=>t_ofOne e t w h
 have htwo:=fun x y s t=>t_ofTwo e x y s t w he
 obtain⟨⟨R,t⟩,hR⟩:∃ R,e.ty p act=R:=⟨_,rfl⟩
 rw [hR] at hty ⊢
 clear hR hk
 obtain⟨_,_,hlit,_,_,_,_,_,_,hrow,hkids⟩:=he
 obtain⟨op,⟨lw,lh,ll⟩,hd,nm,eh,el,ep,cap,args⟩:=e
 simp only [Ex.args,Ex.head,Ex.name,Ex.p,Ex.op,Ex.lit,Ex.hi,Ex.lo] at ih hrow hkids hwt hty hkid hend hlf hone htwo
 rw [hwt] at hb
 clear hwt hlit
 cases args with
 | nil =>
  simp only [List.map_nil,tyC] at hty
  have hlf:=hlf rfl
  rw [← hty] at hlf
  simp only at hlf ⊢
  clear hone htwo
  by_cases r0:R=0
  ·subst r0
   exact typeOf_leaf _ _ _ _ _ _ _ _ _ _ _ _ _ _ _ _ _ _ _ _ _ act _ _ _ _ _ _ _ _ _ _ op t.w t.tr t.fr w rfl hlf
  ·rw [endE_n r0] at hlf ⊢
   exact typeOf_leafE _ _ _ _ _ _ _ _ _ _ _ _ _ _ _ _ _ _ _ _ _ act _ _ _ _ _ _ _ _ _ _ op R w rfl hlf
 | cons a l =>
  have hma:=List.mem_cons_self (a:=a) (l:=l)
  have hea:=le_sum_of Ex.wt (a :: l) a hma
  have ka:=ih a hma n w (hkid a hma) hin (hkids a hma) (by omega)
  have wa:=Ex.ty_wide p hW act a n (hkid a hma)
  have fa:=Ex.ty_fine p act a
  obtain⟨pa,hpa,hc⟩:=hrow 0 a rfl
  simp only [Nat.zero_mul,Addr.add_zero'] at hc
  simp only [List.map_cons,tyC] at hty
  obtain⟨⟨ra,ta⟩,hRa⟩:∃ r,a.ty p act=r:=⟨_,rfl⟩
  rw [hRa] at ka hty wa fa
  have hlen:0 < (a :: l).length:=Nat.succ_pos _
  subst hpa
  clear hlf
  by_cases r0:ra=0
  ·subst r0
   rw [endE_z] at ka
   simp only [ne_eq,not_true_eq_false,if_false] at hty
   have wa:=wa rfl
   have fa:=fa rfl
   have kw:=t_width ta w
   by_cases o14:op=14
   ·subst o14
    rw [if_pos (by decide)] at hty
    by_cases q:bitsE ta=0
    ·rw [if_neg (by simpa using q)] at hty
     rw [if_pos q] at kw
     obtain⟨rfl,rfl⟩:R=0∧t=ta:=by injection hty with h1 h2;exact⟨h1,h2⟩
     obtain⟨tw,tt,tf⟩:=t
     obtain⟨rfl,rfl⟩:tt=false∧tf=false:=bitsE_zero q
     exact typeOf_sh14 _ _ _ _ _ _ _ _ _ _ _ _ _ _ _ _ _ _ _ _ _ act _ _ _ _ _ _ _ pa _ _ tw _ _ _ _ _ _ _ _ _ _ _ w hlen hc ka kw
    ·rw [if_pos q] at hty
     rw [if_neg q] at kw
     obtain⟨rfl,rfl⟩:R=bitsE ta∧t=ty0:=by injection hty with h1 h2;exact⟨h1,h2⟩
     simp only
     rw [endE_n q]
     exact typeOf_sh14E _ _ _ _ _ _ _ _ _ _ _ _ _ _ _ _ _ _ _ _ _ act _ _ _ _ _ _ _ pa _ _ ta.w ta.tr ta.fr _ _ _ _ _ _ _ _ _ _ _ _ w hlen hc ka kw
   by_cases o15:op=15
   ·subst o15
    rw [if_pos (by decide)] at hty
    by_cases q:bitsE ta=0
    ·rw [if_neg (by simpa using q)] at hty
     rw [if_pos q] at kw
     obtain⟨rfl,rfl⟩:R=0∧t=ta:=by injection hty with h1 h2;exact⟨h1,h2⟩
     obtain⟨tw,tt,tf⟩:=t
     obtain⟨rfl,rfl⟩:tt=false∧tf=false:=bitsE_zero q
     exact typeOf_sh15 _ _ _ _ _ _ _ _ _ _ _ _ _ _ _ _ _ _ _ _ _ act _ _ _ _ _ _ _ pa _ _ tw _ _ _ _ _ _ _ _ _ _ _ w hlen hc ka kw
    ·rw [if_pos q] at hty
     rw [if_neg q] at kw
     obtain⟨rfl,rfl⟩:R=bitsE ta∧t=ty0:=by injection hty with h1 h2;exact⟨h1,h2⟩
     simp only
     rw [endE_n q]
     exact typeOf_sh15E _ _ _ _ _ _ _ _ _ _ _ _ _ _ _ _ _ _ _ _ _ act _ _ _ _ _ _ _ pa _ _ ta.w ta.tr ta.fr _ _ _ _ _ _ _ _ _ _ _ _ w hlen hc ka kw
   rw [if_neg (by omega)] at hty
   have o14':(op == 14)=false:=by simpa using o14
   have o15':(op == 15)=false:=by simpa using o15
   clear kw
   cases l with
   | nil =>
    simp only [List.map_nil] at hty
    have kO:=hone ta (fun h1 h2=>by
     have hb2:=bitsE_zero h1
     have hw2:1≤ta.w∧ta.w≤128:=wa hb2.1 hb2.2
     have he2:0≤el∧el≤eh∧eh < 128:=by
      unfold endB at hend
      split at hend <;> simp only [Bool.and_eq_true,decide_eq_true_eq,beq_iff_eq] at hend <;> omega
     have e1:wrap64 (eh - el)=eh - el:=W64 (by omega) (by omega)
     rw [e1]
     exact W64 (by omega) (by omega))
    rw [← hty] at kO
    simp only at kO ⊢
    by_cases r1:R=0
    ·subst r1
     exact typeOf_one _ _ _ _ _ _ _ _ _ _ _ _ _ _ _ _ _ _ _ _ _ act _ _ _ _ _ _ _ pa _ _ op ta.w ta.tr ta.fr _ _ _ _ _ _ _ _ _ _ _ t.w t.tr t.fr w rfl hc o14' o15' ka kO
    ·rw [endE_n r1] at kO ⊢
     exact typeOf_oneE _ _ _ _ _ _ _ _ _ _ _ _ _ _ _ _ _ _ _ _ _ act _ _ _ _ _ _ _ pa _ _ op ta.w ta.tr ta.fr _ _ _ _ _ _ _ _ _ _ _ R w rfl hc o14' o15' ka kO
   | cons d l =>
    simp only [List.map_cons] at hty
    have hmd:d ∈ a :: d :: l:=by simp
    have hed:=le_sum_of Ex.wt (a :: d :: l) d hmd
    have kd:=ih d hmd n w (hkid d hmd) hin (hkids d hmd) (by omega)
    have wd:=Ex.ty_wide p hW act d n (hkid d hmd)
    have fd:=Ex.ty_fine p act d
    obtain⟨pb,hpb,hcd⟩:=hrow 1 d rfl
    obtain rfl:=Option.some.inj hpb
    simp only [Nat.one_mul] at hcd
    rw [show pa.add 9=⟨pa.block,pa.off+9,none⟩ by simp [Addr.add]] at hcd
    obtain⟨⟨rd,td⟩,hRd⟩:∃ r,d.ty p act=r:=⟨_,rfl⟩
    rw [hRd] at kd hty wd fd
    have hn:(((a :: d :: l).length:Int) == 1)=false:=by simp;omega
    have hl2:1 < (a :: d :: l).length:=by simp
    by_cases r1:rd=0
    ·subst r1
     rw [endE_z] at kd
     simp only [not_true_eq_false,if_false] at hty
     have wd:=wd rfl
     have fd:=fd rfl
     have kO:=htwo a d ta td rfl rfl fa.2 fd.2 (fun h1 h2=>by
      have hb1:=bitsE_zero h1
      have hb2:=bitsE_zero h2
      have hw1:1≤ta.w∧ta.w≤128:=wa hb1.1 hb1.2
      have hw2:1≤td.w∧td.w≤128:=wd hb2.1 hb2.2
      exact⟨W64 (by omega) (by omega),fun _=>W64 (by omega) (by omega)⟩)
     rw [← hty] at kO
     simp only at kO ⊢
     by_cases r2:R=0
     ·subst r2
      exact typeOf_two _ _ _ _ _ _ _ _ _ _ _ _ _ _ _ _ _ _ _ _ _ act _ _ _ _ _ _ _ pa _ _ op ta.w ta.tr ta.fr _ _ _ _ _ _ _ _ _ _ _ _ _ _ _ _ _ _ _ _ _ _ td.w td.tr td.fr t.w t.tr t.fr w hlen hl2 hn hc hcd o14' o15' ka kd kO
     ·rw [endE_n r2] at kO ⊢
      exact typeOf_twoE _ _ _ _ _ _ _ _ _ _ _ _ _ _ _ _ _ _ _ _ _ act _ _ _ _ _ _ _ pa _ _ op ta.w ta.tr ta.fr _ _ _ _ _ _ _ _ _ _ _ _ _ _ _ _ _ _ _ _ _ _ R td.w td.tr td.fr w hlen hl2 hn hc hcd o14' o15' ka kd kO
    ·rw [if_pos (by simpa using r1)] at hty
     obtain⟨rfl,rfl⟩:R=rd∧t=ty0:=by injection hty with h1 h2;exact⟨h1,h2⟩
     rw [endE_n r1] at kd ⊢
     exact typeOf_twoD _ _ _ _ _ _ _ _ _ _ _ _ _ _ _ _ _ _ _ _ _ act _ _ _ _ _ _ _ pa _ _ op ta.w ta.tr ta.fr _ _ _ _ _ _ _ _ _ _ _ _ _ _ _ _ _ _ _ _ _ _ R w hlen hl2 hn hc hcd o14' o15' ka kd
  ·rw [if_pos (by simpa using r0)] at hty
   obtain⟨rfl,rfl⟩:R=ra∧t=ty0:=by injection hty with h1 h2;exact⟨h1,h2⟩
   simp only
   rw [endE_n r0] at ka ⊢
   exact typeOf_a _ _ _ _ _ _ _ _ _ _ _ _ _ _ _ _ _ _ _ _ _ act _ _ _ _ _ _ _ pa _ _ op R _ _ _ _ _ _ _ _ _ _ _ w hlen hc ka
theorem assert_errno (v:Value) (w:World):(Instr.typeAssert (.iface 33 v) 20 33 true).run Tryz.prog w=.ok (.tuple #[v,.bool true]) w:=by
 simp [Instr.typeAssert,run_underlying Tryz.underlying33,go_sem]
theorem assert_noerrno (w:World):(Instr.typeAssert .nilIface 20 33 true).run Tryz.prog w=.ok (.tuple #[.int .i64 0,.bool false]) w:=by
 simp [Instr.typeAssert,run_underlying Tryz.underlying33,go_sem]
theorem frame10 (p x t f d b:Value):(#[p]++(((((((Array.replicate 9 undef).setIfInBounds 3 x).setIfInBounds 4 t).setIfInBounds 2 t).setIfInBounds 5 f).setIfInBounds 6 b).setIfInBounds 0 d).setIfInBounds 1 b:Array Value)=#[p,d,b,t,x,t,f,b,undef,undef]:=by
 simp [Array.replicate]
set_option maxHeartbeats 4000000 in
theorem caught_err (n:Nat) (E:Int) (older:List PanicEntry) (w:World) (u:Value) (hp:w.cell? ⟨n,0,none⟩=some u) (fp:∀ o,w.frozen? ⟨n,o,none⟩=false) :
  CallsD Tryz.prog 32 #[.pointer (some ⟨n,0,none⟩)] (.panicking ({ v:=.iface 33 (.int .i64 E),recovered:=false } :: older)) w
   fun e u' w'=>e=.returned (.tuple #[])∧u'=.panicking ({ v:=.iface 33 (.int .i64 E),recovered:=true } :: older)∧w'=w.setCell ⟨n,0,none⟩ (.int .i64 E):=by
 have hta:=assert_errno (.int .i64 E)
 refine callsD_of_wpS Tryz.func32 rfl fun c₀ cs hu=>?_
 apply wpS_seq
 apply wpS_region
 simp [wpOpsS,go_sem,recoverD,hu,Tryz.ntmps32,Exit.thenS,hta]
 refine wpS_of_wp ?_
 rw [frame10]
 go_wp2
 simp only [bodyPostS]
 exact⟨trivial,_,rfl,_,results_none rfl _ _ _,by simp⟩
set_option maxHeartbeats 4000000 in
theorem caught_none (n:Nat) (w:World) :
  CallsD Tryz.prog 32 #[.pointer (some ⟨n,0,none⟩)] .returning w fun e u' w'=>e=.returned (.tuple #[])∧u'=.returning∧w'=w:=by
 have hta:=assert_noerrno
 refine callsD_of_wpS Tryz.func32 rfl fun c₀ cs hu=>?_
 apply wpS_seq
 apply wpS_region
 simp [wpOpsS,go_sem,recoverD,hu,Tryz.ntmps32,Exit.thenS,hta]
 refine wpS_of_wp ?_
 rw [frame10]
 go_wp2
 simp only [bodyPostS]
 cases c₀
 simp only at hu
 subst hu
 exact⟨trivial,_,rfl,_,results_none rfl _ _ _,by simp⟩
set_option maxRecDepth 100000 in
set_option maxHeartbeats 8000000 in
/-- Whatever the check, a literal of captured variables: T is what it leaves behind. -/
theorem t_caught (w:World) (G:FuncId) (cap:Array Value) (hG:∀ w,(callFunc G cap).run Tryz.prog w=.ok (.enter G cap) w) (r:Int) (T:World→Prop)
  (hC:Calls Tryz.prog G cap (w.alloc (.cells #[.int .i64 0] 33)) fun e w'=>e=endE r (.tuple #[])∧T w'∧w'.cell? ⟨w.heap.size,0,none⟩=some (.int .i64 0)∧∀ o,w'.frozen? ⟨w.heap.size,o,none⟩=false) :
  Calls Tryz.prog 18 #[.func (.func G) #[] cap] w fun e w'=>e=.returned (.int .i64 r)∧∃ U,T U∧w'=U.setCell ⟨w.heap.size,0,none⟩ (.int .i64 r):=by
 have hmf:∀ (fn:Fn) (first cap:Array Value) (w:World),(Instr.makeFunc fn first cap).run Tryz.prog w=.ok (.func fn first cap) w:=fun _ _ _ _=>rfl
 have hC':=Lib.hid hC
 have hG':=Lib.hid hG
 clear hC hG
 go_enter_defers Tryz.func18,Tryz.ntmps18
 go_wp2_with fail
 rw [hG'.out,Oper.upon_enter]
 refine hC'.out.mono ?_
 rintro e W ⟨rfl,hT,hc,hf⟩
 clear hC' hG'
 have hT':=Lib.hid hT
 clear hT
 obtain⟨n,hn⟩:∃ n,w.heap.size=n:=⟨_,rfl⟩
 rw [hn] at hc hf ⊢
 have hn':=Lib.hid hn
 clear hn
 by_cases z:r=0
 ·subst z
  simp only [endE,if_pos]
  go_wp2
  refine leaves_cons (f:=32) (args:=#[.pointer (some ⟨n,0,none⟩)]) (by simp) (by simp [go_sem]) ?_
  refine (caught_none n _).mono ?_
  rintro e u' w'' ⟨rfl,rfl,rfl⟩
  have p0:(W.setCell ⟨n,0,none⟩ (.int .i64 0)).cell? ⟨n,0,none⟩=some (.int .i64 0):=World.cell?_setCell_same _ _ _ hc
  simp [Leaves,settle,results,Tryz.results18,go_sem,p0]
  exact⟨_,hT'.out,by rw [hn'.out]⟩
 ·rw [endE,if_neg z]
  go_wp2
  refine leaves_cons (f:=32) (args:=#[.pointer (some ⟨n,0,none⟩)]) (by simp) (by simp [go_sem]) ?_
  refine (caught_err n r [] W _ hc hf).mono ?_
  rintro e u' w'' ⟨rfl,rfl,rfl⟩
  have p0:(W.setCell ⟨n,0,none⟩ (.int .i64 r)).cell? ⟨n,0,none⟩=some (.int .i64 r):=World.cell?_setCell_same _ _ _ hc
  simp [Leaves,settle,results,Tryz.results18,go_sem,p0]
  exact⟨_,hT'.out,by rw [hn'.out]⟩
set_option maxRecDepth 100000 in
set_option maxHeartbeats 16000000 in
theorem of1_raw (p0:Option Addr) (n0 c0:Nat) (p1:Option Addr) (n1 c1:Nat) (p2:Option Addr) (n2 c2:Nat) (p3:Option Addr) (n3 c3:Nat) (p4:Option Addr) (n4 c4:Nat) (p5:Option Addr) (n5 c5:Nat) (p6:Option Addr) (n6 c6:Nat) (act op lw lh ll:Int) (hd nm:ByteArray) (eh el:Int) (ep:Option Addr) (en ec:Nat) (E:Ending) (W:World) (k1 k2 k3 k4:Nat)
  (hk:Calls Tryz.prog 28 #[.agg #[.slice p0 n0 c0,.slice p1 n1 c1,.slice p2 n2 c2,.slice p3 n3 c3,.slice p4 n4 c4,.slice p5 n5 c5,.slice p6 n6 c6,.int .i64 act],.agg #[.int .u8 op,.int .i64 lw,.int .u64 lh,.int .u64 ll,.string hd,.string nm,.int .i64 eh,.int .i64 el,.slice ep en ec]] W fun e w'=>e=E∧∃ x,w'=plus W x)
  (a0:W.cell? ⟨k1,0,none⟩=some (.slice p0 n0 c0)) (a1:W.cell? ⟨k1,1,none⟩=some (.slice p1 n1 c1)) (a2:W.cell? ⟨k1,2,none⟩=some (.slice p2 n2 c2)) (a3:W.cell? ⟨k1,3,none⟩=some (.slice p3 n3 c3)) (a4:W.cell? ⟨k1,4,none⟩=some (.slice p4 n4 c4)) (a5:W.cell? ⟨k1,5,none⟩=some (.slice p5 n5 c5)) (a6:W.cell? ⟨k1,6,none⟩=some (.slice p6 n6 c6))
  (b0:W.cell? ⟨k2,0,none⟩=some (.int .i64 act))
  (d0:W.cell? ⟨k3,0,none⟩=some (.int .u8 op)) (d1:W.cell? ⟨k3,1,none⟩=some (.int .i64 lw)) (d2:W.cell? ⟨k3,2,none⟩=some (.int .u64 lh)) (d3:W.cell? ⟨k3,3,none⟩=some (.int .u64 ll)) (d4:W.cell? ⟨k3,4,none⟩=some (.string hd)) (d5:W.cell? ⟨k3,5,none⟩=some (.string nm)) (d6:W.cell? ⟨k3,6,none⟩=some (.int .i64 eh)) (d7:W.cell? ⟨k3,7,none⟩=some (.int .i64 el)) (d8:W.cell? ⟨k3,8,none⟩=some (.slice ep en ec))
  (r0:W.cell? ⟨k4,0,none⟩=some (.int .i64 0)) (r1:W.cell? ⟨k4,1,none⟩=some (.bool false)) (r2:W.cell? ⟨k4,2,none⟩=some (.bool false)) (rf:∀ o,W.frozen? ⟨k4,o,none⟩=false) (r:Int) (t:Ty) (hE:E=endE r t.v) :
  Calls Tryz.prog 27 #[.pointer (some ⟨k1,0,none⟩),.pointer (some ⟨k2,0,none⟩),.pointer (some ⟨k3,0,none⟩),.pointer (some ⟨k4,0,none⟩)] W
   fun e w'=>e=endE r (.tuple #[])∧∃ x,w'=if r=0 then (((plus W x).setCell ⟨k4,0,none⟩ (.int .i64 t.w)).setCell ⟨k4,1,none⟩ (.bool t.tr)).setCell ⟨k4,2,none⟩ (.bool t.fr) else plus W x:=by
 subst hE
 have hk':=Lib.hid hk
 have hlt:k4 < W.heap.size:=block_in r0
 have s0:=fun x=>(cell_plus W x k4 0 hlt).trans r0
 have s1:=fun x=>(cell_plus W x k4 1 hlt).trans r1
 have s2:=fun x=>(cell_plus W x k4 2 hlt).trans r2
 have sf:=fun x o=>(frozen_plus W x k4 o hlt).trans (rf o)
 clear hk hlt r0 r1 r2 rf
 go_enter Tryz.func27,Tryz.ntmps27
 go_wp2_with fail
 refine hk'.out.mono ?_
 rintro e w' ⟨rfl,x,rfl⟩
 clear hk'
 have t0:=s0 x
 have t1:=s1 x
 have t2:=s2 x
 have tf:=sf x
 clear s0 s1 s2 sf
 by_cases z:r=0
 ·subst z
  simp only [endE,if_pos,Ty.v]
  go_wp2
  go_end0
  exact⟨rfl,x,rfl⟩
 ·rw [endE,if_neg z]
  go_wp2
  exact⟨rfl,(endE_n z).symm,x,rfl⟩
set_option maxRecDepth 100000 in
set_option maxHeartbeats 16000000 in
theorem t_checked (e:Ex) (w:World) (hm:e.may 16=true) (hmay:Kp Tryz.prog w 46 #[e.val] (.bool (e.may 16))) (g:Value) (r:Int) (T:World→Prop)
  (hC:∀ W,(∃ z,W=plus w z)→Calls Tryz.prog 18 #[g] W fun e w'=>e=.returned (.int .i64 r)∧T w') :
  Calls Tryz.prog 26 #[e.val,g] w fun e w'=>e=.returned (.int .i64 r)∧T w':=by
 rw [hm] at hmay
 have hC':=Lib.hid hC
 clear hC hm
 obtain⟨op,⟨lw,lh,ll⟩,hd,nm,eh,el,ep,ec,eargs⟩:=e
 simp only [Ex.val,Ex.cells,Ex.op,Ex.lit,Ex.head,Ex.name,Ex.hi,Ex.lo,Ex.p,Ex.args,Ex.cap] at hmay ⊢
 obtain⟨M,hM⟩:∃ M,eargs.length=M:=⟨_,rfl⟩
 rw [hM] at hmay ⊢
 clear hM
 have hmay':=Lib.hid hmay
 clear hmay
 go_enter Tryz.func26,Tryz.ntmps26
 go_upto_region 1 with (fail)
 obtain⟨X,Y0,hX,⟨zX,hzX⟩,ca⟩:=box1n w _ 45
 rw [hX]
 have d0:=ca 0 _ rfl
 have d1:=ca 1 _ rfl
 have d2:=ca 2 _ rfl
 have d3:=ca 3 _ rfl
 have d4:=ca 4 _ rfl
 have d5:=ca 5 _ rfl
 have d6:=ca 6 _ rfl
 have d7:=ca 7 _ rfl
 have d8:=ca 8 _ rfl
 have q:=Lib.hid (kp_at hzX hmay'.out)
 have hz:=Lib.hid hzX
 clear hX ca hzX hmay'
 go_wp2_with fail
 refine (q.out _).mono ?_
 rintro r' w' ⟨rfl,x1,rfl⟩
 clear q
 go_wp2_with fail
 refine (hC'.out _ ?_).mono ?_
 ·rw [hz.out,plus_plus];exact⟨_,rfl⟩
 rintro r' w' ⟨rfl,hT⟩
 have hT':=Lib.hid hT
 clear hT
 go_wp2
 go_ret
 exact⟨rfl,hT'.out⟩
theorem ty_none (p:Pr) (act:Int) (e:Ex) (h:¬ (e.ty p act).1=0):(e.ty p act).2=ty0:=by
 rw [Ex.ty_eq] at h ⊢
 have hl:∀ o w hd nm,¬ (leafT p act o w hd nm).1=0→(leafT p act o w hd nm).2=ty0:=by
  intro o w hd nm h
  unfold leafT at h ⊢
  repeat' split at h
  all_goals simp_all
 have hs:∀ o hi lo t,¬ (singleT o hi lo t).1=0→(singleT o hi lo t).2=ty0:=by
  intro o hi lo t h
  unfold singleT at h ⊢
  repeat' split at h
  all_goals simp_all
 have hp:∀ o n m s t,¬ (pairT o n m s t).1=0→(pairT o n m s t).2=ty0:=by
  intro o n m s t h
  unfold pairT at h ⊢
  by_cases q1:o=25∨o=26
  ·rw [if_pos q1] at h ⊢
   by_cases q2:(s.tr && t.tr)=true
   ·rw [if_pos q2] at h;exact absurd rfl h
   ·rw [if_neg q2]
  rw [if_neg q1] at h ⊢
  by_cases q3:o=11
  ·rw [if_pos q3] at h ⊢
   by_cases q4:bitsE s≠0
   ·rw [if_pos q4]
   rw [if_neg q4] at h ⊢
   by_cases q5:bitsE t≠0
   ·rw [if_pos q5]
   rw [if_neg q5] at h ⊢
   by_cases q6:128 < s.w+t.w
   ·rw [if_pos q6]
   ·rw [if_neg q6] at h;exact absurd rfl h
  rw [if_neg q3] at h ⊢
  by_cases q7:(sidesT n m s t).1≠0
  ·rw [if_pos q7]
  rw [if_neg q7] at h
  split at h <;> exact absurd rfl h
 cases he:e.args.map (fun x=>(x.ty p act,x.free)) with
 | nil=>rw [he] at h;exact hl _ _ _ _ h
 | cons a l =>
  rw [he] at h
  obtain⟨r,n⟩:=a
  simp only [tyC] at h ⊢
  by_cases q:r.1≠0
  ·rw [if_pos q]
  rw [if_neg q] at h ⊢
  by_cases o:e.op=14∨e.op=15
  ·rw [if_pos o] at h ⊢
   by_cases b:bitsE r.2≠0
   ·rw [if_pos b]
   ·rw [if_neg b] at h;exact absurd rfl h
  rw [if_neg o] at h ⊢
  cases l with
  | nil=>exact hs _ _ _ _ h
  | cons d l =>
   obtain⟨s,m⟩:=d
   simp only at h ⊢
   by_cases b:s.1≠0
   ·rw [if_pos b]
   ·rw [if_neg b] at h ⊢;exact hp _ _ _ _ _ h
theorem box5f (V:World) (c d f g h:Array Value) (t u s r q:TypeId):∃ X,((((V.alloc (.cells c t)).alloc (.cells d u)).alloc (.cells f s)).alloc (.cells g r)).alloc (.cells h q)=X∧(∃ z,X=plus V z)∧X.heap.size=V.heap.size+5∧(∀ o v,c[o]?=v→∀ y,(plus X y).cell? ⟨V.heap.size,o,none⟩=v)∧(∀ o v,d[o]?=v→∀ y,(plus X y).cell? ⟨V.heap.size+1,o,none⟩=v)∧(∀ o v,f[o]?=v→∀ y,(plus X y).cell? ⟨V.heap.size+1+1,o,none⟩=v)∧(∀ o v,g[o]?=v→∀ y,(plus X y).cell? ⟨V.heap.size+1+1+1,o,none⟩=v)∧(∀ o v,h[o]?=v→∀ y,(plus X y).cell? ⟨V.heap.size+1+1+1+1,o,none⟩=v)∧(∀ y o,(plus X y).frozen? ⟨V.heap.size+1+1+1,o,none⟩=false)∧(∀ y o,(plus X y).frozen? ⟨V.heap.size+1+1+1+1,o,none⟩=false):=by
 obtain⟨W,hW,hB,hs,ca,cb,cc,fa,fb,fc⟩:=box3 V c d f t u s
 obtain⟨X,hX,hB2,hs2,cg,ch,fg,fh⟩:=box2 W g h r q
 have hsz:W.heap.size=V.heap.size+1+1+1:=by omega
 rw [hsz] at cg ch fg fh
 rw [← hW,← hX]
 obtain⟨z,hz⟩:=plus_of_below hB
 obtain⟨z2,hz2⟩:=plus_of_below hB2
 refine⟨X,rfl,⟨_,by rw [hz2,hz,plus_plus]⟩,by omega,?_,?_,?_,cg,ch,fg,fh⟩
 ·intro o v h y;rw [hz2,plus_plus];exact ca o v h _
 ·intro o v h y;rw [hz2,plus_plus];exact cb o v h _
 ·intro o v h y;rw [hz2,plus_plus];exact cc o v h _
/-- Of's two types: its result, as it was made, and t. -/
structure OfT (V:World) (b6 b8:Nat) (t:Ty) (U:World):Prop where
 rb:RB V b6 U
 q0:U.cell? ⟨b8,0,none⟩=some (.int .i64 t.w)
 q1:U.cell? ⟨b8,1,none⟩=some (.bool t.tr)
 q2:U.cell? ⟨b8,2,none⟩=some (.bool t.fr)
theorem OfT.setO {V U:World} {b6 b8 n:Nat} {t:Ty} (h:OfT V b6 b8 t U) (hn:V.heap.size≤n) (h6:n≠b6) (h8:n≠b8) (o:Nat) (v:Value):OfT V b6 b8 t (U.setCell ⟨n,o,none⟩ v):=by
 have n6:∀ k,(⟨n,o,none⟩:Addr)≠⟨b6,k,none⟩:=fun k c=>h6 (by injection c)
 have n8:∀ k,(⟨n,o,none⟩:Addr)≠⟨b8,k,none⟩:=fun k c=>h8 (by injection c)
 obtain⟨⟨⟨z,rfl⟩,lo,r0,r1,r2,rf⟩,q0,q1,q2⟩:=h
 exact⟨⟨plus_of_below ((below_plus V z).setCell (by simpa using hn) v),lo,(World.cell?_setCell_other _ _ _ _ (n6 0)).trans r0,(World.cell?_setCell_other _ _ _ _ (n6 1)).trans r1,(World.cell?_setCell_other _ _ _ _ (n6 2)).trans r2,fun k=>by rw [World.frozen?_setCell];exact rf k⟩,
  (World.cell?_setCell_other _ _ _ _ (n8 0)).trans q0,(World.cell?_setCell_other _ _ _ _ (n8 1)).trans q1,(World.cell?_setCell_other _ _ _ _ (n8 2)).trans q2⟩
theorem ofT_done {V W1:World} {b6 b8:Nat} {t:Ty} {R:Int} {x:Ext} (h6:RB V b6 (plus W1 x)) (h8:V.heap.size≤b8) (hne:b8≠b6)
  (q0:(plus W1 x).cell? ⟨b8,0,none⟩=some (.int .i64 0)) (q1:(plus W1 x).cell? ⟨b8,1,none⟩=some (.bool false)) (q2:(plus W1 x).cell? ⟨b8,2,none⟩=some (.bool false)) (ht:¬ R=0→t=ty0) :
  OfT V b6 b8 t (if R=0 then (((plus W1 x).setCell ⟨b8,0,none⟩ (.int .i64 t.w)).setCell ⟨b8,1,none⟩ (.bool t.tr)).setCell ⟨b8,2,none⟩ (.bool t.fr) else plus W1 x):=by
 by_cases hR:R=0
 ·rw [if_pos hR]
  obtain⟨Y,hY,g0,g1,g2,hx⟩:=ty_set h6.up b8 h8 _ _ _ (.int .i64 t.w) (.bool t.tr) (.bool t.fr) q0 q1 q2
  have hn:∀ i k,(⟨b8,i,none⟩:Addr)≠⟨b6,k,none⟩:=fun i k c=>hne (by injection c)
  refine⟨⟨by rw [hY];exact hx,h6.low,?_,?_,?_,?_⟩,by rw [hY];exact g0,by rw [hY];exact g1,by rw [hY];exact g2⟩
  ·rw [World.cell?_setCell_other (h:=hn 2 0),World.cell?_setCell_other (h:=hn 1 0),World.cell?_setCell_other (h:=hn 0 0)];exact h6.r0
  ·rw [World.cell?_setCell_other (h:=hn 2 1),World.cell?_setCell_other (h:=hn 1 1),World.cell?_setCell_other (h:=hn 0 1)];exact h6.r1
  ·rw [World.cell?_setCell_other (h:=hn 2 2),World.cell?_setCell_other (h:=hn 1 2),World.cell?_setCell_other (h:=hn 0 2)];exact h6.r2
  ·intro o;rw [World.frozen?_setCell,World.frozen?_setCell,World.frozen?_setCell];exact h6.rf o
 ·rw [if_neg hR,ht hR]
  exact⟨h6,q0,q1,q2⟩
set_option maxRecDepth 100000 in
set_option maxHeartbeats 16000000 in
theorem t_Of (p:Pr) (hz:p.sz≤1048576) (hW:Wide p) (act:Int) (e:Ex) (hm:e.may 16=true) (w:World) (hin:p.In w) (he:e.In w) (hb:e.wt≤1048576) :
  Kp Tryz.prog w 16 #[.agg #[.slice p.headers.p p.headers.l.length p.headers.cap,.slice p.metas.p p.metas.l.length p.metas.cap,.slice p.states.p p.states.l.length p.states.cap,.slice p.actions.p p.actions.l.length p.actions.cap,.slice p.tables.p p.tables.l.length p.tables.cap,.slice p.control.p p.control.l.length p.control.cap,.slice p.emit.p p.emit.l.length p.emit.cap],.int .i64 act,e.val] (tyR (e.ty p act)):=by
 intro y0
 have kt:=(t_type p hz hW act e 16 w hm hin he hb).up y0
 have he:=he.plus y0
 have hmay:=fun V (h:e.In V)=>ast_mayExpr e V h hb
 have hnone:=ty_none p act e
 obtain⟨V,hV⟩:∃ V,plus w y0=V:=⟨_,rfl⟩
 rw [hV] at kt he ⊢
 clear hV hin
 obtain⟨⟨R,t⟩,hR⟩:∃ R,e.ty p act=R:=⟨_,rfl⟩
 rw [hR] at kt hnone ⊢
 clear hR
 simp only at hnone kt ⊢
 have kch:∀ X:World,(∃ z,X=plus V z)→∀ (g:Value) (T:World→Prop),(∀ W,(∃ z,W=plus X z)→Calls Tryz.prog 18 #[g] W fun e w'=>e=.returned (.int .i64 R)∧T w')→Calls Tryz.prog 26 #[e.val,g] X fun e w'=>e=.returned (.int .i64 R)∧T w' :=
  fun X hX g T h=>by
   have hXe:e.In X:=by obtain⟨z,rfl⟩:=hX;exact he.plus z
   exact t_checked e X hm (hmay X hXe) g R T h
 clear hmay hm he hb hz hW
 obtain⟨⟨p0,k0,l0⟩,⟨p1,k1,l1⟩,⟨p2,k2,l2⟩,⟨p3,k3,l3⟩,⟨p4,k4,l4⟩,⟨p5,k5,l5⟩,⟨p6,k6,l6⟩⟩:=p
 obtain⟨op,⟨lw,lh,ll⟩,hd,nm,eh,el,ep,ec,eargs⟩:=e
 simp only [Ex.val,Ex.cells,Ex.op,Ex.lit,Ex.head,Ex.name,Ex.hi,Ex.lo,Ex.p,Ex.args,Ex.cap] at kch kt ⊢
 obtain⟨M,hM⟩:∃ M,eargs.length=M:=⟨_,rfl⟩
 obtain⟨n0,h0⟩:∃ n,l0.length=n:=⟨_,rfl⟩
 obtain⟨n1,h1⟩:∃ n,l1.length=n:=⟨_,rfl⟩
 obtain⟨n2,h2⟩:∃ n,l2.length=n:=⟨_,rfl⟩
 obtain⟨n3,h3⟩:∃ n,l3.length=n:=⟨_,rfl⟩
 obtain⟨n4,h4⟩:∃ n,l4.length=n:=⟨_,rfl⟩
 obtain⟨n5,h5⟩:∃ n,l5.length=n:=⟨_,rfl⟩
 obtain⟨n6,h6⟩:∃ n,l6.length=n:=⟨_,rfl⟩
 rw [hM] at kch kt ⊢
 simp only [scV,h0,h1,h2,h3,h4,h5,h6] at kt ⊢
 clear hM h0 h1 h2 h3 h4 h5 h6
 have kch':=Lib.hid kch
 have kt':=Lib.hid kt
 have hn':=Lib.hid hnone
 clear kch kt hnone
 go_enter Tryz.func16,Tryz.ntmps16
 go_wp2_with fail
 obtain⟨X,hX,⟨zX,hzX⟩,hsz,ca,cb,cc,cd,ce,fd,fe⟩:=box5f V _ _ _ _ _ 30 3 45 75 75
 rw [hX]
 refine (kch'.out X ⟨zX,hzX⟩ _ (OfT V (V.heap.size+1+1+1) (V.heap.size+1+1+1+1) t) ?_).mono ?_
 ·rintro W ⟨z,rfl⟩
  have hG:∀ w,(callFunc 27 #[.pointer (some ⟨V.heap.size,0,none⟩),.pointer (some ⟨V.heap.size+1,0,none⟩),.pointer (some ⟨V.heap.size+1+1,0,none⟩),.pointer (some ⟨V.heap.size+1+1+1+1,0,none⟩)]).run Tryz.prog w=.ok (.enter 27 #[.pointer (some ⟨V.heap.size,0,none⟩),.pointer (some ⟨V.heap.size+1,0,none⟩),.pointer (some ⟨V.heap.size+1+1,0,none⟩),.pointer (some ⟨V.heap.size+1+1+1+1,0,none⟩)]) w:=by
   intro w
   simp [go_sem]
  have hxs:=size_plus X z
  refine (t_caught (plus X z) _ _ hG R (OfT V (V.heap.size+1+1+1) (V.heap.size+1+1+1+1) t) ?_).mono ?_
  ·obtain⟨W1,hA⟩:∃ W1,(plus X z).alloc (.cells #[.int .i64 0] 33)=W1:=⟨_,rfl⟩
   have m0:W1.cell? ⟨(plus X z).heap.size,0,none⟩=some (.int .i64 0):=by rw [← hA];exact cell_new _ _ _ _ 0 rfl
   have mf:∀ o,W1.frozen? ⟨(plus X z).heap.size,o,none⟩=false:=fun o=>by rw [← hA];exact frozen_new _ _ _ _ o rfl
   have hlt:(plus X z).heap.size < W1.heap.size:=by rw [← hA];simp
   obtain⟨z1,hW1⟩:∃ z1,W1=plus X z1:=by rw [← hA];exact alloc_in _
   rw [hA]
   clear hA
   obtain⟨n,hn⟩:∃ n,(plus X z).heap.size=n:=⟨_,rfl⟩
   rw [hn] at m0 mf hlt hxs ⊢
   have hk:Calls Tryz.prog 28 #[.agg #[.slice p0 n0 k0,.slice p1 n1 k1,.slice p2 n2 k2,.slice p3 n3 k3,.slice p4 n4 k4,.slice p5 n5 k5,.slice p6 n6 k6,.int .i64 act],.agg #[.int .u8 op,.int .i64 lw,.int .u64 lh,.int .u64 ll,.string hd,.string nm,.int .i64 eh,.int .i64 el,.slice ep M ec]] W1 fun e w'=>e=endE R t.v∧∃ x,w'=plus W1 x:=by
    rw [hW1,hzX,plus_plus];exact kt'.out _
   refine (of1_raw _ _ _ _ _ _ _ _ _ _ _ _ _ _ _ _ _ _ _ _ _ _ _ _ _ _ _ _ _ _ _ _ _ _ W1 V.heap.size (V.heap.size+1) (V.heap.size+1+1) (V.heap.size+1+1+1+1) hk (by rw [hW1];exact ca 0 _ rfl z1) (by rw [hW1];exact ca 1 _ rfl z1) (by rw [hW1];exact ca 2 _ rfl z1) (by rw [hW1];exact ca 3 _ rfl z1) (by rw [hW1];exact ca 4 _ rfl z1) (by rw [hW1];exact ca 5 _ rfl z1) (by rw [hW1];exact ca 6 _ rfl z1) (by rw [hW1];exact cb 0 _ rfl z1) (by rw [hW1];exact cc 0 _ rfl z1) (by rw [hW1];exact cc 1 _ rfl z1) (by rw [hW1];exact cc 2 _ rfl z1) (by rw [hW1];exact cc 3 _ rfl z1) (by rw [hW1];exact cc 4 _ rfl z1) (by rw [hW1];exact cc 5 _ rfl z1) (by rw [hW1];exact cc 6 _ rfl z1) (by rw [hW1];exact cc 7 _ rfl z1) (by rw [hW1];exact cc 8 _ rfl z1) (by rw [hW1];exact ce 0 _ rfl z1) (by rw [hW1];exact ce 1 _ rfl z1) (by rw [hW1];exact ce 2 _ rfl z1) (fun o=>by rw [hW1];exact fe z1 o) R t rfl).mono ?_
   rintro e w' ⟨rfl,x,rfl⟩
   have hrb:RB V (V.heap.size+1+1+1) (plus W1 x):=by rw [hW1,plus_plus];exact rb_of ⟨zX,hzX⟩ (by omega) cd fd _
   refine⟨rfl,ofT_done hrb (by omega) (by omega) (by rw [hW1,plus_plus];exact ce 0 _ rfl _) (by rw [hW1,plus_plus];exact ce 1 _ rfl _) (by rw [hW1,plus_plus];exact ce 2 _ rfl _) hn'.out,?_,fun o=>?_⟩
   ·have hne:∀ i k,(⟨V.heap.size+1+1+1+1,i,none⟩:Addr)≠⟨n,k,none⟩:=fun i k c=>by
     have:V.heap.size+1+1+1+1=n:=by injection c
     omega
    have m1:(plus W1 x).cell? ⟨n,0,none⟩=some (.int .i64 0):=(cell_plus W1 x n 0 hlt).trans m0
    split
    ·rw [World.cell?_setCell_other (h:=hne 2 0),World.cell?_setCell_other (h:=hne 1 0),World.cell?_setCell_other (h:=hne 0 0)];exact m1
    ·exact m1
   ·have m1:(plus W1 x).frozen? ⟨n,o,none⟩=false:=(frozen_plus W1 x n o hlt).trans (mf o)
    split
    ·rw [World.frozen?_setCell,World.frozen?_setCell,World.frozen?_setCell];exact m1
    ·exact m1
  ·rintro e w' ⟨rfl,U,hU,rfl⟩
   exact⟨rfl,hU.setO (by omega) (by omega) (by omega) 0 _⟩
 rintro r w' ⟨rfl,hT⟩
 clear kch' kt' hn' ca cb cc cd ce fd fe hX hzX hsz
 have r0:=hT.rb.r0
 have r1:=hT.rb.r1
 have r2:=hT.rb.r2
 have rf:=hT.rb.rf
 have q0:=hT.q0
 have q1:=hT.q1
 have q2:=hT.q2
 have hRU':=Lib.hid hT.rb
 clear hT
 obtain⟨tw,tt,tf⟩:=t
 go_wp2
 obtain⟨Z,hZ,g0,g1,g2,hV⟩:=hRU'.out.set ⟨tw,tt,tf⟩
 simp only at hZ
 rw [hZ]
 clear hZ
 exact bodyPost_ret (v:=.tuple #[.agg #[.int .i64 tw,.bool tt,.bool tf],.int .i64 R]) (by simp [results,Tryz.results16,go_sem,g0,g1,g2]) rfl ⟨rfl,hV⟩
theorem ty_kid0 (p:Pr) (act:Int) (e a:Ex) (l:List Ex) (hl:e.args=a :: l) (h:(e.ty p act).1=0):(a.ty p act).1=0:=by
 rw [Ex.ty_eq,hl] at h
 simp only [List.map_cons,tyC] at h
 by_cases q:(a.ty p act).1≠0
 ·rw [if_pos q] at h;exact absurd h q
 ·exact Classical.not_not.1 q
theorem ty_kid1 (p:Pr) (act:Int) (e a d:Ex) (l:List Ex) (hl:e.args=a :: d :: l) (ho:¬ (e.op=14∨e.op=15)) (h:(e.ty p act).1=0):(d.ty p act).1=0:=by
 have h0:=ty_kid0 p act e a (d :: l) hl h
 rw [Ex.ty_eq,hl] at h
 simp only [List.map_cons,tyC] at h
 rw [if_neg (by simpa using h0),if_neg ho] at h
 by_cases q:(d.ty p act).1≠0
 ·rw [if_pos q] at h;exact absurd h q
 ·exact Classical.not_not.1 q
theorem xArgs_le (o:Int):xArgs o≤2:=by unfold xArgs;repeat' split <;> omega
theorem may_up (e:Ex) (n:Nat) (h:e.may n=true) (m:Nat) (hm:n≤m):e.may m=true:=by
 revert n m
 induction e using Ex.ind with
 | _ e ih =>
 intro n h m hm
 cases n with
 | zero=>simp [Ex.may] at h
 | succ n =>
  obtain⟨m,rfl⟩:∃ k,m=k+1:=⟨m - 1,by omega⟩
  rw [Ex.may] at h ⊢
  simp only [Bool.and_eq_true] at h ⊢
  refine⟨h.1,h.2.1,?_⟩
  have h3:=h.2.2
  unfold eachB at h3 ⊢
  simp only [Bool.and_eq_true,List.all_eq_true] at h3 ⊢
  exact⟨h3.1,fun x hx=>ih x hx n (h3.2 x hx) m (by omega)⟩
/-- Each Arg of an expression with nothing wrong, but a shift's amount, has nothing wrong. -/
theorem ty_kid (p:Pr) (act:Int) (e x:Ex) (k:Nat) (hx:e.args[k]?=some x) (hk:k < 2) (ho:k=0∨¬ (e.op=14∨e.op=15)) (h:(e.ty p act).1=0):(x.ty p act).1=0:=by
 cases hl:e.args with
 | nil=>rw [hl] at hx;cases k <;> simp at hx
 | cons a l =>
  rw [hl] at hx
  rcases Nat.lt_or_ge k 1 with q | q
  ·obtain rfl:k=0:=by omega
   simp at hx
   subst hx
   exact ty_kid0 p act e a l hl h
  ·obtain rfl:k=1:=by omega
   cases l with
   | nil=>simp at hx
   | cons d l =>
    simp at hx
    subst hx
    exact ty_kid1 p act e a d l hl (ho.resolve_left (by omega)) h
mutual
/-- An expression, wherever its Args lie. -/
def Ex.bare:Ex→Ex
 | .mk op lit hd nm hi lo _ _ l=>.mk op lit hd nm hi lo none 0 (Ex.bares l)
def Ex.bares:List Ex→List Ex
 | []=>[]
 | x :: l=>x.bare :: Ex.bares l
end
theorem Ex.bares_map:∀ l:List Ex,Ex.bares l=l.map Ex.bare
 | []=>by rw [Ex.bares];rfl
 | x :: l=>by rw [Ex.bares,Ex.bares_map l];rfl
theorem Ex.bare_eq (e:Ex):e.bare=.mk e.op e.lit e.head e.name e.hi e.lo none 0 (e.args.map Ex.bare):=by
 cases e;rw [Ex.bare,Ex.bares_map];rfl
theorem amt_bare (l:List Ex):amt2 (l.map Ex.bare)=amt2 l:=by
 match l with
 | []=>rfl
 | [_]=>rfl
 | [_,b] =>
  simp only [List.map_cons,List.map_nil,amt2,amtB]
  rw [Ex.bare_eq b]
  rfl
 | _ :: _ :: _ :: _=>rfl
theorem bare_may:∀ (n:Nat) (e:Ex),e.bare.may n=e.may n
 | 0,_=>rfl
 | n+1,e=>by
  rw [Ex.may,Ex.may,Ex.bare_eq]
  unfold Ex.fits eachB
  simp only [Ex.op,Ex.lit,Ex.head,Ex.name,Ex.hi,Ex.lo,Ex.args,List.length_map,amt_bare,List.all_map]
  have:(Ex.may n ∘ Ex.bare)=Ex.may n:=funext fun x=>bare_may n x
  rw [this]
  rfl
theorem bare_wt:∀ e:Ex,e.bare.wt=e.wt:=fun e=>Ex.ind (Q:=fun e=>e.bare.wt=e.wt) (fun e ih=>by
 rw [Ex.wt_eq,Ex.wt_eq e,Ex.bare_eq]
 simp only [Ex.head,Ex.name,Ex.args,List.map_map]
 congr 2
 refine List.map_congr_left fun x hx=>?_
 exact ih x hx) e
theorem like_may {e f:Ex} (h:e.bare=f.bare) (n:Nat):e.may n=f.may n:=by
 rw [← bare_may n e,← bare_may n f,h]
theorem like_wt {e f:Ex} (h:e.bare=f.bare):e.wt=f.wt:=by
 rw [← bare_wt e,← bare_wt f,h]
end Go.Proofs.YtobhijbncchpiaaGreat
