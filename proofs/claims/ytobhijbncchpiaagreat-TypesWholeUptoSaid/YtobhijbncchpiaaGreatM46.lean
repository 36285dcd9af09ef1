/-
  WHAT IS PROVED HERE: a part of the proof (made narrower and merged by program; the parts: Ws Wm).
-/
import Derived.Test.YtobhijbncchpiaaGreatM21
import Derived.Test.YtobhijbncchpiaaGreatM32
namespace Go.Proofs.YtobhijbncchpiaaGreat
open Go.RowKit
set_option maxRecDepth 100000 in
set_option maxHeartbeats 16000000 in
theorem lw_typed (p:Pr) (hz:p.sz≤1048576) (hW:Wide p) (act:Int):∀ (e:Ex) (n:Nat) (w:World),n≤16→e.may n=true→p.In w→e.In w→e.wt≤1048576→(e.ty p act).1=0 →
  Kp Tryz.prog w 10 #[.agg #[.slice p.headers.p p.headers.l.length p.headers.cap,.slice p.metas.p p.metas.l.length p.metas.cap,.slice p.states.p p.states.l.length p.states.cap,.slice p.actions.p p.actions.l.length p.actions.cap,.slice p.tables.p p.tables.l.length p.tables.cap,.slice p.control.p p.control.l.length p.control.cap,.slice p.emit.p p.emit.l.length p.emit.cap],.int .i64 act,e.val] (.bool true):=by
 intro e
 induction e using Ex.ind with
 | _ e ih =>
 intro n w hn16 hm hin he hb ht y0
 have kO:=(t_Of p hz hW act e (may_up e n hm 16 hn16) w hin he hb).up y0
 have hfine:=Ex.ty_fine p act e ht
 have hwide:=Ex.ty_wide p hW act e n hm ht
 have hkid:=fun x k h1 h2 h3=>ty_kid p act e x k h1 h2 h3 ht
 have hin:=hin.plus y0
 have he:=he.plus y0
 obtain⟨V,hV⟩:∃ V,plus w y0=V:=⟨_,rfl⟩
 rw [hV] at hin he kO ⊢
 clear hV
 obtain⟨⟨R,t⟩,hR⟩:∃ R,e.ty p act=R:=⟨_,rfl⟩
 rw [hR] at kO ht hfine hwide
 obtain rfl:R=0:=ht
 clear hR
 cases n with
 | zero=>simp [Ex.may] at hm
 | succ n =>
 rw [Ex.may] at hm
 simp only [Bool.and_eq_true] at hm
 obtain⟨-,-,hk⟩:=hm
 have hlen:e.args.length≤2:=by have:=(eachB_len hk).2;have:=xArgs_le e.op;omega
 have hkm:=eachB_all hk
 have hwt:=Ex.wt_eq e
 obtain⟨_,_,_,_,_,_,_,_,_,hrow,hkids⟩:=he
 have ih:=fun (x:Ex) (k:Nat) (hx:e.args[k]?=some x) (ho:k=0∨¬ (e.op=14∨e.op=15))=>by
  have hmem:=List.mem_of_getElem? hx
  have hlt:=(List.getElem?_eq_some_iff.1 hx).1
  have hxw:=le_sum_of Ex.wt e.args x hmem
  exact ih x hmem n V (by omega) (hkm x hmem) hin (hkids x hmem) (by omega) (hkid x k hx (by omega) ho)
 clear hin hkids hk hkm hwt hkid hb hn16 hW hz
 obtain⟨⟨p0,k0,l0⟩,⟨p1,k1,l1⟩,⟨p2,k2,l2⟩,⟨p3,k3,l3⟩,⟨p4,k4,l4⟩,⟨p5,k5,l5⟩,⟨p6,k6,l6⟩⟩:=p
 obtain⟨op,⟨lw,lh,ll⟩,hd,nm,eh,el,ep,ec,args⟩:=e
 simp only [Ex.val,Ex.cells,Ex.op,Ex.lit,Ex.head,Ex.name,Ex.hi,Ex.lo,Ex.p,Ex.args,Ex.cap] at ih kO hlen hrow ⊢
 obtain⟨n0,h0⟩:∃ n,l0.length=n:=⟨_,rfl⟩
 obtain⟨n1,h1⟩:∃ n,l1.length=n:=⟨_,rfl⟩
 obtain⟨n2,h2⟩:∃ n,l2.length=n:=⟨_,rfl⟩
 obtain⟨n3,h3⟩:∃ n,l3.length=n:=⟨_,rfl⟩
 obtain⟨n4,h4⟩:∃ n,l4.length=n:=⟨_,rfl⟩
 obtain⟨n5,h5⟩:∃ n,l5.length=n:=⟨_,rfl⟩
 obtain⟨n6,h6⟩:∃ n,l6.length=n:=⟨_,rfl⟩
 simp only [h0,h1,h2,h3,h4,h5,h6] at ih kO ⊢
 clear h0 h1 h2 h3 h4 h5 h6
 obtain⟨M,hM⟩:∃ M,args.length=M:=⟨_,rfl⟩
 rw [hM] at hlen kO ⊢
 obtain⟨tw,tt,tf⟩:=t
 simp only at hfine hwide kO
 have ih':=Lib.hid ih
 have hrow':=Lib.hid hrow
 have kO':=Lib.hid kO
 have hM':=Lib.hid hM
 have hl':=Lib.hid (show M≤1048576 by omega)
 have hf':=Lib.hid hfine
 have hw':=Lib.hid hwide
 clear ih hrow kO hM hfine hwide hlen
 go_enter Tryz.func10,Tryz.ntmps10
 go_upto_region 1 with (fail)
 obtain⟨X,Y0,hX,⟨zX,hzX⟩,ca,cb⟩:=box2n V _ _ 30 45
 rw [hX]
 have g0:=ca 0 _ rfl
 have g1:=ca 1 _ rfl
 have g2:=ca 2 _ rfl
 have g3:=ca 3 _ rfl
 have g4:=ca 4 _ rfl
 have g5:=ca 5 _ rfl
 have g6:=ca 6 _ rfl
 have b0:=cb 0 _ rfl
 have b1:=cb 1 _ rfl
 have b2:=cb 2 _ rfl
 have b3:=cb 3 _ rfl
 have b4:=cb 4 _ rfl
 have b5:=cb 5 _ rfl
 have b6:=cb 6 _ rfl
 have b7:=cb 7 _ rfl
 have b8:=cb 8 _ rfl
 have q:=Lib.hid (kp_at hzX kO'.out)
 have hz3:=Lib.hid hzX
 clear hX ca cb hzX kO'
 go_upto_region 2 with (first|(go_at_call 16;with_reducible refine (q.out _).mono ?_;rintro r w' ⟨rfl,x1,rfl⟩))
 clear q
 obtain⟨X2,Y2,hX2,⟨z2,hz2⟩,ct⟩:=box1n (plus X x1) _ 75
 rw [hX2]
 have t0:=ct 0 _ rfl
 have t1:=ct 1 _ rfl
 have t2:=ct 2 _ rfl
 rw [plus_plus] at hz2
 replace g0:=lift8 hz2 g0
 replace g1:=lift8 hz2 g1
 replace g2:=lift8 hz2 g2
 replace g3:=lift8 hz2 g3
 replace g4:=lift8 hz2 g4
 replace g5:=lift8 hz2 g5
 replace g6:=lift8 hz2 g6
 replace b0:=lift8 hz2 b0
 replace b1:=lift8 hz2 b1
 replace b2:=lift8 hz2 b2
 replace b3:=lift8 hz2 b3
 replace b4:=lift8 hz2 b4
 replace b5:=lift8 hz2 b5
 replace b6:=lift8 hz2 b6
 replace b7:=lift8 hz2 b7
 replace b8:=lift8 hz2 b8
 have hz4:=Lib.hid (show ∃ z,X2=plus V z by rw [hz2,hz3.out,plus_plus];exact⟨_,rfl⟩)
 clear hX2 ct hz2 hz3
 go_cut [6,47] from 11 to 47 (fun s6 s47 wx=>s6=.bool false∧s47=.bool false∧wx=plus X2 Y2)
 case first =>
  have hfa:=hf'.out.1
  cases tt with
  | true =>
   cases tf with
   | true=>exact absurd ⟨rfl,rfl⟩ hfa
   | false =>
    clear hfa hf' hw' ih' hrow' hM' hl' hz4
    go_wp2_with fail
    go_meet
    exact⟨rfl,rfl,rfl⟩
  | false =>
   cases tf with
   | true =>
    clear hfa hf' hw' ih' hrow' hM' hl' hz4
    go_wp2_with fail
    go_meet
    exact⟨rfl,rfl,rfl⟩
   | false =>
    have hw2:=hw'.out rfl rfl
    have hw3:¬ tw < 1:=by omega
    have hw4:¬ 128 < tw:=by omega
    clear hfa hf' hw' ih' hrow' hM' hl' hz4 hw2
    go_wp2_with fail
    go_meet
    exact⟨rfl,rfl,rfl⟩
 case rest =>
  obtain⟨rfl,rfl,rfl⟩:=hcut
  clear t0 t1 t2 hf' hw'
  go_wp2_with fail
  go_loopw [9,10,51] (fun _ _ iv wr=>∃ k:Nat,k≤M∧iv=.int .i64 (k:Int)∧∃ y,wr=plus X2 y) (fun _ _ iv _=>M - (intOf iv).toNat)
  case atStart=>exact⟨0,Nat.zero_le _,rfl,_,rfl⟩
  case round =>
   obtain⟨k,hk,rfl,y,rfl⟩:=hrel
   by_cases hlt:k < M
   ·obtain⟨e,hxk⟩:∃ e,args[k]?=some e:=⟨args[k]'(by rw [hM'.out];exact hlt),List.getElem?_eq_getElem _⟩
    obtain⟨a,rfl,hc⟩:=hrow'.out k e hxk
    have hc2:∀ y,CellsAt (plus X2 y) (a.add (k*9)) e.cells:=fun y=>by obtain⟨z,hz⟩:=hz4.out;rw [hz,plus_plus];exact hc.plus _
    have hkid:=ih'.out e k hxk
    obtain⟨eop,⟨elw,elh,ell⟩,ehd,enm,eeh,eel,ep,ecap,eargs⟩:=e
    have d0:=fun y=>(hc2 y).c0 _ rfl
    have d1:=fun y=>(hc2 y).cs 0 _ rfl
    have d2:=fun y=>(hc2 y).cs 1 _ rfl
    have d3:=fun y=>(hc2 y).cs 2 _ rfl
    have d4:=fun y=>(hc2 y).cs 3 _ rfl
    have d5:=fun y=>(hc2 y).cs 4 _ rfl
    have d6:=fun y=>(hc2 y).cs 5 _ rfl
    have d7:=fun y=>(hc2 y).cs 6 _ rfl
    have d8:=fun y=>(hc2 y).cs 7 _ rfl
    simp only [Ex.op,Ex.lit,Ex.head,Ex.name,Ex.hi,Ex.lo,Ex.p,Ex.cap,Ex.args] at d0 d1 d2 d3 d4 d5 d6 d7 d8 hkid
    have a6:=Lib.hid (wr_succ k M hlt hl'.out)
    have hkid':=Lib.hid hkid
    clear hc2 hc hkid hxk hrow' ih' hM' hl'
    go_upto_region 7 with (fail)
    obtain⟨X3,Y3,hX3,⟨z3,hz3⟩,ce⟩:=box1n (plus X2 y) _ 45
    rw [hX3]
    have hz5:X3=plus X2 _:=hz3.trans (plus_plus _ _ _)
    clear d0 d1 d2 d3 d4 d5 d6 d7 d8 b1 b2 b3 b4 b5 b6 b7 b8 hX3 hz3
    have d0:=ce 0 _ rfl
    have d1:=ce 1 _ rfl
    have d2:=ce 2 _ rfl
    have d3:=ce 3 _ rfl
    have d4:=ce 4 _ rfl
    have d5:=ce 5 _ rfl
    have d6:=ce 6 _ rfl
    have d7:=ce 7 _ rfl
    have d8:=ce 8 _ rfl
    replace g0:=lift8 hz5 g0
    replace g1:=lift8 hz5 g1
    replace g2:=lift8 hz5 g2
    replace g3:=lift8 hz5 g3
    replace g4:=lift8 hz5 g4
    replace g5:=lift8 hz5 g5
    replace g6:=lift8 hz5 g6
    replace b0:=lift8 hz5 b0
    have hz6:=Lib.hid hz5
    clear ce
    by_cases hnd:k=0∨¬ (op=14∨op=15)
    ·obtain⟨z4,hz4e⟩:=hz4.out
     obtain⟨EN,hEN⟩:∃ EN,eargs.length=EN:=⟨_,rfl⟩
     have hkp:=hkid'.out hnd
     rw [hEN] at hkp
     have hkp2:=kp_at (show X3=plus V _ from by rw [hz5,hz4e,plus_plus]) hkp
     have hkp':=Lib.hid hkp2
     rw [hEN] at d8
     clear hkp hkp2 hkid' hz4e hz5
     by_cases hk0:k=0
     ·have kz:((k:Int) == 0)=true:=by rw [hk0];rfl
      clear hnd hk0 hEN
      go_wp2_with fail
      refine (hkp'.out _).mono ?_
      rintro r w' ⟨rfl,x,rfl⟩
      go_wp2
      go_roundw
      case rel=>exact⟨k+1,hlt,congrArg (Value.int .i64) a6.out,by rw [hz6.out,plus_plus];exact⟨_,rfl⟩⟩
      case measure=>exact step_less k M hlt a6.out
     ·have hno:=hnd.resolve_left hk0
      have kz:((k:Int) == 0)=false:=beq_eq_false_iff_ne.2 (by omega)
      have o14:(op == 14)=false:=beq_eq_false_iff_ne.2 (by omega)
      have o15:(op == 15)=false:=beq_eq_false_iff_ne.2 (by omega)
      have p14:(op != 14)=true:=by simpa using o14
      have p15:(op != 15)=true:=by simpa using o15
      clear hno hnd hk0 hEN
      go_wp2_with fail
      refine (hkp'.out _).mono ?_
      rintro r w' ⟨rfl,x,rfl⟩
      go_wp2
      go_roundw
      case rel=>exact⟨k+1,hlt,congrArg (Value.int .i64) a6.out,by rw [hz6.out,plus_plus];exact⟨_,rfl⟩⟩
      case measure=>exact step_less k M hlt a6.out
    ·have hk0:k≠0:=fun c=>hnd (Or.inl c)
     have hop:op=14∨op=15:=Classical.not_not.1 (fun c=>hnd (Or.inr c))
     have kz:((k:Int) == 0)=false:=beq_eq_false_iff_ne.2 (by omega)
     clear hnd hk0 hkid' hz5
     rcases hop with rfl | rfl
     all_goals
      go_wp2
      go_roundw
      case rel=>exact⟨k+1,hlt,congrArg (Value.int .i64) a6.out,by rw [hz6.out,plus_plus];exact⟨_,rfl⟩⟩
      case measure=>exact step_less k M hlt a6.out
   ·obtain rfl:k=M:=by omega
    clear hlt hk
    go_wp2
    go_ret
    obtain⟨z,hz⟩:=hz4.out
    exact⟨rfl,by rw [hz,plus_plus];exact⟨_,rfl⟩⟩
theorem enc_le7 (a:Int):∀ s:St,(s.enc a).length≤s.sz:=fun s=>St.ind (Q:=fun s=>(s.enc a).length≤s.sz) (fun s h1 h2=>by
 have sums:∀ l:List St,(∀ x ∈ l,(x.enc a).length≤x.sz)→(St.encs a l).length≤(l.map St.sz).sum:=by
  intro l
  induction l with
  | nil=>intro _;simp [St.encs]
  | cons x l ih =>
   intro h
   have:=h x (List.mem_cons_self ..)
   have:=ih (fun y hy=>h y (List.mem_cons_of_mem _ hy))
   rw [St.encs,List.length_append,List.map_cons,List.sum_cons]
   omega
 have e:=St.sz_eq s
 have:=sums _ h1
 have:=sums _ h2
 rw [St.enc_eq,List.length_cons,List.length_append]
 omega) s
theorem encs_le7 (a:Int):∀ l:List St,(St.encs a l).length≤(l.map St.sz).sum
 | []=>by simp [St.encs]
 | x :: l=>by
  have:=enc_le7 a x
  have:=encs_le7 a l
  rw [St.encs,List.length_append,List.map_cons,List.sum_cons]
  omega
theorem encs_take (a:Int):∀ (l:List St) (k:Nat) (s:St),l[k]?=some s→St.encs a (l.take (k+1))=St.encs a (l.take k)++s.enc a
 | [],k,s,h=>by simp at h
 | x :: l,0,s,h=>by
  obtain rfl:x=s:=by simpa using h
  simp [St.encs]
 | x :: l,k+1,s,h=>by
  have:=encs_take a l k s (by simpa using h)
  rw [List.take_succ_cons,List.take_succ_cons,St.encs,St.encs,this,List.append_assoc]
theorem take_sum (l:List St) (k:Nat):((l.take k).map St.sz).sum≤(l.map St.sz).sum:=by
 induction l generalizing k with
 | nil=>simp
 | cons x l ih =>
  cases k with
  | zero=>simp
  | succ k=>have:=ih k;simp only [List.take_succ_cons,List.map_cons,List.sum_cons];omega
def StAt (l:List St):Prop:=∀ (a:Int) (p:Option Addr) (cap:Nat) (w:World),RowAt w 14 St.cells p l→(∀ x ∈ l,x.In w)→(l.map St.sz).sum≤1048576 →
 Calls Tryz.prog 25 #[.int .i64 a,.slice p l.length cap] w fun e w'=>∃ v,e=.returned v∧OwI w w' v (St.encs a l)
set_option maxRecDepth 100000 in
set_option maxHeartbeats 16000000 in
theorem st_list (l:List St) (hk:∀ s ∈ l,StAt s.thn∧StAt s.els):StAt l:=by
 intro a p cap w hrow hkids hz
 have hl:l.length≤1048576:=by have:=length_le_sum St.sz (fun s=>by have:=St.sz_eq s;omega) l;omega
 have hrow':=Lib.hid hrow
 have hkids':=Lib.hid hkids
 have hz':=Lib.hid hz
 have hk':=Lib.hid hk
 obtain⟨n,hn⟩:∃ n,l.length=n:=⟨_,rfl⟩
 rw [hn] at hl ⊢
 have hn':=Lib.hid hn
 have hl':=Lib.hid hl
 clear hrow hkids hz hk hn hl
 go_enter Tryz.func25,Tryz.ntmps25
 go_wp2
 go_loopw [5,6] (fun ov iv wr=>∃ k:Nat,k≤n∧iv=.int .i64 (k:Int)∧OwI w wr ov (St.encs a (l.take k))) (fun _ iv _=>n - (intOf iv).toNat)
 case atStart=>exact⟨0,Nat.zero_le _,rfl,owi_nil w⟩
 case round =>
  obtain⟨k,hk,rfl,hI⟩:=hrel
  by_cases hlt:k < n
  ·obtain⟨s,hs⟩:∃ s,l[k]?=some s:=⟨l[k]'(by rw [hn'.out];exact hlt),List.getElem?_eq_getElem _⟩
   have hmem:=List.mem_of_getElem? hs
   have hsz:=le_sum_of St.sz l s hmem
   have hse:=St.sz_eq s
   obtain⟨pa,hpa,hc⟩:=hrow'.out k s hs
   have hin:=hkids'.out s hmem
   have hF:∀ v1 w1 l1,OwI w w1 v1 l1→CellsAt w1 (pa.add (k*14)) s.cells ∧
     Calls Tryz.prog 25 #[.int .i64 a,.slice s.p s.thn.length s.cap] w1 (fun e w'=>∃ v,e=.returned v∧OwI w1 w' v (St.encs a s.thn)) ∧
     Calls Tryz.prog 25 #[.int .i64 a,.slice s.q s.els.length s.cbp] w1 (fun e w'=>∃ v,e=.returned v∧OwI w1 w' v (St.encs a s.els)):=by
    intro v1 w1 l1 h1
    obtain⟨z,rfl⟩:=h1.plus
    obtain⟨q1,q2⟩:=hk'.out s hmem
    have hin1:=hin.plus z
    have i1:=St.In.inThn hin1
    have i2:=St.In.inEls hin1
    have hz1:=hz'.out
    exact⟨hc.plus z,q1 a _ _ _ i1.row i1.kids (by omega),q2 a _ _ _ i2.row i2.kids (by omega)⟩
   obtain⟨hcw,-,-⟩:=hF _ _ _ hI
   have hb0:(St.encs a (l.take k)).length+(s.enc a).length≤10000000:=by
    have h1:=encs_le7 a (l.take k)
    have h2:=take_sum l k
    have h3:=hz'.out
    have h4:=enc_le7 a s
    omega
   rw [St.enc_eq,List.length_cons,List.length_append] at hb0
   have he:=Lib.hid (encs_take a l k s hs)
   rw [St.enc_eq] at he
   generalize St.encs a (l.take k)=X at hI hb0 he
   generalize hT:St.encs a s.thn=T at hF hb0 he
   generalize hE:St.encs a s.els=E at hF hb0 he
   clear hT hE
   have hF':=Lib.hid hF
   have hI':=Lib.hid hI
   have hb':=Lib.hid hb0
   have a6:=Lib.hid (wr_succ k n hlt hl'.out)
   have d0:=hcw.c0 _ rfl
   have d1:=hcw.cs 0 _ rfl
   have d2:=hcw.cs 1 _ rfl
   have d3:=hcw.cs 2 _ rfl
   have d4:=hcw.cs 3 _ rfl
   have d5:=hcw.cs 4 _ rfl
   have d6:=hcw.cs 5 _ rfl
   have d7:=hcw.cs 6 _ rfl
   have d8:=hcw.cs 7 _ rfl
   have d9:=hcw.cs 8 _ rfl
   have d10:=hcw.cs 9 _ rfl
   have d11:=hcw.cs 10 _ rfl
   have d12:=hcw.cs 11 _ rfl
   have d13:=hcw.cs 12 _ rfl
   rw [hpa]
   clear hF hI hb0 hcw hc hin hse hsz hmem hs
   go_upto_region 6 with (first|(at_builtin;refine its_one hI'.out (.st a s) _ rfl rfl _ _ rfl rfl rfl (by have:=hb'.out;omega) ?_;intro v1 w1 h1;obtain⟨hc1,q1,-⟩:=hF'.out _ _ _ h1;have h1':=Lib.hid h1;have q1':=Lib.hid q1;have e12:=hc1.cs 11 _ rfl;clear h1 hc1 q1))
   clear d0 d1 d2 d3 d4 d5 d6 d7 d8 d9 d10 d11 d12 d13
   go_upto_region 7 with (first|(go_at_call 25;with_reducible refine q1'.out.mono ?_;rintro e w2 ⟨v2,rfl,h2⟩;obtain⟨p2,c2,rfl,r2⟩:=h2.row;have r2':=Lib.hid r2;have h3':=Lib.hid (h1'.out.after h2.below);clear h2 r2)|(at_builtin;refine its_sl h3'.out T p2 _ c2 rfl r2'.out rfl _ _ rfl rfl rfl (by have:=hb'.out;rw [List.length_append,List.length_singleton];omega) ?_;intro v4 w4 h4;obtain⟨hc1,-,q4⟩:=hF'.out _ _ _ h4;have h4':=Lib.hid h4;have q4':=Lib.hid q4;have e13:=hc1.cs 12 _ rfl;clear h4 hc1 q4))
   go_wp2_with (first|(go_at_call 25;with_reducible refine q4'.out.mono ?_;rintro e w5 ⟨v5,rfl,h5⟩;obtain⟨p5,c5,rfl,r5⟩:=h5.row;have r5':=Lib.hid r5;have h6':=Lib.hid (h4'.out.after h5.below);clear h5 r5)|(at_builtin;refine its_sl h6'.out E p5 _ c5 rfl r5'.out rfl _ _ rfl rfl rfl (by have:=hb'.out;rw [List.length_append,List.length_append,List.length_singleton];omega) ?_;intro v7 w7 h7;have h7':=Lib.hid h7;clear h7))
   go_roundw
   case rel=>exact⟨k+1,hlt,congrArg (Value.int .i64) a6.out,by rw [he.out];have:=h7'.out;simpa [List.append_assoc] using this⟩
   case measure=>exact step_less k n hlt a6.out
  ·obtain rfl:k=n:=by omega
   rw [List.take_of_length_le (by rw [hn'.out];exact Nat.le_refl _)] at hI
   have hI':=Lib.hid hI
   clear hI hlt hk
   go_wp2
   go_ret
   exact⟨_,rfl,hI'.out⟩
theorem st_all (s:St):StAt s.thn∧StAt s.els:=St.ind (Q:=fun s=>StAt s.thn∧StAt s.els) (fun _ h1 h2=>⟨st_list _ h1,st_list _ h2⟩) s
theorem r_stmts (L:Sl St) (a:Int) (w:World) (h:L.In w 14 St.cells (St.In w)) (hz:L.size St.sz≤1048576):Calls Tryz.prog 25 #[.int .i64 a,.slice L.p L.l.length L.cap] w fun e w'=>∃ v,e=.returned v∧OwI w w' v (St.encs a L.l) :=
 st_list L.l (fun s _=>st_all s) a L.p L.cap w h.row h.kids hz
end Go.Proofs.YtobhijbncchpiaaGreat
