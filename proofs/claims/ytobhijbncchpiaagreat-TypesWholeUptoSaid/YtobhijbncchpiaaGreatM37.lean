/-
  WHAT IS PROVED HERE: a part of the proof (made narrower and merged by program; the parts: Dc Di Dj Dx).
-/
import Derived.Test.YtobhijbncchpiaaGreatM35
import Derived.Test.YtobhijbncchpiaaGreatM36
import Derived.Test.YtobhijbncchpiaaGreatM15
namespace Go.Proofs.YtobhijbncchpiaaGreat
open Go.RowKit
theorem one_encs (a:Int):∀ (n:Nat) (l:List St),St.mayB n l=true→∀ z ∈ St.encs a l,∃ s,z=.st a s∧s.one=true
 | 0,l,h,z,hz=>by
  rw [St.mayB] at h
  obtain rfl:=List.length_eq_zero_iff.1 (show l.length=0 by have:(l.length:Int)=0:=(by simpa using h);omega)
  rw [St.encs] at hz
  cases hz
 | n+1,l,h,z,hz=>by
  rw [St.mayB] at h
  have hall:=eachB_all h
  rw [St.encs_fl a _ 0] at hz
  obtain⟨i,x,hx,hzx⟩:=mem_flI _ z _ 0 hz
  have hm:=hall x (List.mem_of_getElem? hx)
  simp only [Bool.and_eq_true] at hm
  obtain⟨h1,h2,h3⟩:=hm
  rw [St.enc_eq] at hzx
  rcases List.mem_cons.1 hzx with rfl | hzx
  ·exact⟨x,rfl,h1⟩
  rcases List.mem_append.1 hzx with hzx | hzx
  ·exact one_encs a n _ h2 z hzx
  ·exact one_encs a n _ h3 z hzx
theorem one_of (p:Pr) (hB:prB p=true) (a:Int) (s:St) (h:It.st a s ∈ encP p):s.one=true:=by
 unfold prB at hB
 simp only [Bool.and_eq_true] at hB
 obtain⟨-,-,-,h4,-,h6,-⟩:=hB
 have key:∀ (b:Int) (n:Nat) (l:List St),St.mayB n l=true→It.st a s ∈ St.encs b l→s.one=true:=fun b n l hl hm=>by
  obtain⟨s2,e,h⟩:=one_encs b n l hl _ hm
  injection e with _ e2
  rw [e2];exact h
 unfold encP at h
 rcases List.mem_append.1 h with h | h
 ·obtain⟨i,x,hx,hm⟩:=mem_flI _ _ _ 0 h
  rcases List.mem_cons.1 hm with hm | hm
  ·cases hm
  ·obtain⟨j,_,e⟩:=mem_ptI hm;cases e
 rcases List.mem_append.1 h with h | h
 ·obtain⟨i,x,hx,hm⟩:=mem_flI _ _ _ 0 h
  cases List.mem_singleton.1 hm
 rcases List.mem_append.1 h with h | h
 ·obtain⟨i,x,hx,hm⟩:=mem_flI _ _ _ 0 h
  rcases List.mem_cons.1 hm with hm | hm
  ·cases hm
  rcases List.mem_append.1 hm with hm | hm
  ·obtain⟨j,_,e⟩:=mem_ptI hm;cases e
  rcases List.mem_cons.1 hm with hm | hm
  ·cases hm
  ·obtain⟨j,_,e⟩:=mem_ptI hm;cases e
 rcases List.mem_append.1 h with h | h
 ·obtain⟨i,x,hx,hm⟩:=mem_flI _ _ _ 0 h
  rcases List.mem_cons.1 hm with hm | hm
  ·cases hm
  rcases List.mem_append.1 hm with hm | hm
  ·obtain⟨j,_,e⟩:=mem_ptI hm;cases e
  ·have hx2:=eachB_all h4 x (List.mem_of_getElem? hx)
   unfold acB at hx2
   simp only [Bool.and_eq_true] at hx2
   exact key _ 8 _ hx2.2.2 hm
 rcases List.mem_append.1 h with h | h
 ·obtain⟨i,x,hx,hm⟩:=mem_flI _ _ _ 0 h
  rcases List.mem_cons.1 hm with hm | hm
  ·cases hm
  rcases List.mem_append.1 hm with hm | hm
  ·obtain⟨j,_,e⟩:=mem_ptI hm;cases e
  rcases List.mem_append.1 hm with hm | hm
  ·obtain⟨j,_,e⟩:=mem_ptI hm;cases e
  ·cases List.mem_singleton.1 hm
 rcases List.mem_append.1 h with h | h
 ·exact key _ 8 _ h6 h
 ·obtain⟨i,x,hx,hm⟩:=mem_flI _ _ _ 0 h
  cases List.mem_singleton.1 hm
/-- What holds of an item with nothing wrong in its names. -/
inductive NoWr (p:Pr):It→Prop where
 | next (a:Nat) (s:Sa) (hs:p.states.l[a]?=some s) (hk:∀ k ∈ s.keys.l,k.may 16=true):NoWr p (.num 6 a 0)
 | case_ (a b:Nat) (s:Sa) (c:Ca) (hs:p.states.l[a]?=some s) (hc:s.cases.l[b]?=some c) (hl:c.sets.l.length≤s.keys.l.length):NoWr p (.num 7 a b)
 | key (a b:Nat) (t:Ta) (k:Ke) (ht:p.tables.l[a]?=some t) (hk:t.keys.l[b]?=some k) (hm:k.e.may 16=true):NoWr p (.num 12 a b)
 | dflt (a k:Nat) (t:Ta) (x:Ac) (ht:p.tables.l[a]?=some t) (hn:acI p.actions.l t.dflt.name=(k:Int)) (hx:p.actions.l[k]?=some x) (hl:t.dflt.args.l.length=x.params.l.length):NoWr p (.num 14 a 0)
 | stmt (a:Int) (s:St) (hm:s.kind=1∨s.kind=2∨s.kind=5→s.e.may 16=true) (ht:s.kind=1→targetI p s.head s.name≠-1) (h0:¬ (s.kind=1∨s.kind=2∨s.kind=5)→s.e.op=0):NoWr p (.st a s)
 | other (k:Int) (a b:Nat) (h:k≠6∧k≠7∧k≠10∧k≠12∧k≠14):NoWr p (.num k a b)
theorem no_wrong (p:Pr) (w:World) (hin:p.In w) (hz:p.sz≤1048576) (hB:prB p=true) (hall:∀ z ∈ encP p,wrI p z=0):∀ z ∈ encP p,NoWr p z:=by
 intro z hm
 have hB':=hB
 unfold prB at hB'
 simp only [Bool.and_eq_true] at hB'
 obtain⟨-,-,h3,-,h5,-,-⟩:=hB'
 have hst:∀ (a:Nat) (s:Sa),p.states.l[a]?=some s→(∀ k ∈ s.keys.l,k.may 16=true)∧∀ c ∈ s.cases.l,c.sets.l.length≤s.keys.l.length:=fun a s hs=>by
  have h:=eachB_all h3 s (List.mem_of_getElem? hs)
  unfold saB saT at h
  simp only [Bool.and_eq_true] at h
  obtain⟨-,-,h⟩:=h
  split at h
  ·simp only [Bool.and_eq_true] at h
   refine⟨fun k hk=>eachB_all h.1 k hk,fun c hc=>?_⟩
   have q:=eachB_all h.2 c hc
   unfold caB at q
   simp only [Bool.and_eq_true] at q
   have q2:=eachB_len q.2
   unfold caK at q2
   split at q2 <;> omega
  ·simp only [Bool.and_eq_true,beq_iff_eq] at h
   obtain⟨-,k1,k2⟩:=h
   have e1:s.keys.l=[]:=List.length_eq_zero_iff.1 (by omega)
   have e2:s.cases.l=[]:=List.length_eq_zero_iff.1 (by omega)
   exact⟨fun k hk=>(by rw [e1] at hk;cases hk),fun c hc=>(by rw [e2] at hc;cases hc)⟩
 have hw:=hall z hm
 have hok:=enc_ok p w hin hz z hm
 cases hok with
 | header a x hx=>exact .other _ _ _ (by decide)
 | field a b x y hx hy=>exact .other _ _ _ (by decide)
 | mta a x hx=>exact .other _ _ _ (by decide)
 | state a x hx=>exact .other _ _ _ (by decide)
 | take a b x y hx hy=>exact .other _ _ _ (by decide)
 | next a x hx=>exact .next a x hx (hst a x hx).1
 | case_ a b x y hx hy=>exact .case_ a b x y hx hy ((hst a x hx).2 y (List.mem_of_getElem? hy))
 | action a x hx=>exact .other _ _ _ (by decide)
 | param a b x y hx hy=>exact .other _ _ _ (by decide)
 | table a x hx=>exact .other _ _ _ (by decide)
 | key a b x y hx hy =>
  have h:=eachB_all h5 x (List.mem_of_getElem? hx)
  unfold taB at h
  simp only [Bool.and_eq_true] at h
  have q:=eachB_all h.2.1 y (List.mem_of_getElem? hy)
  unfold keB at q
  simp only [Bool.and_eq_true] at q
  exact .key a b x y hx hy q.2.2
 | listed a b x y hx hy=>exact .other _ _ _ (by decide)
 | dflt a x hx =>
  obtain⟨k,y,hk,hy⟩:=acI_some (ok_table hall hx).2
  refine .dflt a k x y hx hk hy ?_
  have hv:wrI p (.num 14 a 0)=wDfI x.actions.l x.dflt.name x.dflt.args.l.length y.params.l.length:=by simp [wrI,wrN,hx,hk,hy]
  rw [hv] at hw
  unfold wDfI at hw
  split at hw
  ·cases hw
  split at hw
  ·cases hw
  split at hw
  ·cases hw
  ·omega
 | emit a x hx=>exact .other _ _ _ (by decide)
 | stmt a s hs hsz =>
  have h1:=one_of p hB a s hm
  unfold St.one at h1
  simp only [Bool.and_eq_true] at h1
  obtain⟨-,-,h1⟩:=h1
  have hv:wrI p (.st a s)=wStI p a s.kind s.head s.name (if s.e.there (isB p a) then 0 else 7):=rfl
  rw [hv] at hw
  have ht:tExpr s.kind=true ↔ (s.kind=1∨s.kind=2∨s.kind=5):=by simp [tExpr,or_assoc]
  refine .stmt a s (fun h=>?_) (fun h=>?_) (fun h=>?_)
  ·rw [if_pos (ht.2 h)] at h1
   exact h1
  ·unfold wStI at hw
   rw [if_pos h] at hw
   intro e
   rw [if_pos e] at hw
   cases hw
  ·rw [if_neg (fun q=>h (ht.1 q))] at h1
   rw [Ex.same_eq] at h1
   simp only [Bool.and_eq_true] at h1
   have h2:=h1.1
   unfold Ex.top at h2
   simp only [Bool.and_eq_true,beq_iff_eq] at h2
   exact h2.1.1.1.1.1
/-- A checker: the program, and the last transition's widths. -/
structure ChkAt (W:World) (cb:Nat) (p:Pr) (kv:Value):Prop where
 cells:∀ j v,p.cells[j]?=some v→W.cell? ⟨cb,j,none⟩=some v
 keys:W.cell? ⟨cb,7,none⟩=some kv
theorem ChkAt.plus {W:World} {cb:Nat} {p:Pr} {kv:Value} (h:ChkAt W cb p kv) (x:Ext):ChkAt (Go.Proofs.YtobhijbncchpiaaGreat.plus W x) cb p kv:=⟨fun j v hj=>cell_keep (h.cells j v hj) x,cell_keep h.keys x⟩
def iCells (i:Int):List Value:=[.int .i64 i]
set_option maxRecDepth 100000 in
set_option maxHeartbeats 16000000 in
theorem t_branch (cb:Nat) (c:Ca) (ws:List Int) (kp:Option Addr) (kc:Nat) (w:World) (hc:c.In w) (hz:c.sz≤1048576) (hl:c.sets.l.length≤ws.length)
  (hk:w.cell? ⟨cb,7,none⟩=some (.slice kp ws.length kc)) (hr:RowAt w 1 iCells kp ws) :
  KpE Tryz.prog w 35 #[.pointer (some ⟨cb,0,none⟩),.agg c.cells.toArray] (endE (firstE (setsL c.sets.l ws)) (.tuple #[])):=by
 intro y0
 have hsets:=hc.sets.row.plus y0
 have hlit:∀ x ∈ c.sets.l,x.v.Ok∧x.m.Ok:=fun x hx=>⟨(hc.sets.kids x hx).v,(hc.sets.kids x hx).m⟩
 have hk:=cell_keep hk y0
 have hr:=hr.plus y0
 obtain⟨V,hV⟩:∃ V,plus w y0=V:=⟨_,rfl⟩
 rw [hV] at hsets hk hr ⊢
 clear hV hc
 have hn:c.sets.l.length≤1048576:=len_le Se.sz (fun _=>Nat.le_refl _) c.sets (by unfold Ca.sz at hz;omega)
 obtain⟨dfl,⟨sp,scap,sl⟩,cto⟩:=c
 simp only at hsets hlit hl hn ⊢
 simp only [Ca.cells,Sl.v]
 have hsl:=sets_len sl ws
 have hat:=fun (k:Nat) (x:Se) (v:Int) (h1:sl[k]?=some x) (h2:ws[k]?=some v)=>sets_at sl ws k x v h1 h2
 obtain⟨n,hnn⟩:∃ n,sl.length=n:=⟨_,rfl⟩
 obtain⟨kn,hkn⟩:∃ n,ws.length=n:=⟨_,rfl⟩
 rw [hnn] at hn hl hsl
 rw [hkn] at hk hl
 rw [hnn]
 have hn':=Lib.hid hn
 have hl':=Lib.hid hl
 have hnn':=Lib.hid hnn
 have hkn':=Lib.hid hkn
 have hsets':=Lib.hid hsets
 have hlit':=Lib.hid hlit
 have hk':=Lib.hid hk
 have hr':=Lib.hid hr
 have hat':=Lib.hid hat
 have hsl':=Lib.hid hsl
 clear hn hl hnn hkn hsets hlit hk hr hat hsl hz
 go_enter Tryz.func35,Tryz.ntmps35
 go_upto_region 1 with (fail)
 obtain⟨X,Y0,hX,⟨zX,hzX⟩,ca⟩:=box1n V _ 70
 rw [hX]
 have b1:=ca 1 _ rfl
 have hz:=Lib.hid hzX
 clear hX ca hzX
 go_wp2
 go_loopw [4,5,9] (fun _ _ iv wr=>∃ k:Nat,k≤n∧iv=.int .i64 (k:Int)∧(∃ z,wr=plus V z)∧∀ j y,j < k→(setsL sl ws)[j]?=some y→y=0) (fun _ _ iv _=>n - (intOf iv).toNat)
 case atStart=>exact⟨0,Nat.zero_le _,rfl,⟨_,by rw [hz.out,plus_plus]⟩,fun j y h=>absurd h (Nat.not_lt_zero j)⟩
 case round =>
  obtain⟨k,hk,rfl,⟨z,hzr⟩,hJ⟩:=hrel
  by_cases hlt:k < n
  ·obtain⟨x,hx⟩:∃ x,sl[k]?=some x:=⟨sl[k]'(by rw [hnn'.out];exact hlt),List.getElem?_eq_getElem _⟩
   have hlk:=hl'.out
   obtain⟨v,hv⟩:∃ v,ws[k]?=some v:=⟨ws[k]'(by rw [hkn'.out];omega),List.getElem?_eq_getElem _⟩
   obtain⟨pa,rfl,hcx⟩:=hsets'.out k x hx
   obtain⟨ka,rfl,hck⟩:=hr'.out k v hv
   have hres:=hat'.out k x v hx hv
   obtain⟨ok1,ok2⟩:=hlit'.out x (List.mem_of_getElem? hx)
   have l1:=Lib.hid (fun W=>t_litGoes x.v v W ok1)
   have l2:=Lib.hid (fun W=>t_litGoes x.m v W ok2)
   clear ok1 ok2
   have hcw:CellsAt wr (pa.add (k*7)) x.cells:=by rw [hzr];exact hcx.plus z
   have d0:=hcw.c0 _ rfl
   have d1:=hcw.cs 0 _ rfl
   have d2:=hcw.cs 1 _ rfl
   have d3:=hcw.cs 2 _ rfl
   have d4:=hcw.cs 3 _ rfl
   have d5:=hcw.cs 4 _ rfl
   have d6:=hcw.cs 5 _ rfl
   have a6:=Lib.hid (wr_succ k n hlt hn'.out)
   have hkr:∀ y,(plus wr y).cell? ⟨cb,7,none⟩=some (.slice (some ka) kn kc):=fun y=>by rw [hzr,plus_plus];exact cell_keep hk'.out _
   have hkv:∀ y,(plus wr y).cell? (ka.add k)=some (.int .i64 v):=fun y=>by
    have q:=hck.c0 _ rfl
    rw [Nat.mul_one] at q
    rw [hzr,plus_plus];exact cell_keep q _
   have hzr':=Lib.hid hzr
   have hJ':=Lib.hid hJ
   have hres':=Lib.hid hres
   clear hcw hcx hck hx hv hzr hJ hres
   go_upto_region 4 with (fail)
   obtain⟨X2,Y2,hX2,⟨z2,hz2⟩,cc⟩:=box1n wr _ 162
   rw [hX2]
   have s1:=cc 1 _ rfl
   have s2:=cc 2 _ rfl
   have s3:=cc 3 _ rfl
   have s4:=cc 4 _ rfl
   have s5:=cc 5 _ rfl
   have s6:=cc 6 _ rfl
   have hk2:∀ y,(plus X2 y).cell? ⟨cb,7,none⟩=some (.slice (some ka) kn kc):=fun y=>by rw [hz2,plus_plus];exact hkr _
   have hv2:∀ y,(plus X2 y).cell? (ka.add k)=some (.int .i64 v):=fun y=>by rw [hz2,plus_plus];exact hkv _
   have hzX2:=Lib.hid hz2
   clear hX2 cc hz2 hkr hkv d0 d1 d2 d3 d4 d5 d6
   have hneg:¬ ((k:Int) < 0):=by omega
   have hlt2:(k:Int) < (kn:Int):=by omega
   have hpast:∀ x1,∃ z,plus X2 x1=plus V z:=fun x1=>by rw [hzX2.out,hzr'.out,plus_plus,plus_plus];exact⟨_,rfl⟩
   have hpast':=Lib.hid hpast
   clear hpast
   obtain⟨xk,⟨v1,v2,v3⟩,⟨m1,m2,m3⟩⟩:=x
   simp only [Lt.cells] at l1 l2
   simp only [List.getElem?_toArray,List.getElem?_cons_succ,List.getElem?_cons_zero] at s1 s2 s3 s4 s5 s6
   obtain⟨r1,hr1⟩:∃ r,litE ⟨v1,v2,v3⟩ v=r:=⟨_,rfl⟩
   obtain⟨r2,hr2⟩:∃ r,litE ⟨m1,m2,m3⟩ v=r:=⟨_,rfl⟩
   simp only [hr1,hr2] at l1 l2 hres'
   clear hr1 hr2
   refine wp_region_own_tail 9 (by kernel_rfl) (by kernel_rfl) ?_
   simp only [List.take_succ_cons,List.take_zero,List.drop_succ_cons,List.drop_zero]
   repeat (go_big_quiet_step (fail))
   refine wpQuiet_nil ?_
   rintro _ ⟨y1,rfl⟩
   by_cases z1:r1=0
   ·subst z1
    simp only [if_true] at hres'
    go_wp2_with fail
    refine (l1.out X2 y1).mono ?_
    rintro r w' ⟨rfl,x1,rfl⟩
    rw [plus_plus]
    obtain⟨y2,hy2⟩:∃ Y:Ext,(⟨Ext.blocks y1++Ext.blocks x1,Ext.draws x1⟩:Ext)=Y:=⟨_,rfl⟩
    rw [hy2]
    clear hy2 l1
    rw [show endE 0 (.tuple #[])=.returned (.tuple #[]) from rfl]
    go_upto_region 5 with (fail)
    refine wp_region_own_tail 9 (by kernel_rfl) (by kernel_rfl) ?_
    simp only [List.take_succ_cons,List.take_zero,List.drop_succ_cons,List.drop_zero]
    repeat (go_big_quiet_step (fail))
    refine wpQuiet_nil ?_
    rintro _ ⟨y3,rfl⟩
    by_cases z2:r2=0
    ·subst z2
     go_wp2_with fail
     refine (l2.out X2 y3).mono ?_
     rintro r w' ⟨rfl,x2,rfl⟩
     rw [plus_plus]
     rw [show endE 0 (.tuple #[])=.returned (.tuple #[]) from rfl]
     go_wp2
     refine⟨⟨k+1,hlt,congrArg (Value.int .i64) a6.out,hpast'.out _,fun j y hj hy=>?_⟩,step_less k n hlt a6.out⟩
     by_cases hjk:j < k
     ·exact hJ'.out j y hjk hy
     ·obtain rfl:j=k:=by omega
      rw [hres'.out] at hy
      exact (Option.some.inj hy).symm
    ·go_wp2_with fail
     refine (l2.out X2 y3).mono ?_
     rintro r w' ⟨rfl,x2,rfl⟩
     rw [plus_plus]
     rw [show endE r2 (.tuple #[])=gaveE r2 by rw [endE,if_neg z2]]
     go_wp2
     exact⟨rfl,by rw [firstE_at _ k r2 hres'.out hJ'.out z2,endE,if_neg z2],hpast'.out _⟩
   ·rw [if_neg z1] at hres'
    go_wp2_with fail
    refine (l1.out X2 y1).mono ?_
    rintro r w' ⟨rfl,x1,rfl⟩
    rw [plus_plus]
    rw [show endE r1 (.tuple #[])=gaveE r1 by rw [endE,if_neg z1]]
    go_wp2
    exact⟨rfl,by rw [firstE_at _ k r1 hres'.out hJ'.out z1,endE,if_neg z1],hpast'.out _⟩
  ·obtain rfl:k=n:=by omega
   have hend:firstE (setsL sl ws)=0:=firstE_zero _ fun j y hj=>hJ j y (by have:=(List.getElem?_eq_some_iff.1 hj).1;have:=hsl'.out;omega) hj
   have hzr':=Lib.hid hzr
   have hend':=Lib.hid hend
   clear hzr hend hJ
   go_wp2
   go_end0
   exact⟨by rw [hend'.out];rfl,⟨z,hzr'.out⟩⟩
set_option maxRecDepth 100000 in
set_option maxHeartbeats 16000000 in
theorem t_fallback (cb:Nat) (p:Pr) (kv:Value) (x:Cl) (k:Nat) (a:Ac) (w:World) (hin:p.In w) (hz:p.sz≤1048576) (hC:ChkAt w cb p kv) (hx:x.In w) (hn:acI p.actions.l x.name=(k:Int)) (ha:p.actions.l[k]?=some a)
  (hl:x.args.l.length≤a.params.l.length) (hs:x.args.l.length≤1048576) :
  KpE Tryz.prog w 38 #[.pointer (some ⟨cb,0,none⟩),.agg x.cells.toArray] (endE (firstE (argsL x.args.l a.params.l)) (.tuple #[])):=by
 intro y0
 have kA:=(q_Action p w hin hz x.name).up y0
 rw [hn] at kA
 have hC:=hC.plus y0
 have hargs:=hx.args.row.plus y0
 have hlit:=hx.args.kids
 obtain⟨pa,hpa,hca⟩:=hin.actions.row k a ha
 have hca:=hca.plus y0
 have hpar:=(hin.actions.kids a (List.mem_of_getElem? ha)).params.row.plus y0
 have hkl:=(List.getElem?_eq_some_iff.1 ha).1
 obtain⟨V,hV⟩:∃ V,plus w y0=V:=⟨_,rfl⟩
 rw [hV] at kA hC hargs hca hpar ⊢
 clear hV hin hz hx hn ha
 have C0:=hC.cells 0 _ rfl
 have C1:=hC.cells 1 _ rfl
 have C2:=hC.cells 2 _ rfl
 have C3:=hC.cells 3 _ rfl
 have C4:=hC.cells 4 _ rfl
 have C5:=hC.cells 5 _ rfl
 have C6:=hC.cells 6 _ rfl
 clear hC
 obtain⟨⟨p0,k0,l0⟩,⟨p1,k1,l1⟩,⟨p2,k2,l2⟩,⟨p3,k3,l3⟩,⟨p4,k4,l4⟩,⟨p5,k5,l5⟩,⟨p6,k6,l6⟩⟩:=p
 simp only [Sl.v] at C0 C1 C2 C3 C4 C5 C6 kA hpa hkl
 subst hpa
 obtain⟨n0,h0⟩:∃ n,l0.length=n:=⟨_,rfl⟩
 obtain⟨n1,h1⟩:∃ n,l1.length=n:=⟨_,rfl⟩
 obtain⟨n2,h2⟩:∃ n,l2.length=n:=⟨_,rfl⟩
 obtain⟨n3,h3⟩:∃ n,l3.length=n:=⟨_,rfl⟩
 obtain⟨n4,h4⟩:∃ n,l4.length=n:=⟨_,rfl⟩
 obtain⟨n5,h5⟩:∃ n,l5.length=n:=⟨_,rfl⟩
 obtain⟨n6,h6⟩:∃ n,l6.length=n:=⟨_,rfl⟩
 rw [h0] at C0
 rw [h1] at C1
 rw [h2] at C2
 rw [h3] at C3 hkl
 rw [h4] at C4
 rw [h5] at C5
 rw [h6] at C6
 rw [h0,h1,h2,h3,h4,h5,h6] at kA
 clear h0 h1 h2 h3 h4 h5 h6
 obtain⟨xn,⟨xp,xc,xl⟩⟩:=x
 obtain⟨an,⟨fp,fc,fl⟩,abody⟩:=a
 simp only at hargs hlit hl hs hpar
 simp only [Cl.cells,Sl.v]
 have A1:=hca.cs 0 _ rfl
 simp only [Sl.v] at A1
 have hsl:=args_len xl fl
 have hat:=fun (j:Nat) (x:Lt) (v:Fd) (h1:xl[j]?=some x) (h2:fl[j]?=some v)=>args_at xl fl j x v h1 h2
 obtain⟨n,hnn⟩:∃ n,xl.length=n:=⟨_,rfl⟩
 obtain⟨fn,hfn⟩:∃ n,fl.length=n:=⟨_,rfl⟩
 rw [hnn] at hs hl hsl
 rw [hfn] at hl A1
 rw [hnn]
 have hn':=Lib.hid hs
 have hl':=Lib.hid hl
 have hnn':=Lib.hid hnn
 have hfn':=Lib.hid hfn
 have hargs':=Lib.hid hargs
 have hlit':=Lib.hid hlit
 have hpar':=Lib.hid hpar
 have hat':=Lib.hid hat
 have hsl':=Lib.hid hsl
 have kA':=Lib.hid kA
 clear hs hl hnn hfn hargs hlit hpar hat hsl kA hca
 go_enter Tryz.func38,Tryz.ntmps38
 go_upto_region 1 with (fail)
 obtain⟨X,Y0,hX,⟨zX,hzX⟩,ca⟩:=box1n V _ 56
 rw [hX]
 have b0:=ca 0 _ rfl
 have b1:=ca 1 _ rfl
 replace C0:∀ y,(plus X y).cell? ⟨cb,0,none⟩=some (.slice p0 n0 k0):=fun y=>by rw [hzX,plus_plus];exact cell_keep C0 _
 replace C1:∀ y,(plus X y).cell? ⟨cb,1,none⟩=some (.slice p1 n1 k1):=fun y=>by rw [hzX,plus_plus];exact cell_keep C1 _
 replace C2:∀ y,(plus X y).cell? ⟨cb,2,none⟩=some (.slice p2 n2 k2):=fun y=>by rw [hzX,plus_plus];exact cell_keep C2 _
 replace C3:∀ y,(plus X y).cell? ⟨cb,3,none⟩=some (.slice (some pa) n3 k3):=fun y=>by rw [hzX,plus_plus];exact cell_keep C3 _
 replace C4:∀ y,(plus X y).cell? ⟨cb,4,none⟩=some (.slice p4 n4 k4):=fun y=>by rw [hzX,plus_plus];exact cell_keep C4 _
 replace C5:∀ y,(plus X y).cell? ⟨cb,5,none⟩=some (.slice p5 n5 k5):=fun y=>by rw [hzX,plus_plus];exact cell_keep C5 _
 replace C6:∀ y,(plus X y).cell? ⟨cb,6,none⟩=some (.slice p6 n6 k6):=fun y=>by rw [hzX,plus_plus];exact cell_keep C6 _
 replace A1:∀ y,(plus X y).cell? ⟨(pa.add (k*3)).block,(pa.add (k*3)).off+1,none⟩=some (.slice fp fn fc):=fun y=>by rw [hzX,plus_plus];exact cell_keep A1 _
 have q1:=Lib.hid (kp_at hzX kA'.out)
 have hz:=Lib.hid hzX
 clear hX ca hzX kA'
 have hneg0:¬ ((k:Int) < 0):=by omega
 have hkn:(k:Int) < (n3:Int):=by omega
 refine wp_region_own (by kernel_rfl) (by kernel_rfl) ?_
 repeat (go_big_quiet_step (first|(with_reducible exact q1.out _)))
 refine wpQuiet_nil ?_
 rintro _ ⟨y7,rfl⟩
 clear C0 C1 C2 C3 C4 C5 C6 A1 q1
 go_wp2
 go_loopw [5,6,25] (fun _ _ iv wr=>∃ k:Nat,k≤n∧iv=.int .i64 (k:Int)∧(∃ z,wr=plus V z)∧∀ j y,j < k→(argsL xl fl)[j]?=some y→y=0) (fun _ _ iv _=>n - (intOf iv).toNat)
 case atStart=>exact⟨0,Nat.zero_le _,rfl,⟨_,by rw [hz.out,plus_plus]⟩,fun j y h=>absurd h (Nat.not_lt_zero j)⟩
 case round =>
  obtain⟨i,hi,rfl,⟨z,hzr⟩,hJ⟩:=hrel
  by_cases hlt:i < n
  ·obtain⟨x,hx⟩:∃ x,xl[i]?=some x:=⟨xl[i]'(by rw [hnn'.out];exact hlt),List.getElem?_eq_getElem _⟩
   have hlk:=hl'.out
   obtain⟨v,hv⟩:∃ v,fl[i]?=some v:=⟨fl[i]'(by rw [hfn'.out];omega),List.getElem?_eq_getElem _⟩
   obtain⟨pb,rfl,hcx⟩:=hargs'.out i x hx
   obtain⟨ka,rfl,hck⟩:=hpar'.out i v hv
   have hres:=hat'.out i x v hx hv
   have l1:=Lib.hid (fun W=>t_litGoes x v.w W (hlit'.out x (List.mem_of_getElem? hx)))
   have hcw:CellsAt wr (pb.add (i*3)) x.cells:=by rw [hzr];exact hcx.plus z
   have d0:=hcw.c0 _ rfl
   have d1:=hcw.cs 0 _ rfl
   have d2:=hcw.cs 1 _ rfl
   have a6:=Lib.hid (wr_succ i n hlt hn'.out)
   have hkv:∀ y,(plus wr y).cell? ⟨(ka.add (i*2)).block,(ka.add (i*2)).off+1,none⟩=some (.int .i64 v.w):=fun y=>by
    have q:=hck.cs 0 _ rfl
    rw [hzr,plus_plus];exact cell_keep q _
   have hzr':=Lib.hid hzr
   have hJ':=Lib.hid hJ
   have hres':=Lib.hid hres
   clear hcw hcx hck hx hv hzr hJ hres
   go_upto_region 5 with (fail)
   obtain⟨X2,Y2,hX2,⟨z2,hz2⟩,cc⟩:=box1n wr _ 42
   rw [hX2]
   have s0:=cc 0 _ rfl
   have s1:=cc 1 _ rfl
   have s2:=cc 2 _ rfl
   have hv2:∀ y,(plus X2 y).cell? ⟨(ka.add (i*2)).block,(ka.add (i*2)).off+1,none⟩=some (.int .i64 v.w):=fun y=>by rw [hz2,plus_plus];exact hkv _
   have hzX2:=Lib.hid hz2
   clear hX2 cc hz2 hkv d0 d1 d2
   have hneg:¬ ((i:Int) < 0):=by omega
   have hlt2:(i:Int) < (fn:Int):=by omega
   have hpast':=Lib.hid (show ∀ x1,∃ z,plus X2 x1=plus V z from fun x1=>by rw [hzX2.out,hzr'.out,plus_plus,plus_plus];exact⟨_,rfl⟩)
   obtain⟨v1,v2,v3⟩:=x
   obtain⟨vn,vw⟩:=v
   simp only [Lt.cells] at l1
   simp only at hv2 hres'
   simp only [List.getElem?_toArray,List.getElem?_cons_succ,List.getElem?_cons_zero] at s0 s1 s2
   obtain⟨r1,hr1⟩:∃ r,litE ⟨v1,v2,v3⟩ vw=r:=⟨_,rfl⟩
   simp only [hr1] at l1 hres'
   clear hr1
   refine wp_region_own_tail 6 (by kernel_rfl) (by kernel_rfl) ?_
   simp only [List.take_succ_cons,List.take_zero,List.drop_succ_cons,List.drop_zero]
   repeat (go_big_quiet_step (fail))
   refine wpQuiet_nil ?_
   rintro _ ⟨y1,rfl⟩
   by_cases z1:r1=0
   ·subst z1
    go_wp2_with fail
    refine (l1.out X2 y1).mono ?_
    rintro r w' ⟨rfl,x1,rfl⟩
    rw [plus_plus]
    rw [show endE 0 (.tuple #[])=.returned (.tuple #[]) from rfl]
    go_wp2
    refine⟨⟨i+1,hlt,congrArg (Value.int .i64) a6.out,hpast'.out _,fun j y hj hy=>?_⟩,step_less i n hlt a6.out⟩
    by_cases hjk:j < i
    ·exact hJ'.out j y hjk hy
    ·obtain rfl:j=i:=by omega
     rw [hres'.out] at hy
     exact (Option.some.inj hy).symm
   ·go_wp2_with fail
    refine (l1.out X2 y1).mono ?_
    rintro r w' ⟨rfl,x1,rfl⟩
    rw [plus_plus]
    rw [show endE r1 (.tuple #[])=gaveE r1 by rw [endE,if_neg z1]]
    go_wp2
    exact⟨rfl,by rw [firstE_at _ i r1 hres'.out hJ'.out z1,endE,if_neg z1],hpast'.out _⟩
  ·obtain rfl:i=n:=by omega
   have hend:firstE (argsL xl fl)=0:=firstE_zero _ fun j y hj=>hJ j y (by have:=(List.getElem?_eq_some_iff.1 hj).1;have:=hsl'.out;omega) hj
   have hzr':=Lib.hid hzr
   have hend':=Lib.hid hend
   clear hzr hend hJ
   go_wp2
   go_end0
   exact⟨by rw [hend'.out];rfl,⟨z,hzr'.out⟩⟩
set_option maxRecDepth 100000 in
set_option maxHeartbeats 16000000 in
theorem key_raw (cb:Nat) (p0:Option Addr) (n0 k0:Nat) (p1:Option Addr) (n1 k1:Nat) (p2:Option Addr) (n2 k2:Nat) (p3:Option Addr) (n3 k3:Nat) (p4:Option Addr) (n4 k4:Nat) (p5:Option Addr) (n5 k5:Nat) (p6:Option Addr) (n6 k6:Nat) (l:List Ke) (lp:Option Addr) (lc b:Nat) (k:Ke) (R:Int) (t:Ty) (w:World)
  (C0:w.cell? ⟨cb,0,none⟩=some (.slice p0 n0 k0))
  (C1:w.cell? ⟨cb,1,none⟩=some (.slice p1 n1 k1))
  (C2:w.cell? ⟨cb,2,none⟩=some (.slice p2 n2 k2))
  (C3:w.cell? ⟨cb,3,none⟩=some (.slice p3 n3 k3))
  (C4:w.cell? ⟨cb,4,none⟩=some (.slice p4 n4 k4))
  (C5:w.cell? ⟨cb,5,none⟩=some (.slice p5 n5 k5))
  (C6:w.cell? ⟨cb,6,none⟩=some (.slice p6 n6 k6))
  (hr:RowAt w 10 Ke.cells lp l) (hlc:l.length≤lc) (hn:l.length≤1048576) (hk:l[b]?=some k)
  (kt:KpE Tryz.prog w 28 #[.agg #[.slice p0 n0 k0,.slice p1 n1 k1,.slice p2 n2 k2,.slice p3 n3 k3,.slice p4 n4 k4,.slice p5 n5 k5,.slice p6 n6 k6,.int .i64 (-1)],k.e.val] (endE R t.v)) :
  KpE Tryz.prog w 37 #[.pointer (some ⟨cb,0,none⟩),.slice lp l.length lc,.int .i64 (b:Int)]
   (endE (if (if R=0 then bitsE t else R)=0 then (if k.kind=2 then (if (l.take b).all fun y=>decide (y.kind≠2) then 0 else 8) else 0) else (if R=0 then bitsE t else R)) (.tuple #[])):=by
 intro y0
 replace C0:=cell_keep C0 y0
 replace C1:=cell_keep C1 y0
 replace C2:=cell_keep C2 y0
 replace C3:=cell_keep C3 y0
 replace C4:=cell_keep C4 y0
 replace C5:=cell_keep C5 y0
 replace C6:=cell_keep C6 y0
 have hr:=hr.plus y0
 have kt:=kt.up y0
 obtain⟨V,hV⟩:∃ V,plus w y0=V:=⟨_,rfl⟩
 rw [hV] at C0 C1 C2 C3 C4 C5 C6 hr kt ⊢
 clear hV
 have hw:=fun W=>t_width t W
 have hb:=(List.getElem?_eq_some_iff.1 hk).1
 obtain⟨pa,rfl,hck⟩:=hr b k hk
 have e0:=hck.c0 _ rfl
 have e1:=hck.cs 0 _ rfl
 have e2:=hck.cs 1 _ rfl
 have e3:=hck.cs 2 _ rfl
 have e4:=hck.cs 3 _ rfl
 have e5:=hck.cs 4 _ rfl
 have e6:=hck.cs 5 _ rfl
 have e7:=hck.cs 6 _ rfl
 have e8:=hck.cs 7 _ rfl
 have e9:=hck.cs 8 _ rfl
 obtain⟨⟨op,⟨lw,lh,ll⟩,hd,nm,eh,el,ep,ec,eargs⟩,kd⟩:=k
 simp only [Ex.val,Ex.cells,Ex.op,Ex.lit,Ex.head,Ex.name,Ex.hi,Ex.lo,Ex.p,Ex.args,Ex.cap] at kt e0 e1 e2 e3 e4 e5 e6 e7 e8 e9 ⊢
 obtain⟨M,hM⟩:∃ M,eargs.length=M:=⟨_,rfl⟩
 rw [hM] at kt e8
 obtain⟨n,hnn⟩:∃ n,l.length=n:=⟨_,rfl⟩
 rw [hnn] at hn hlc hb ⊢
 obtain⟨tw,tt,tf⟩:=t
 simp only [Ty.v] at kt hw
 have kt':=Lib.hid (atsE_of kt)
 have hw':=Lib.hid hw
 have hr':=Lib.hid hr
 have hn':=Lib.hid hn
 have hnn':=Lib.hid hnn
 have hlc':=Lib.hid hlc
 have hM':=Lib.hid hM
 clear kt hw hr hn hnn hk hck hM
 replace C0:∀ y,(plus V y).cell? ⟨cb,0,none⟩=some (.slice p0 n0 k0):=fun y=>cell_keep C0 y
 replace C1:∀ y,(plus V y).cell? ⟨cb,1,none⟩=some (.slice p1 n1 k1):=fun y=>cell_keep C1 y
 replace C2:∀ y,(plus V y).cell? ⟨cb,2,none⟩=some (.slice p2 n2 k2):=fun y=>cell_keep C2 y
 replace C3:∀ y,(plus V y).cell? ⟨cb,3,none⟩=some (.slice p3 n3 k3):=fun y=>cell_keep C3 y
 replace C4:∀ y,(plus V y).cell? ⟨cb,4,none⟩=some (.slice p4 n4 k4):=fun y=>cell_keep C4 y
 replace C5:∀ y,(plus V y).cell? ⟨cb,5,none⟩=some (.slice p5 n5 k5):=fun y=>cell_keep C5 y
 replace C6:∀ y,(plus V y).cell? ⟨cb,6,none⟩=some (.slice p6 n6 k6):=fun y=>cell_keep C6 y
 replace e0:=fun y=>cell_keep e0 y
 replace e1:=fun y=>cell_keep e1 y
 replace e2:=fun y=>cell_keep e2 y
 replace e3:=fun y=>cell_keep e3 y
 replace e4:=fun y=>cell_keep e4 y
 replace e5:=fun y=>cell_keep e5 y
 replace e6:=fun y=>cell_keep e6 y
 replace e7:=fun y=>cell_keep e7 y
 replace e8:=fun y=>cell_keep e8 y
 replace e9:=fun y=>cell_keep e9 y
 have hneg:¬ ((b:Int) < 0):=by omega
 have hbn:(b:Int) < (n:Int):=by omega
 by_cases r0:R=0
 ·subst r0
  simp only [if_true]
  by_cases q0:bitsE ⟨tw,tt,tf⟩=0
  ·rw [if_pos q0] at hw'
   rw [if_pos q0]
   by_cases kk:kd=2
   ·subst kk
    rw [if_pos rfl]
    obtain⟨RR,hRR⟩:∃ r:Int,(if ((l.take b).all fun y=>decide (y.kind≠2))=true then (0:Int) else 8)=r:=⟨_,rfl⟩
    rw [hRR]
    have hRR':=Lib.hid hRR
    clear hRR
    go_enter Tryz.func37,Tryz.ntmps37
    go_upto_region 0 with (fail)
    rw [← plus_self V]
    obtain⟨Y0,hY0⟩:∃ Y:Ext,(⟨#[],V.drawn⟩:Ext)=Y:=⟨_,rfl⟩
    rw [hY0]
    clear hY0
    refine wp_region_own_tail 10 (by kernel_rfl) (by kernel_rfl) ?_
    simp only [List.take_succ_cons,List.take_zero,List.drop_succ_cons,List.drop_zero]
    repeat (go_big_quiet_step (fail))
    refine wpQuiet_nil ?_
    rintro _ ⟨y1,rfl⟩
    go_wp2_with fail
    refine (kt'.out _ ⟨y1,rfl⟩).mono ?_
    rintro r w' ⟨rfl,x1,rfl⟩
    rw [plus_plus]
    rw [show endE 0 (.agg #[.int .i64 tw,.bool tt,.bool tf])=.returned (.agg #[.int .i64 tw,.bool tt,.bool tf]) from rfl]
    go_wp2_with fail
    refine (hw'.out V _).mono ?_
    rintro r w' ⟨rfl,x2,rfl⟩
    rw [plus_plus]
    clear kt' hw'
    have hcap:(b:Int)≤(lc:Int):=by have:=hlc'.out;omega
    go_wp2
    clear C0 C1 C2 C3 C4 C5 C6 e0 e1 e2 e3 e4 e5 e6 e7 e8 e9 hneg hbn hcap
    go_loopw [7,30] (fun _ iv wr=>∃ i:Nat,i≤b∧iv=.int .i64 (i:Int)∧(∃ z,wr=plus V z)∧∀ j y,j < i→l[j]?=some y→y.kind≠2) (fun _ iv _=>b - (intOf iv).toNat)
    case atStart=>exact⟨0,Nat.zero_le _,rfl,⟨_,rfl⟩,fun j y h=>absurd h (Nat.not_lt_zero j)⟩
    case round =>
     obtain⟨i,hi,rfl,⟨z,hzr⟩,hJ⟩:=hrel
     by_cases hlt:i < b
     ·obtain⟨x,hx⟩:∃ x,l[i]?=some x:=⟨l[i]'(by rw [hnn'.out];omega),List.getElem?_eq_getElem _⟩
      obtain⟨pb,hpb,hcx⟩:=hr'.out i x hx
      obtain rfl:=Option.some.inj hpb
      have hcw:CellsAt wr (pa.add (i*10)) x.cells:=by rw [hzr];exact hcx.plus z
      have d0:=hcw.c0 _ rfl
      have d1:=hcw.cs 0 _ rfl
      have d2:=hcw.cs 1 _ rfl
      have d3:=hcw.cs 2 _ rfl
      have d4:=hcw.cs 3 _ rfl
      have d5:=hcw.cs 4 _ rfl
      have d6:=hcw.cs 5 _ rfl
      have d7:=hcw.cs 6 _ rfl
      have d8:=hcw.cs 7 _ rfl
      have d9:=hcw.cs 8 _ rfl
      have hbn2:b≤1048576:=by have:=hn'.out;omega
      have a6:=Lib.hid (wr_succ i b hlt hbn2)
      clear hbn2
      have hzr':=Lib.hid hzr
      have hJ':=Lib.hid hJ
      have hx':=Lib.hid hx
      clear hcw hcx hx hzr hJ hpb
      go_upto_region 5 with (fail)
      obtain⟨X2,Y2,hX2,⟨z2,hz2⟩,cc⟩:=box1n wr _ 52
      rw [hX2]
      have s9:∀ y,(plus X2 y).cell? ⟨wr.heap.size,9,none⟩=some (.int .u8 x.kind):=cc 9 _ rfl
      obtain⟨xk,hxk⟩:∃ v,x.kind=v:=⟨_,rfl⟩
      rw [hxk] at s9
      have hxk':=Lib.hid hxk
      clear hxk
      have hpast':=Lib.hid (show ∀ x1,∃ z,plus X2 x1=plus V z from fun x1=>by rw [hz2,hzr'.out,plus_plus,plus_plus];exact⟨_,rfl⟩)
      clear hX2 cc hz2 d0 d1 d2 d3 d4 d5 d6 d7 d8 d9
      by_cases k2:xk=2
      ·subst k2
       go_wp2_with fail
       refine (need_no X2 8 _).mono ?_
       rintro r w' ⟨rfl,x3,rfl⟩
       rw [plus_plus]
       go_wp2
       refine⟨rfl,?_,hpast'.out _⟩
       have hall:¬ ((l.take b).all fun y=>decide (y.kind≠2))=true:=fun h=>by
        rw [List.all_eq_true] at h
        have hm:x ∈ l.take b:=List.mem_of_getElem? (i:=i) (by rw [List.getElem?_take,if_pos hlt];exact hx'.out)
        have:=h x hm
        rw [hxk'.out] at this
        simp at this
       rw [← hRR'.out,if_neg hall]
       rfl
      ·have hne:(xk != 2)=true:=by simpa using k2
       go_wp2_with fail
       refine (need_yes X2 8 _).mono ?_
       rintro r w' ⟨rfl,x3,rfl⟩
       rw [plus_plus]
       go_wp2
       refine⟨⟨i+1,hlt,congrArg (Value.int .i64) a6.out,hpast'.out _,fun j y hj hy=>?_⟩,step_less i b hlt a6.out⟩
       by_cases hjk:j < i
       ·exact hJ'.out j y hjk hy
       ·obtain rfl:j=i:=by omega
        rw [hx'.out] at hy
        obtain rfl:=Option.some.inj hy
        rw [hxk'.out]
        exact k2
     ·obtain rfl:i=b:=by omega
      have hzr':=Lib.hid hzr
      have hall:((l.take i).all fun y=>decide (y.kind≠2))=true:=by
       rw [List.all_eq_true]
       intro y hy
       obtain⟨j,hj⟩:=List.mem_iff_getElem?.1 hy
       rw [List.getElem?_take] at hj
       split at hj
       ·next hji=>simpa using hJ j y hji hj
       ·cases hj
      have hall':=Lib.hid hall
      clear hzr hall hJ
      go_wp2
      go_end0
      exact⟨by rw [← hRR'.out,if_pos hall'.out];rfl,⟨z,hzr'.out⟩⟩
   ·rw [if_neg kk]
    have kk2:(kd != 2)=true:=by simpa using kk
    go_enter Tryz.func37,Tryz.ntmps37
    go_upto_region 0 with (fail)
    rw [← plus_self V]
    obtain⟨Y0,hY0⟩:∃ Y:Ext,(⟨#[],V.drawn⟩:Ext)=Y:=⟨_,rfl⟩
    rw [hY0]
    clear hY0
    refine wp_region_own_tail 10 (by kernel_rfl) (by kernel_rfl) ?_
    simp only [List.take_succ_cons,List.take_zero,List.drop_succ_cons,List.drop_zero]
    repeat (go_big_quiet_step (fail))
    refine wpQuiet_nil ?_
    rintro _ ⟨y1,rfl⟩
    go_wp2_with fail
    refine (kt'.out _ ⟨y1,rfl⟩).mono ?_
    rintro r w' ⟨rfl,x1,rfl⟩
    rw [plus_plus]
    rw [show endE 0 (.agg #[.int .i64 tw,.bool tt,.bool tf])=.returned (.agg #[.int .i64 tw,.bool tt,.bool tf]) from rfl]
    go_wp2_with fail
    refine (hw'.out V _).mono ?_
    rintro r w' ⟨rfl,x2,rfl⟩
    rw [plus_plus]
    clear kt' hw'
    go_wp2
    refine bodyPost_ret (results_none rfl _ _ _) rfl ?_
    exact⟨rfl,⟨_,rfl⟩⟩
  ·rw [if_neg q0] at hw'
   rw [if_neg q0,endE_n q0]
   go_enter Tryz.func37,Tryz.ntmps37
   go_upto_region 0 with (fail)
   rw [← plus_self V]
   obtain⟨Y0,hY0⟩:∃ Y:Ext,(⟨#[],V.drawn⟩:Ext)=Y:=⟨_,rfl⟩
   rw [hY0]
   clear hY0
   refine wp_region_own_tail 10 (by kernel_rfl) (by kernel_rfl) ?_
   simp only [List.take_succ_cons,List.take_zero,List.drop_succ_cons,List.drop_zero]
   repeat (go_big_quiet_step (fail))
   refine wpQuiet_nil ?_
   rintro _ ⟨y1,rfl⟩
   go_wp2_with fail
   refine (kt'.out _ ⟨y1,rfl⟩).mono ?_
   rintro r w' ⟨rfl,x1,rfl⟩
   rw [plus_plus]
   rw [show endE 0 (.agg #[.int .i64 tw,.bool tt,.bool tf])=.returned (.agg #[.int .i64 tw,.bool tt,.bool tf]) from rfl]
   go_wp2_with fail
   refine (hw'.out V _).mono ?_
   rintro r w' ⟨rfl,x2,rfl⟩
   rw [plus_plus]
   clear kt' hw'
   go_wp2
   exact⟨rfl,rfl,⟨_,rfl⟩⟩
 ·rw [if_neg r0,if_neg r0,endE_n r0]
  rw [endE_n r0] at kt'
  clear hw'
  go_enter Tryz.func37,Tryz.ntmps37
  go_upto_region 0 with (fail)
  rw [← plus_self V]
  obtain⟨Y0,hY0⟩:∃ Y:Ext,(⟨#[],V.drawn⟩:Ext)=Y:=⟨_,rfl⟩
  rw [hY0]
  clear hY0
  refine wp_region_own_tail 10 (by kernel_rfl) (by kernel_rfl) ?_
  simp only [List.take_succ_cons,List.take_zero,List.drop_succ_cons,List.drop_zero]
  repeat (go_big_quiet_step (fail))
  refine wpQuiet_nil ?_
  rintro _ ⟨y1,rfl⟩
  go_wp2_with fail
  refine (kt'.out _ ⟨y1,rfl⟩).mono ?_
  rintro r w' ⟨rfl,x1,rfl⟩
  rw [plus_plus]
  go_wp2
  exact⟨rfl,rfl,⟨_,rfl⟩⟩
end Go.Proofs.YtobhijbncchpiaaGreat
