/-
  WHAT IS PROVED HERE: a part of the proof (made narrower and merged by program; the parts: Eb).
-/
import Derived.Test.YtobhijbncchpiaaGreatM39
namespace Go.Proofs.YtobhijbncchpiaaGreat
open Go.RowKit
/-- The last transition's widths, as a checker keeps them, in memory laid behind it. -/
def KeysOk (W:World) (cb:Nat) (kv:Value) (ws:List Int):Prop:=∃ (kp:Option Addr) (kc:Nat),kv=.slice kp ws.length kc∧RowAt W 1 iCells kp ws∧∀ a,kp=some a→cb < a.block
theorem KeysOk.keep {W W':World} {cb:Nat} {kv:Value} {ws:List Int} (h:KeysOk W cb kv ws) (hk:∀ a v,cb < a.block→W.cell? a=some v→W'.cell? a=some v):KeysOk W' cb kv ws:=by
 obtain⟨kp,kc,h1,h2,h3⟩:=h
 refine⟨kp,kc,h1,fun i x hx=>?_,h3⟩
 obtain⟨a,ha,hc⟩:=h2 i x hx
 exact⟨a,ha,fun j v hj=>hk _ v (by rw [add_block,add_block];exact h3 a ha) (hc j v hj)⟩
/-- How the checker's item ends. -/
def ItemPost (w0 V:World) (p:Pr) (cb:Nat) (kv:Value) (z:It) (e:Ending) (w':World):Prop :=
 (tyI p z=0∧e=.returned (.tuple #[])∧(∃ y,w'=plus w0 y)∧Kq (fun b=>b=cb) V w'∧∃ kv',BoxC w' cb p kv' ∧
  (∀ (a:Nat) (s:Sa),z=.num 6 a 0→p.states.l[a]?=some s→KeysOk w' cb kv' (s.keys.l.map (keyW p)))∧((∀ a,z≠.num 6 a 0)→kv'=kv)) ∨
 (tyI p z≠0∧e=gaveE (tyI p z)∧(∃ y,w'=plus w0 y)∧Kq (fun b=>b=cb) V w')
theorem item_of {w0 V:World} {p:Pr} {cb:Nat} {kv:Value} {z:It} {args:Array Value} (R:Int) (hR:tyI p z=R) (h:KpE Tryz.prog V 21 args (endE R (.tuple #[]))) (hV:∃ y,V=plus w0 y) (hB:BoxC V cb p kv) (h6:∀ a,z≠.num 6 a 0) :
  Calls Tryz.prog 21 args V (ItemPost w0 V p cb kv z):=by
 refine (kpE_here h ⟨⟨#[],V.drawn⟩,(plus_self V).symm⟩).mono ?_
 rintro e w' ⟨rfl,x,rfl⟩
 by_cases r0:R=0
 ·refine .inl ⟨hR.trans r0,by rw [r0];rfl,up_plus hV x,Kq.plus _ V x,kv,hB.plus x,fun a s hz=>absurd hz (h6 a),fun _=>rfl⟩
 ·exact .inr ⟨by rw [hR];exact r0,by rw [endE_n r0,hR],up_plus hV x,Kq.plus _ V x⟩
set_option maxRecDepth 100000 in
set_option maxHeartbeats 16000000 in
theorem t_item (w0 V:World) (p:Pr) (cb:Nat) (kv:Value) (z:It) (r:Ri) (hV:∃ y,V=plus w0 y) (hcb:w0.heap.size≤cb) (hin:p.In w0) (hz:p.sz≤1048576) (hW:Wide p) (hN:NoWr p z) (hL:LikeR z r) (hI:r.s.e.In V) (hsz:r.s.e.wt≤1048576) (hB:BoxC V cb p kv)
  (hK:∀ (a b:Nat) (s:Sa),z=.num 7 a b→p.states.l[a]?=some s→KeysOk V cb kv (s.keys.l.map (keyW p))) :
  Calls Tryz.prog 21 #[.pointer (some ⟨cb,0,none⟩),.agg r.cs.toArray] V (ItemPost w0 V p cb kv z):=by
 have hinV:p.In V:=by obtain⟨y,rfl⟩:=hV;exact hin.plus y
 have hC:=hB.at
 have C0:=hC.cells 0 _ rfl
 have C1:=hC.cells 1 _ rfl
 have C2:=hC.cells 2 _ rfl
 have C3:=hC.cells 3 _ rfl
 have C4:=hC.cells 4 _ rfl
 have C5:=hC.cells 5 _ rfl
 have C6:=hC.cells 6 _ rfl
 simp only [Sl.v] at C0 C1 C2 C3 C4 C5 C6
 obtain⟨rk,ra,rb,rs⟩:=r
 have l1:=hL.k
 have l2:=hL.a
 have l3:=hL.b
 have l4:=hL.kind
 have l5:=hL.head
 have l6:=hL.name
 have l7:=hL.e
 simp only at l1 l2 l3 l4 l5 l6 l7 hI hsz
 have hpz:p.sz=p.headers.size Hr.sz+p.metas.size Fd.sz+p.states.size Sa.sz+p.actions.size Ac.sz+p.tables.size Ta.sz+p.control.size St.sz+p.emit.size strSize:=rfl
 cases hN with
 | next a s hs hk =>
  have hs0:p.states.size Sa.sz=(p.states.l.map Sa.sz).sum:=rfl
  have hsz2:=le_sum_of Sa.sz p.states.l s (List.mem_of_getElem? hs)
  have hsin:=hin.states.kids s (List.mem_of_getElem? hs)
  have hlt:=(List.getElem?_eq_some_iff.1 hs).1
  obtain⟨pa,hpa,hrow⟩:=hinV.states.row a s hs
  have hty:tyI p (.num 6 a 0)=nextE p s:=by simp [tyI,hs]
  have hnx:=fun (W:World) (hWV:∃ y,W=plus V y)=>t_next w0 W p s cb kv (by obtain⟨y,rfl⟩:=hWV;exact up_plus hV y) hcb hin hz hW hsin (by omega) hk (by obtain⟨y,rfl⟩:=hWV;exact hB.plus y) (ItemPost w0 V p cb kv (.num 6 a 0))
   (fun hall w' kv' hw' hq hB' hown=>.inl ⟨by
     rw [hty]
     exact firstE_zero _ fun k x hx=>by
      rw [List.getElem?_map] at hx
      obtain⟨y,hy,rfl⟩:=Option.map_eq_some_iff.1 hx
      exact hall k y hy,rfl,hw',by obtain⟨y,rfl⟩:=hWV;exact (Kq.plus _ V y).trans hq,kv',hB',fun a2 s2 ha2 hs2=>by
     injection ha2 with _ ha3 _
     subst ha3
     rw [hs] at hs2
     obtain rfl:=Option.some.inj hs2
     have hWs:V.heap.size≤W.heap.size:=by obtain⟨y,rfl⟩:=hWV;exact size_plus V y
     have hcV:=hB.lt
     by_cases hn:0 < s.keys.l.length
     ·obtain⟨g,cap,rfl,hg,-⟩:=own_sl hown hn
      refine⟨some ⟨g,0,none⟩,cap,by rw [List.length_map],own_row (f:=iCells) hown (fun _ _=>rfl),fun a ha=>?_⟩
      obtain rfl:=Option.some.inj ha
      show cb < g
      omega
     ·have h0:s.keys.l.length=0:=by omega
      have hnil:s.keys.l.map (keyW p)=[]:=by rw [List.length_eq_zero_iff.1 h0];rfl
      rcases hown.2 with ⟨rfl,_⟩ | ⟨g,cap,cur,rfl,hg,_⟩
      ·exact⟨none,0,by rw [hnil];rfl,fun i x hx=>by rw [hnil] at hx;simp at hx,fun a ha=>by cases ha⟩
      ·refine⟨some ⟨g,0,none⟩,cap,by rw [h0,hnil];rfl,fun i x hx=>by rw [hnil] at hx;simp at hx,fun a ha=>?_⟩
       obtain rfl:=Option.some.inj ha
       show cb < g
       omega,fun h=>absurd rfl (h a)⟩)
   (fun k x hx hj h0 w' hw' hq=>.inr ⟨by
     rw [hty,nextE,firstE_at _ k (keyT p x) (by rw [List.getElem?_map,hx];rfl) (fun j y hj2 hy=>by
      rw [List.getElem?_map] at hy
      obtain⟨y2,hy2,rfl⟩:=Option.map_eq_some_iff.1 hy
      exact hj j y2 hj2 hy2) h0]
     exact h0,by
     rw [hty,nextE,firstE_at _ k (keyT p x) (by rw [List.getElem?_map,hx];rfl) (fun j y hj2 hy=>by
      rw [List.getElem?_map] at hy
      obtain⟨y2,hy2,rfl⟩:=Option.map_eq_some_iff.1 hy
      exact hj j y2 hj2 hy2) h0],hw',by obtain⟨y,rfl⟩:=hWV;exact (Kq.plus _ V y).trans hq⟩)
  obtain⟨sk,shd,snm,⟨op,⟨lw,lh,ll⟩,hd,nm,eh,el,ep,ec,eargs⟩,tp,tc,thn,up,uc,els⟩:=rs
  obtain⟨sn,⟨tkp,tkc,tkl⟩,sto,⟨kyp,kyc,kyl⟩,⟨csp,csc,csl⟩⟩:=s
  simp only [It.ri] at l1 l2 l3
  subst l1 l2 l3
  rw [hpa] at C2
  refine (item_next cb pa _ _ _ _ _ _ _ _ _ _ _ _ _ _ _ _ _ _ _ _ _ _ a _ _ _ _ _ _ _ _ _ _ _ V (fun w'=>ItemPost w0 V p cb kv (.num 6 a 0) (.returned (.tuple #[])) w') (tyI p (.num 6 a 0)) (fun w'=>ItemPost w0 V p cb kv (.num 6 a 0) (gaveE (tyI p (.num 6 a 0))) w') hlt C2 (hrow.c0 _ rfl) (hrow.cs 0 _ rfl) (hrow.cs 1 _ rfl) (hrow.cs 2 _ rfl) (hrow.cs 3 _ rfl) (fun W hW=>(hnx W hW).mono fun e w' h=>?_)).mono ?_
  ·rcases h with h | h
   ·obtain rfl:=h.2.1
    exact .inl ⟨rfl,.inl h⟩
   ·obtain rfl:=h.2.1
    exact .inr ⟨rfl,.inr h⟩
  ·rintro e w' (⟨rfl,h⟩ | ⟨rfl,h⟩)
   ·exact h
   ·exact h
 | case_ a b s c hs hc hl =>
  have hks:=hK a b s rfl hs
  obtain⟨kp,kc,rfl,hkr,-⟩:=hks
  have hsz2:=le_sum_of Sa.sz p.states.l s (List.mem_of_getElem? hs)
  have hs0:p.states.size Sa.sz=(p.states.l.map Sa.sz).sum:=rfl
  have hsinV:=hinV.states.kids s (List.mem_of_getElem? hs)
  have hcin:=hsinV.cases.kids c (List.mem_of_getElem? hc)
  have hcz:=le_sum_of Ca.sz s.cases.l c (List.mem_of_getElem? hc)
  have hse:s.sz=1+s.name.size+s.takes.size strSize+s.to.size+s.keys.size Ex.wt+s.cases.size Ca.sz:=rfl
  have hcc:s.cases.size Ca.sz=(s.cases.l.map Ca.sz).sum:=rfl
  have hcs:c.sz≤1048576:=by omega
  have hlt:=(List.getElem?_eq_some_iff.1 hs).1
  have hltc:=(List.getElem?_eq_some_iff.1 hc).1
  obtain⟨pa,hpa,hrow⟩:=hinV.states.row a s hs
  obtain⟨pc,hpc,hrowc⟩:=hsinV.cases.row b c hc
  have hty:tyI p (.num 7 a b)=firstE (setsL c.sets.l (s.keys.l.map (keyW p))):=by simp [tyI,hs,hc,caseE]
  have hbr:=t_branch cb c (s.keys.l.map (keyW p)) kp kc V hcin hcs (by rw [List.length_map];exact hl) hC.keys hkr
  refine item_of _ hty ?_ hV hB (fun a2 h=>by cases h)
  obtain⟨R,hR⟩:∃ R,firstE (setsL c.sets.l (s.keys.l.map (keyW p)))=R:=⟨_,rfl⟩
  rw [hR] at hbr ⊢
  obtain⟨sk,shd,snm,⟨op,⟨lw,lh,ll⟩,hd,nm,eh,el,ep,ec,eargs⟩,tp,tc,thn,up,uc,els⟩:=rs
  obtain⟨d,⟨sp,sc,sl⟩,cto⟩:=c
  simp only [It.ri] at l1 l2 l3
  subst l1 l2 l3
  rw [hpa] at C2
  have S4:=hrow.cs 3 _ rfl
  simp only [Sl.v,hpc] at S4
  exact item_case cb pa _ _ _ _ _ _ _ _ _ _ _ _ _ _ _ _ _ _ _ _ _ _ a b pc _ _ d sp _ sc cto R V hlt hltc C2 S4 (hrowc.c0 _ rfl) (hrowc.cs 0 _ rfl) (hrowc.cs 1 _ rfl) hbr
 | key a b t k ht hk hm =>
  have hlt:=(List.getElem?_eq_some_iff.1 ht).1
  have htsz:=le_sum_of Ta.sz p.tables.l t (List.mem_of_getElem? ht)
  have hs0:p.tables.size Ta.sz=(p.tables.l.map Ta.sz).sum:=rfl
  have htin:=hinV.tables.kids t (List.mem_of_getElem? ht)
  have hkin:=htin.keys.kids k (List.mem_of_getElem? hk)
  have hkz:=le_sum_of Ke.sz t.keys.l k (List.mem_of_getElem? hk)
  have hte:t.sz=1+t.name.size+t.keys.size Ke.sz+t.actions.size strSize+Cl.sz t.dflt:=rfl
  have hkk:t.keys.size Ke.sz=(t.keys.l.map Ke.sz).sum:=rfl
  have hke:k.sz=1+k.e.wt:=rfl
  have hkw:k.e.wt≤1048576:=by omega
  have hkl:t.keys.l.length≤1048576:=by
   have:=length_le_sum Ke.sz (fun y=>by unfold Ke.sz;omega) t.keys.l
   omega
  obtain⟨pa,hpa,hrow⟩:=hinV.tables.row a t ht
  have kt:=t_type p hz hW (-1) k.e 16 V hm hinV hkin.e hkw
  have hkey:=key_raw cb _ _ _ _ _ _ _ _ _ _ _ _ _ _ _ _ _ _ _ _ _ t.keys.l t.keys.p t.keys.cap b k _ _ V C0 C1 C2 C3 C4 C5 C6 htin.keys.row htin.keys.len hkl hk kt
  have hty:tyI p (.num 12 a b)=if (if (k.e.ty p (-1)).1=0 then bitsE (k.e.ty p (-1)).2 else (k.e.ty p (-1)).1)=0 then (if k.kind=2 then (if (t.keys.l.take b).all fun y=>decide (y.kind≠2) then 0 else 8) else 0) else (if (k.e.ty p (-1)).1=0 then bitsE (k.e.ty p (-1)).2 else (k.e.ty p (-1)).1):=by
   simp only [tyI,ht]
   rw [if_neg (by decide),if_neg (by decide),if_pos trivial]
   unfold keyE keyT
   rw [hk]
  refine item_of _ hty ?_ hV hB (fun a2 h=>by cases h)
  clear hty
  revert hkey
  generalize (if (if (k.e.ty p (-1)).1=0 then bitsE (k.e.ty p (-1)).2 else (k.e.ty p (-1)).1)=0 then (if k.kind=2 then (if (t.keys.l.take b).all fun y=>decide (y.kind≠2) then (0:Int) else 8) else 0) else (if (k.e.ty p (-1)).1=0 then bitsE (k.e.ty p (-1)).2 else (k.e.ty p (-1)).1))=R
  intro hkey
  obtain⟨sk,shd,snm,⟨op,⟨lw,lh,ll⟩,hd,nm,eh,el,ep,ec,eargs⟩,tp,tc,thn,up,uc,els⟩:=rs
  simp only [It.ri] at l1 l2 l3
  subst l1 l2 l3
  rw [hpa] at C4
  exact item_key cb pa _ _ _ _ _ _ _ _ _ _ _ _ _ _ _ _ _ _ _ _ _ _ a b _ _ _ R V hlt C4 (hrow.cs 0 _ rfl) hkey
 | dflt a k t x ht hn hx hl =>
  have hlt:=(List.getElem?_eq_some_iff.1 ht).1
  have htsz:=le_sum_of Ta.sz p.tables.l t (List.mem_of_getElem? ht)
  have hs0:p.tables.size Ta.sz=(p.tables.l.map Ta.sz).sum:=rfl
  have htin:=hinV.tables.kids t (List.mem_of_getElem? ht)
  have hal:t.dflt.args.l.length≤1048576:=by
   have:=length_le_sum (fun _:Lt=>1) (fun _=>Nat.le_refl _) t.dflt.args.l
   have hte:t.sz=1+t.name.size+t.keys.size Ke.sz+t.actions.size strSize+Cl.sz t.dflt:=rfl
   have hcl:Cl.sz t.dflt=t.dflt.name.size+t.dflt.args.size (fun _=>1):=rfl
   have hca:t.dflt.args.size (fun _=>1)=(t.dflt.args.l.map (fun _=>1)).sum:=rfl
   omega
  obtain⟨pa,hpa,hrow⟩:=hinV.tables.row a t ht
  have hfb:=t_fallback cb p kv t.dflt k x V hinV hz hC htin.dflt hn hx (by omega) hal
  have hty:tyI p (.num 14 a 0)=firstE (argsL t.dflt.args.l x.params.l):=by simp [tyI,ht,dfltE,hn,hx]
  refine item_of _ hty ?_ hV hB (fun a2 h=>by cases h)
  clear hty
  revert hfb
  generalize firstE (argsL t.dflt.args.l x.params.l)=R
  intro hfb
  obtain⟨sk,shd,snm,⟨op,⟨lw,lh,ll⟩,hd,nm,eh,el,ep,ec,eargs⟩,tp,tc,thn,up,uc,els⟩:=rs
  obtain⟨tn,tkeys,tacts,⟨dn,⟨gp,gc,gl⟩⟩⟩:=t
  simp only [It.ri] at l1 l2 l3
  subst l1 l2 l3
  rw [hpa] at C4
  exact item_dflt cb pa _ _ _ _ _ _ _ _ _ _ _ _ _ _ _ _ _ _ _ _ _ _ a dn gp _ gc R V hlt C4 (hrow.cs 2 _ rfl) (hrow.cs 3 _ rfl) hfb
 | stmt a s hm ht h0 =>
  simp only [It.ri] at l1 l2 l3 l4 l5 l6 l7
  have hst:=t_stmt p hz hW a rs (fun h=>by rw [like_may l7];exact hm (by rw [← l4];exact h)) (fun h=>by rw [l5,l6];exact ht (l4 ▸ h)) V hinV hI hsz
  have hty:tyI p (.st a s)=stE p a rs:=(like_st l4 l5 l6 l7).symm
  refine item_of _ hty ?_ hV hB (fun a2 h=>by cases h)
  generalize stE p a rs=R at hst ⊢
  obtain⟨sk,shd,snm,⟨op,⟨lw,lh,ll⟩,hd,nm,eh,el,ep,ec,eargs⟩,tp,tc,thn,up,uc,els⟩:=rs
  subst l1 l2 l3
  exact item_stmt cb _ _ _ _ _ _ _ _ _ _ _ _ _ _ _ _ _ _ _ _ _ _ _ _ _ _ _ _ _ _ _ _ _ _ _ _ _ _ _ _ _ _ R V C0 C1 C2 C3 C4 C5 C6 hst
 | other k a b h =>
  have hty:tyI p (.num k a b)=0:=by
   simp only [tyI]
   rw [if_neg h.1,if_neg h.2.1,if_neg h.2.2.2.1,if_neg h.2.2.2.2]
  have e6:(k == 6)=false:=beq_eq_false_iff_ne.2 h.1
  have e7:(k == 7)=false:=beq_eq_false_iff_ne.2 h.2.1
  have e10:(k == 10)=false:=beq_eq_false_iff_ne.2 h.2.2.1
  have e12:(k == 12)=false:=beq_eq_false_iff_ne.2 h.2.2.2.1
  have e14:(k == 14)=false:=beq_eq_false_iff_ne.2 h.2.2.2.2
  have hn6:∀ a2:Nat,It.num k a b≠.num 6 a2 0:=fun a2 h2=>h.1 (by injection h2)
  clear h hL hK hI hC C0 C1 C2 C3 C4 C5 C6 hpz hinV l4 l5 l6 l7
  simp only [It.ri] at l1 l2 l3
  rw [l1,l2,l3]
  refine item_of 0 hty ?_ hV hB hn6
  rw [show endE 0 (.tuple #[])=.returned (.tuple #[]) from rfl]
  clear hty hn6 l1 l2 l3
  obtain⟨sk,shd,snm,⟨op,⟨lw,lh,ll⟩,hd,nm,eh,el,ep,ec,eargs⟩,tp,tc,thn,up,uc,els⟩:=rs
  exact item_other cb k (a:Int) (b:Int) sk shd snm op lw lh ll hd nm eh el ep eargs.length ec tp thn.length tc up els.length uc V e6 e7 e10 e12 e14
end Go.Proofs.YtobhijbncchpiaaGreat
