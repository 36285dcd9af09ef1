/-
  WHAT IS PROVED HERE: a part of the proof (made narrower and merged by program; the parts: Ee).
-/
import Derived.Test.YtobhijbncchpiaaGreatM43
import Derived.Test.YtobhijbncchpiaaGreatM44
import Derived.Test.YtobhijbncchpiaaGreatM36
namespace Go.Proofs.YtobhijbncchpiaaGreat
open Go.RowKit Go.Shelf
/-- What Check of layer 8 hands back. -/
def tckN (p:Pr):Int:=if chkE p=0 then ((scanT p (encP p) 0).1:Int) else chkN p
def tckE (p:Pr):Int:=if chkE p=0 then (scanT p (encP p) 0).2 else chkE p
theorem chk_fine {p:Pr} (h:chkE p=0):prB p=true∧∀ z ∈ encP p,wrI p z=0:=by
 unfold chkE at h
 cases hb:prB p with
 | true =>
  rw [hb] at h
  simp only [if_true] at h
  exact⟨rfl,(scan_zero p (encP p) 0 h).1⟩
 | false =>
  rw [hb] at h
  simp at h
set_option maxRecDepth 100000 in
set_option maxHeartbeats 16000000 in
theorem t_Check (p:Pr) (w:World) (hin:p.In w) (hz:p.sz≤1048576):Kp Tryz.prog w 7 #[.agg #[.slice p.headers.p p.headers.l.length p.headers.cap,.slice p.metas.p p.metas.l.length p.metas.cap,.slice p.states.p p.states.l.length p.states.cap,.slice p.actions.p p.actions.l.length p.actions.cap,.slice p.tables.p p.tables.l.length p.tables.cap,.slice p.control.p p.control.l.length p.control.cap,.slice p.emit.p p.emit.l.length p.emit.cap]] (.tuple #[.int .i64 (tckN p),.int .i64 (tckE p)]):=by
 intro y0
 have qC:=(q_Check p w hin hz).up y0
 have hin:=hin.plus y0
 obtain⟨V,hV⟩:∃ V,plus w y0=V:=⟨_,rfl⟩
 rw [hV] at qC hin ⊢
 clear hV
 by_cases h0:chkE p=0
 ·rw [tckN,tckE,if_pos h0,if_pos h0]
  obtain⟨hB,hall⟩:=chk_fine h0
  have hno:=no_wrong p V hin hz hB hall
  have hW:=wide_of hB
  rw [h0] at qC
  have qC':=Lib.hid qC
  have T1:=Lib.hid (fun (W:World) (b0 nb:Nat) hW1 h1 h2 h3 h4=>t_check1 V W p b0 nb hW1 h1 h2 h3 h4 hin hz hW hno)
  obtain⟨⟨SN1,SR⟩,hS⟩:∃ r,scanT p (encP p) 0=r:=⟨_,rfl⟩
  simp only [hS] at T1 ⊢
  clear hS hno hW hB hall h0 qC hin hz
  go_enter Tryz.func7,Tryz.ntmps7
  go_upto_region 1 with (fail)
  have hX:=World.alloc_heap_new V (.cells #[.slice p.headers.p p.headers.l.length p.headers.cap,.slice p.metas.p p.metas.l.length p.metas.cap,.slice p.states.p p.states.l.length p.states.cap,.slice p.actions.p p.actions.l.length p.actions.cap,.slice p.tables.p p.tables.l.length p.tables.cap,.slice p.control.p p.control.l.length p.control.cap,.slice p.emit.p p.emit.l.length p.emit.cap] 30)
  obtain⟨X,Y0,eX,⟨zX,hzX⟩,ca⟩:=box1n V #[.slice p.headers.p p.headers.l.length p.headers.cap,.slice p.metas.p p.metas.l.length p.metas.cap,.slice p.states.p p.states.l.length p.states.cap,.slice p.actions.p p.actions.l.length p.actions.cap,.slice p.tables.p p.tables.l.length p.tables.cap,.slice p.control.p p.control.l.length p.control.cap,.slice p.emit.p p.emit.l.length p.emit.cap] 30
  rw [eX]
  have g0:=ca 0 _ rfl
  have g1:=ca 1 _ rfl
  have g2:=ca 2 _ rfl
  have g3:=ca 3 _ rfl
  have g4:=ca 4 _ rfl
  have g5:=ca 5 _ rfl
  have g6:=ca 6 _ rfl
  have q:=Lib.hid (kp_at hzX qC'.out)
  have hz:=Lib.hid hzX
  have CA:=Lib.hid ca
  clear hX qC' ca eX hzX
  go_wp2_with fail
  refine (q.out _).mono ?_
  rintro r w' ⟨rfl,x1,rfl⟩
  clear q
  have hb0:∀ j v,p.cells[j]?=some v→∀ y,(plus X y).cell? ⟨V.heap.size,j,none⟩=some v:=fun j v hj y=>CA.out j _ (by rw [← hj];exact List.getElem?_toArray) y
  have hVX:V.heap.size < X.heap.size:=block_in (by have q:=g0 ⟨#[],X.drawn⟩;rw [plus_self] at q;exact q)
  have HB0:=Lib.hid hb0
  have HVX:=Lib.hid hVX
  clear hb0 hVX
  obtain⟨U,hU⟩:∃ U,plus X x1=U:=⟨_,rfl⟩
  have hUX:∃ y,U=plus X y:=⟨x1,hU.symm⟩
  rw [hU]
  have HU:=Lib.hid hUX
  clear hU hUX g0 g1 g2 g3 g4 g5 g6
  go_upto_region 5 with (fail)
  have hNb:Boxed (U.alloc (.cells #[.int .i64 0] 3)) U.heap.size 3 (.int .i64 0):=Boxed.new U _ _
  have hWz:∃ y,U.alloc (.cells #[.int .i64 0] 3)=plus V y:=by
   obtain⟨y,hy⟩:=HU.out
   rw [hy,hz.out,plus_plus];exact alloc_in _
  have hWX:∃ y,U.alloc (.cells #[.int .i64 0] 3)=plus X y:=up_alloc HU.out _
  have hUV:V.heap.size < U.heap.size:=by obtain⟨y,hy⟩:=HU.out;rw [hy];exact Nat.lt_of_lt_of_le HVX.out (size_plus X y)
  obtain⟨W,hW⟩:∃ W,U.alloc (.cells #[.int .i64 0] 3)=W:=⟨_,rfl⟩
  rw [hW] at hNb hWz hWX ⊢
  obtain⟨nb,hnb⟩:∃ b,U.heap.size=b:=⟨_,rfl⟩
  rw [hnb] at hNb hUV ⊢
  have HN:=Lib.hid hNb
  have HWz:=Lib.hid hWz
  have HWX:=Lib.hid hWX
  have HUV:=Lib.hid hUV
  clear hW hnb hNb hWz hWX hUV
  have hG:∀ w,(callFunc 19 #[.pointer (some ⟨V.heap.size,0,none⟩),.pointer (some ⟨nb,0,none⟩)]).run Tryz.prog w=.ok (.enter 19 #[.pointer (some ⟨V.heap.size,0,none⟩),.pointer (some ⟨nb,0,none⟩)]) w:=by
   intro w
   simp [go_sem]
  have kC:=t_caught W 19 #[.pointer (some ⟨V.heap.size,0,none⟩),.pointer (some ⟨nb,0,none⟩)] hG SR (fun w'=>∃ y,w'=plus ((W.alloc (.cells #[.int .i64 0] 33)).setCell ⟨nb,0,none⟩ (.int .i64 (SN1:Int))) y)
   ((T1.out (W.alloc (.cells #[.int .i64 0] 33)) V.heap.size nb (up_alloc HWz.out _) (fun j v hj=>by
     obtain⟨y,hy⟩:=up_alloc HWX.out (.cells #[.int .i64 0] 33)
     rw [hy];exact HB0.out j v hj y) (by have:=HUV.out;omega) (HN.out.alloc _) (by have:=HUV.out;omega)).mono fun e w' ⟨h1,y,h2⟩=>by
    have hnW:=HN.out.lt
    have hne:(⟨nb,0,none⟩:Addr).block≠W.heap.size:=by show nb≠_;omega
    have hh:w'.heap[W.heap.size]?=some (.cells #[.int .i64 0] 33 (0,0)):=by
     rw [h2]
     exact ((below_plus _ y).block _ (by rw [World.size_setCell];simp)).trans ((Below.heap_setCell _ _ _ _ (fun e=>hne e.symm)).trans (World.alloc_heap_new W _))
    exact⟨h1,⟨y,h2⟩,cell_lies hh rfl,fun o=>frozen_of_row w' _ o _ _ hh⟩)
  have KC:=Lib.hid kC
  clear kC hG T1
  go_wp2_with fail
  refine KC.out.mono ?_
  rintro r w' ⟨rfl,U5,⟨y5,rfl⟩,rfl⟩
  have hnW:=HN.out.lt
  have hBN:Boxed ((plus ((W.alloc (.cells #[.int .i64 0] 33)).setCell ⟨nb,0,none⟩ (.int .i64 (SN1:Int))) y5).setCell ⟨W.heap.size,0,none⟩ (.int .i64 SR)) nb 3 (.int .i64 (SN1:Int)) :=
   (Below.heap_setCell _ _ _ nb (by simp only;omega)).trans (heap_plus (Boxed.set _ (HN.out.alloc _)) y5)
  have hlow:∃ y,(plus ((W.alloc (.cells #[.int .i64 0] 33)).setCell ⟨nb,0,none⟩ (.int .i64 (SN1:Int))) y5).setCell ⟨W.heap.size,0,none⟩ (.int .i64 SR)=plus V y:=by
   obtain⟨z,hz⟩:=up_alloc HWz.out (.cells #[.int .i64 0] 33)
   have hVn:=HUV.out
   refine plus_of_below (Below.setCell (Below.trans ?_ ((below_plus _ y5).mono (by rw [World.size_setCell,hz];exact size_plus V z))) (by show V.heap.size≤W.heap.size;omega) _)
   rw [hz]
   exact (below_plus V z).setCell (p:=⟨nb,0,none⟩) (by show V.heap.size≤nb;omega) _
  obtain⟨U6,hU6⟩:∃ U,(plus ((W.alloc (.cells #[.int .i64 0] 33)).setCell ⟨nb,0,none⟩ (.int .i64 (SN1:Int))) y5).setCell ⟨W.heap.size,0,none⟩ (.int .i64 SR)=U:=⟨_,rfl⟩
  rw [hU6] at hBN hlow ⊢
  have n1:=hBN.cell
  have HL:=Lib.hid hlow
  clear hU6 hBN hlow hnW KC
  go_wp2
  go_ret2
  exact⟨rfl,HL.out⟩
 ·rw [tckN,tckE,if_neg h0,if_neg h0]
  have hne:(chkE p != 0)=true:=by simpa using h0
  obtain⟨CN,hCN⟩:∃ c,chkN p=c:=⟨_,rfl⟩
  obtain⟨CE,hCE⟩:∃ c,chkE p=c:=⟨_,rfl⟩
  rw [hCN,hCE] at qC
  rw [hCE] at hne
  rw [hCN,hCE]
  have qC':=Lib.hid qC
  clear hCN hCE h0 qC hin hz
  go_enter Tryz.func7,Tryz.ntmps7
  go_upto_region 1 with (fail)
  obtain⟨X,Y0,eX,⟨zX,hzX⟩,ca⟩:=box1n V #[.slice p.headers.p p.headers.l.length p.headers.cap,.slice p.metas.p p.metas.l.length p.metas.cap,.slice p.states.p p.states.l.length p.states.cap,.slice p.actions.p p.actions.l.length p.actions.cap,.slice p.tables.p p.tables.l.length p.tables.cap,.slice p.control.p p.control.l.length p.control.cap,.slice p.emit.p p.emit.l.length p.emit.cap] 30
  rw [eX]
  have g0:=ca 0 _ rfl
  have g1:=ca 1 _ rfl
  have g2:=ca 2 _ rfl
  have g3:=ca 3 _ rfl
  have g4:=ca 4 _ rfl
  have g5:=ca 5 _ rfl
  have g6:=ca 6 _ rfl
  have q:=Lib.hid (kp_at hzX qC'.out)
  have hz:=Lib.hid hzX
  clear eX ca hzX qC'
  go_wp2_with fail
  refine (q.out _).mono ?_
  rintro r w' ⟨rfl,x1,rfl⟩
  clear q
  go_wp2
  go_ret2
  exact⟨rfl,by rw [hz.out,plus_plus];exact⟨_,rfl⟩⟩
end Go.Proofs.YtobhijbncchpiaaGreat
