/-
  WHAT IS PROVED HERE: a part of the proof (made narrower and merged by program; the parts: Dy).
-/
import Derived.Test.YtobhijbncchpiaaGreatM37
import Derived.Test.YtobhijbncchpiaaGreatM32
namespace Go.Proofs.YtobhijbncchpiaaGreat
open Go.RowKit
/-- A checker's box: the program, and the last transition's widths. -/
def BoxC (W:World) (cb:Nat) (p:Pr) (kv:Value):Prop:=W.heap[cb]?=some (.cells (p.cells++[kv]).toArray 81 (0,0))
theorem BoxC.at {W:World} {cb:Nat} {p:Pr} {kv:Value} (h:BoxC W cb p kv):ChkAt W cb p kv :=
 ⟨fun j v hj=>cell_lies h (by have hlt:=(List.getElem?_eq_some_iff.1 hj).1;rw [List.getElem?_toArray,List.getElem?_append_left hlt];exact hj),cell_lies h (by simp [Pr.cells])⟩
theorem BoxC.plus {W:World} {cb:Nat} {p:Pr} {kv:Value} (h:BoxC W cb p kv) (x:Ext):BoxC (Go.Proofs.YtobhijbncchpiaaGreat.plus W x) cb p kv:=heap_plus h x
theorem BoxC.alloc {W:World} {cb:Nat} {p:Pr} {kv:Value} (h:BoxC W cb p kv) (o:Obj):BoxC (W.alloc o) cb p kv:=(Below.heap_alloc W o cb (Array.getElem?_eq_some_iff.1 h).1).trans h
theorem BoxC.set {W:World} {cb:Nat} {p:Pr} {kv:Value} (h:BoxC W cb p kv) (v:Value):BoxC (W.setCell ⟨cb,7,none⟩ v) cb p v:=from_same [v] (p.cells++[kv]) W 7 h
theorem BoxC.lt {W:World} {cb:Nat} {p:Pr} {kv:Value} (h:BoxC W cb p kv):cb < W.heap.size:=(Array.getElem?_eq_some_iff.1 h).1
theorem BoxC.frozen {W:World} {cb:Nat} {p:Pr} {kv:Value} (h:BoxC W cb p kv) (o:Nat):W.frozen? ⟨cb,o,none⟩=false:=frozen_of_row W cb o _ _ h
/-- What a round of next reads. -/
structure SN (cb eb:Nat) (v0 v1 v2 v3 v4 v5 v6:Value) (u0 u1 u2 u3 u4 u5 u6 u7 u8:Value) (W:World):Prop where
 c0:W.cell? ⟨cb,0,none⟩=some v0
 c1:W.cell? ⟨cb,1,none⟩=some v1
 c2:W.cell? ⟨cb,2,none⟩=some v2
 c3:W.cell? ⟨cb,3,none⟩=some v3
 c4:W.cell? ⟨cb,4,none⟩=some v4
 c5:W.cell? ⟨cb,5,none⟩=some v5
 c6:W.cell? ⟨cb,6,none⟩=some v6
 e0:W.cell? ⟨eb,0,none⟩=some u0
 e1:W.cell? ⟨eb,1,none⟩=some u1
 e2:W.cell? ⟨eb,2,none⟩=some u2
 e3:W.cell? ⟨eb,3,none⟩=some u3
 e4:W.cell? ⟨eb,4,none⟩=some u4
 e5:W.cell? ⟨eb,5,none⟩=some u5
 e6:W.cell? ⟨eb,6,none⟩=some u6
 e7:W.cell? ⟨eb,7,none⟩=some u7
 e8:W.cell? ⟨eb,8,none⟩=some u8
theorem SN.keep {cb eb:Nat} {v0 v1 v2 v3 v4 v5 v6 u0 u1 u2 u3 u4 u5 u6 u7 u8:Value} {W W':World} (h:SN cb eb v0 v1 v2 v3 v4 v5 v6 u0 u1 u2 u3 u4 u5 u6 u7 u8 W) (hk:∀ j v,j < 7→W.cell? ⟨cb,j,none⟩=some v→W'.cell? ⟨cb,j,none⟩=some v) (he:∀ j v,W.cell? ⟨eb,j,none⟩=some v→W'.cell? ⟨eb,j,none⟩=some v):SN cb eb v0 v1 v2 v3 v4 v5 v6 u0 u1 u2 u3 u4 u5 u6 u7 u8 W' :=
 ⟨hk 0 _ (by decide) h.c0,hk 1 _ (by decide) h.c1,hk 2 _ (by decide) h.c2,hk 3 _ (by decide) h.c3,hk 4 _ (by decide) h.c4,hk 5 _ (by decide) h.c5,hk 6 _ (by decide) h.c6,he 0 _ h.e0,he 1 _ h.e1,he 2 _ h.e2,he 3 _ h.e3,he 4 _ h.e4,he 5 _ h.e5,he 6 _ h.e6,he 7 _ h.e7,he 8 _ h.e8⟩
theorem SN.plus {cb eb:Nat} {v0 v1 v2 v3 v4 v5 v6 u0 u1 u2 u3 u4 u5 u6 u7 u8:Value} {W:World} (h:SN cb eb v0 v1 v2 v3 v4 v5 v6 u0 u1 u2 u3 u4 u5 u6 u7 u8 W) (x:Ext):SN cb eb v0 v1 v2 v3 v4 v5 v6 u0 u1 u2 u3 u4 u5 u6 u7 u8 (Go.Proofs.YtobhijbncchpiaaGreat.plus W x):=h.keep (fun _ _ _ q=>cell_keep q x) (fun _ _ q=>cell_keep q x)
theorem Kq.shrink {cb:Nat} {V W:World} (h:Kq (fun b=>b=cb∨V.heap.size≤b) V W):Kq (fun b=>b=cb) V W :=
 ⟨h.size,fun a v n hv=>h.cell a v (fun q=>by
  rcases q with q | q
  ·exact n q
  ·have:=World.block_lt_of_cell? V a hv;omega) hv,fun B hb hs=>h.low B hb (fun b q=>by
  rcases q with q | q
  ·exact hs b q
  ·omega)⟩
theorem int_info:(Tryz.prog.info? 3).map (fun i=>(i.zero,i.size,i.bytes))=some (some (.int .i64 0),1,8):=by kernel_rfl
set_option maxRecDepth 100000 in
set_option maxHeartbeats 32000000 in
theorem t_next (w0 V:World) (p:Pr) (s:Sa) (cb:Nat) (kv0:Value) (hV:∃ z,V=plus w0 z) (hcb:w0.heap.size≤cb) (hin:p.In w0) (hz:p.sz≤1048576) (hW:Wide p) (hs:s.In w0) (hsz:s.sz≤1048576) (hm:∀ k ∈ s.keys.l,k.may 16=true)
  (hB:BoxC V cb p kv0) (Post:Ending→World→Prop)
  (hP0:(∀ (j:Nat) (x:Ex),s.keys.l[j]?=some x→keyT p x=0)→∀ w' kv,(∃ z,w'=plus w0 z)→Kq (fun b=>b=cb) V w'→BoxC w' cb p kv→w'.ownsRow V.heap.size 3 1 kv s.keys.l.length ((((s.keys.l.map (keyW p))).map iCells).flatten)→Post (.returned (.tuple #[])) w')
  (hPk:∀ (k:Nat) (x:Ex),s.keys.l[k]?=some x→(∀ (j:Nat) (y:Ex),j < k→s.keys.l[j]?=some y→keyT p y=0)→keyT p x≠0→∀ w',(∃ z,w'=plus w0 z)→Kq (fun b=>b=cb) V w'→Post (gaveE (keyT p x)) w') :
  Calls Tryz.prog 34 #[.pointer (some ⟨cb,0,none⟩),.agg s.cells.toArray] V Post:=by
 have hkt:=fun (W:World) (hWz:∃ z,W=plus w0 z) (x:Ex) (hx:x ∈ s.keys.l)=>(t_type p hz hW (-1) x 16 W (hm x hx) (by obtain⟨z,rfl⟩:=hWz;exact hin.plus z) (by obtain⟨z,rfl⟩:=hWz;exact (hs.keys.kids x hx).plus z) (by
  have h1:=le_sum_of Ex.wt s.keys.l x hx
  unfold Sa.sz Sl.size at hsz
  omega))
 have hn:s.keys.l.length≤1048576:=by
  have:=length_le_sum Ex.wt (fun e=>by have:=Ex.wt_eq e;omega) s.keys.l
  unfold Sa.sz Sl.size at hsz
  omega
 have hrow:=hs.keys.row
 have hat:=fun W kv (h:BoxC W cb p kv)=>BoxC.at h
 obtain⟨sn,⟨tkp,tkc,tkl⟩,sto,⟨kyp,kyc,kyl⟩,⟨csp,csc,csl⟩⟩:=s
 simp only at hkt hn hrow hP0 hPk hm
 simp only [Sa.cells,Sl.v]
 obtain⟨tkn,htk⟩:∃ n,tkl.length=n:=⟨_,rfl⟩
 obtain⟨csn,hcs⟩:∃ n,csl.length=n:=⟨_,rfl⟩
 obtain⟨n,hnn⟩:∃ n,kyl.length=n:=⟨_,rfl⟩
 rw [htk,hcs,hnn]
 rw [hnn] at hn hP0
 have hkt':=Lib.hid hkt
 have hn':=Lib.hid hn
 have hnn':=Lib.hid hnn
 have hrow':=Lib.hid hrow
 have hP0':=Lib.hid hP0
 have hPk':=Lib.hid hPk
 have hV':=Lib.hid hV
 have hcb':=Lib.hid hcb
 clear hkt hn hnn hrow hP0 hPk hs hsz hin hz hW hm htk hcs hV hcb
 go_enter Tryz.func34,Tryz.ntmps34
 have B1:=hB.alloc (.cells #[.string sn,.slice tkp tkn tkc,.string sto,.slice kyp n kyc,.slice csp csn csc] 61)
 obtain⟨X,hX⟩:∃ X,V.alloc (.cells #[.string sn,.slice tkp tkn tkc,.string sto,.slice kyp n kyc,.slice csp csn csc] 61)=X:=⟨_,rfl⟩
 rw [hX] at B1
 have k7:=B1.at.keys
 have f7:=B1.frozen 7
 have hXs:X.heap[V.heap.size]?=some (.cells #[.string sn,.slice tkp tkn tkc,.string sto,.slice kyp n kyc,.slice csp csn csc] 61 (0,0)):=by rw [← hX];exact World.alloc_heap_new V _
 have hXq:Kq (fun b=>b=cb) V X:=by rw [← hX];exact Kq.alloc _ V _
 obtain⟨X1,hX1⟩:∃ X1,X.setCell ⟨cb,7,none⟩ (.slice none 0 0)=X1:=⟨_,rfl⟩
 have B2:=B1.set (.slice none 0 0)
 have hq1:Kq (fun b=>b=cb) V X1:=by rw [← hX1];exact hXq.trans (Kq.setCell X ⟨cb,7,none⟩ _ rfl)
 have hz1:∃ z,X1=plus w0 z:=by
  obtain⟨z,hz⟩:=hV'.out
  refine plus_of_below (Below.trans (b:=V) (by rw [hz];exact below_plus w0 z) ?_)
  have hVs:w0.heap.size≤V.heap.size:=by rw [hz];exact size_plus w0 z
  exact hq1.low _ hVs (fun b h=>by have:=hcb'.out;omega)
 have hVX:V.heap.size≤X1.heap.size:=hq1.size
 have hs3:X1.cell? ⟨V.heap.size,3,none⟩=some (.slice kyp n kyc):=by
  rw [← hX1]
  have hne:V.heap.size≠cb:=by have:=hB.lt;omega
  exact (World.cell?_setCell_far X ⟨cb,7,none⟩ ⟨V.heap.size,3,none⟩ _ (fun e=>hne e.symm)).trans (cell_lies hXs rfl)
 rw [hX1] at B2
 have HB:=Lib.hid B2
 have HQ:=Lib.hid hq1
 have HZ:=Lib.hid hz1
 have HX:=Lib.hid hVX
 have Hlt:=Lib.hid hB.lt
 clear B1 B2 hq1 hz1 hVX hXs hXq hB
 go_wp2_with (first|(rw [hX])|(rw [hX1]))
 clear hs3 k7 f7 hX hX1 hat
 have HN:=Lib.hid (World.ownsRow_nil X1 V.heap.size 3 1)
 go_loopw [5,12] (fun _ iv wr=>∃ k:Nat,k≤n∧iv=.int .i64 (k:Int)∧(∃ z,wr=plus w0 z)∧Kq (fun b=>b=cb) V wr∧∃ kv:Value,BoxC wr cb p kv∧wr.ownsRow V.heap.size 3 1 kv k ((((kyl.take k).map (keyW p)).map iCells).flatten)∧∀ (j:Nat) (x:Ex),j < k→kyl[j]?=some x→keyT p x=0) (fun _ iv _=>n - (intOf iv).toNat)
 case atStart=>exact⟨0,Nat.zero_le _,rfl,HZ.out,HQ.out,.slice none 0 0,HB.out,by simpa using HN.out,fun j x h=>absurd h (Nat.not_lt_zero j)⟩
 case round =>
  obtain⟨k,hk,rfl,hzr,hqr,kv,hBr,hOr,hJ⟩:=hrel
  by_cases hlt:k < n
  ·obtain⟨x,hx⟩:∃ x,kyl[k]?=some x:=⟨kyl[k]'(by rw [hnn'.out];exact hlt),List.getElem?_eq_getElem _⟩
   obtain⟨pa,rfl,hcx⟩:=hrow'.out k x hx
   have hcw:CellsAt wr (pa.add (k*9)) x.cells:=by obtain⟨z,hz⟩:=hzr;rw [hz];exact hcx.plus z
   have d0:=hcw.c0 _ rfl
   have d1:=hcw.cs 0 _ rfl
   have d2:=hcw.cs 1 _ rfl
   have d3:=hcw.cs 2 _ rfl
   have d4:=hcw.cs 3 _ rfl
   have d5:=hcw.cs 4 _ rfl
   have d6:=hcw.cs 5 _ rfl
   have d7:=hcw.cs 6 _ rfl
   have d8:=hcw.cs 7 _ rfl
   have a6:=Lib.hid (wr_succ k n hlt hn'.out)
   have hZ':=Lib.hid hzr
   have hQ':=Lib.hid hqr
   have hB':=Lib.hid hBr
   have hO':=Lib.hid hOr
   have hJ':=Lib.hid hJ
   have hx':=Lib.hid hx
   clear hcw hcx hx hzr hqr hBr hOr hJ
   go_upto_region 5 with (fail)
   clear d0 d1 d2 d3 d4 d5 d6 d7 d8
   have hE:=World.alloc_heap_new wr (.cells #[.int .u8 x.op,.int .i64 x.lit.w,.int .u64 x.lit.h,.int .u64 x.lit.l,.string x.head,.string x.name,.int .i64 x.hi,.int .i64 x.lo,.slice x.p x.args.length x.cap] 45)
   have hBU:=hB'.out.alloc (.cells #[.int .u8 x.op,.int .i64 x.lit.w,.int .u64 x.lit.h,.int .u64 x.lit.l,.string x.head,.string x.name,.int .i64 x.hi,.int .i64 x.lo,.slice x.p x.args.length x.cap] 45)
   have hOU:=ownr_alloc hO'.out (.cells #[.int .u8 x.op,.int .i64 x.lit.w,.int .u64 x.lit.h,.int .u64 x.lit.l,.string x.head,.string x.name,.int .i64 x.hi,.int .i64 x.lo,.slice x.p x.args.length x.cap] 45)
   have hqU:=hQ'.out.trans (Kq.alloc (fun b=>b=cb) wr (.cells #[.int .u8 x.op,.int .i64 x.lit.w,.int .u64 x.lit.h,.int .u64 x.lit.l,.string x.head,.string x.name,.int .i64 x.hi,.int .i64 x.lo,.slice x.p x.args.length x.cap] 45))
   have hzU:∃ z,wr.alloc (.cells #[.int .u8 x.op,.int .i64 x.lit.w,.int .u64 x.lit.h,.int .u64 x.lit.l,.string x.head,.string x.name,.int .i64 x.hi,.int .i64 x.lo,.slice x.p x.args.length x.cap] 45)=plus w0 z:=up_alloc hZ'.out _
   obtain⟨U,hU⟩:∃ U,wr.alloc (.cells #[.int .u8 x.op,.int .i64 x.lit.w,.int .u64 x.lit.h,.int .u64 x.lit.l,.string x.head,.string x.name,.int .i64 x.hi,.int .i64 x.lo,.slice x.p x.args.length x.cap] 45)=U:=⟨_,rfl⟩
   rw [hU] at hE hBU hOU hqU hzU ⊢
   obtain⟨eb,heb⟩:∃ b,wr.heap.size=b:=⟨_,rfl⟩
   have hebV:V.heap.size≤eb:=by rw [← heb];exact hQ'.out.size
   have hebU:eb < U.heap.size:=(Array.getElem?_eq_some_iff.1 (heb ▸ hE)).1
   rw [heb] at hE ⊢
   have hSN:SN cb eb (.slice p.headers.p p.headers.l.length p.headers.cap) (.slice p.metas.p p.metas.l.length p.metas.cap) (.slice p.states.p p.states.l.length p.states.cap) (.slice p.actions.p p.actions.l.length p.actions.cap) (.slice p.tables.p p.tables.l.length p.tables.cap) (.slice p.control.p p.control.l.length p.control.cap) (.slice p.emit.p p.emit.l.length p.emit.cap) (.int .u8 x.op) (.int .i64 x.lit.w) (.int .u64 x.lit.h) (.int .u64 x.lit.l) (.string x.head) (.string x.name) (.int .i64 x.hi) (.int .i64 x.lo) (.slice x.p x.args.length x.cap) U :=
    ⟨hBU.at.cells 0 _ rfl,hBU.at.cells 1 _ rfl,hBU.at.cells 2 _ rfl,hBU.at.cells 3 _ rfl,hBU.at.cells 4 _ rfl,hBU.at.cells 5 _ rfl,hBU.at.cells 6 _ rfl,cell_lies hE rfl,cell_lies hE rfl,cell_lies hE rfl,cell_lies hE rfl,cell_lies hE rfl,cell_lies hE rfl,cell_lies hE rfl,cell_lies hE rfl,cell_lies hE rfl⟩
   have kt:=hkt'.out U hzU x (List.mem_of_getElem? hx'.out)
   have kw:=t_width (x.ty p (-1)).2 U
   have hKT:keyT p x=if (x.ty p (-1)).1=0 then bitsE (x.ty p (-1)).2 else (x.ty p (-1)).1:=rfl
   have hKW:keyW p x=(x.ty p (-1)).2.w:=rfl
   obtain⟨⟨R,t⟩,hRt⟩:∃ r,x.ty p (-1)=r:=⟨_,rfl⟩
   rw [hRt] at kt kw hKT hKW
   simp only at kt kw hKT hKW
   simp only [scV,Ex.val,Ex.cells] at kt
   clear hRt hU
   have HSN:=Lib.hid hSN
   have HBU:=Lib.hid hBU
   have HOU:=Lib.hid hOU
   have HQU:=Lib.hid hqU
   have HZU:=Lib.hid hzU
   have HKT:=Lib.hid hKT
   have HKW:=Lib.hid hKW
   have qt:=Lib.hid (atsE_of kt)
   have Heb:=Lib.hid (And.intro hebV hebU)
   have HNE:=Lib.hid (show ∀ g,kv.ownBlock=some g→V.heap.size≤g∧g≠eb from fun g e=>by
    obtain⟨h1,cur,h2⟩:=own_at hO'.out e
    have:=(Array.getElem?_eq_some_iff.1 h2).1
    exact⟨h1,by omega⟩)
   clear hE hSN hBU hOU hqU hzU hKT hKW kt hebV hebU heb
   have PAN:=Lib.hid (fun (h0:keyT p x≠0) (w':World) (hw':∃ z,w'=plus U z)=>hPk'.out k x hx'.out (fun j y hj hy=>hJ'.out j y hj hy) h0 w' (by obtain⟨z,rfl⟩:=hw';exact up_plus HZU.out z) (by obtain⟨z,rfl⟩:=hw';exact HQU.out.trans (Kq.plus _ U z)))
   by_cases r0:R=0
   ·subst r0
    rw [if_pos rfl] at HKT
    by_cases q0:bitsE t=0
    ·rw [if_pos q0] at kw
     have qw:=Lib.hid (atsE_of kw)
     clear kw
     clear PAN
     refine wp_region_held_drew (S:=SN cb eb _ _ _ _ _ _ _ _ _ _ _ _ _ _ _ _) (by kernel_rfl) (by obtain⟨z,hz⟩:=up_drew (up_self (V:=U) ⟨#[],U.drawn⟩);rw [plus_self] at hz;rw [hz];exact HSN.out.plus z) (fun hHeld=>?_)
     have hp:∃ z,U.drew=plus U z:=by have q:=up_drew (up_self (V:=U) ⟨#[],U.drawn⟩);rwa [plus_self] at q
     obtain⟨U0,hU0⟩:∃ W,U.drew=W:=⟨_,rfl⟩
     rw [hU0] at hHeld hp ⊢
     clear hU0
     refine wpAnyH_take (i:=0) (oi:={ dst:=some 16,op:=Op.move (Operand.tmp 0),type:=97,pos:="item.go:35",after:=#[],guard:=none }) (v:=?vc0) rfl (by kernel_rfl) (by kernel_rfl) (by kernel_rfl) (fun _ _ _ h=>h) (Or.inl ⟨by rfl,?hc0⟩) hHeld ?rc0
     case hc0 =>
      rintro W ⟨c0,c1,c2,c3,c4,c5,c6,e0,e1,e2,e3,e4,e5,e6,e7,e8⟩
      go_simp
      try with_reducible rfl
     simp only [Act.put,List.setIfInBounds_toArray,List.set_cons_zero,List.set_cons_succ]
     refine wpAnyH_take (i:=1) (oi:={ dst:=some 17,op:=Op.move (Operand.tmp 0),type:=97,pos:="item.go:35",after:=#[],guard:=none }) (v:=?vc1) rfl (by kernel_rfl) (by kernel_rfl) (by kernel_rfl) (fun _ _ _ h=>h) (Or.inl ⟨by rfl,?hc1⟩) hHeld ?rc1
     case hc1 =>
      rintro W ⟨c0,c1,c2,c3,c4,c5,c6,e0,e1,e2,e3,e4,e5,e6,e7,e8⟩
      go_simp
      try with_reducible rfl
     simp only [Act.put,List.setIfInBounds_toArray,List.set_cons_zero,List.set_cons_succ]
     refine wpAnyH_take (i:=2) (oi:={ dst:=some 18,op:=Op.nilCheck (Operand.tmp 17),type:=0,pos:="item.go:35",after:=#[{ on:=1,ground:=Ground.data }],guard:=none }) (v:=?vc2) rfl (by kernel_rfl) (by kernel_rfl) (by kernel_rfl) (fun _ _ _ h=>h) (Or.inl ⟨by rfl,?hc2⟩) hHeld ?rc2
     case hc2 =>
      rintro W ⟨c0,c1,c2,c3,c4,c5,c6,e0,e1,e2,e3,e4,e5,e6,e7,e8⟩
      go_simp
      try with_reducible rfl
     simp only [Act.put,List.setIfInBounds_toArray,List.set_cons_zero,List.set_cons_succ]
     refine wpAnyH_take (i:=3) (oi:={ dst:=some 19,op:=Op.fieldAddr 81 (Operand.tmp 18) 1,type:=0,pos:="item.go:35",after:=#[{ on:=2,ground:=Ground.data }],guard:=none }) (v:=?vc3) rfl (by kernel_rfl) (by kernel_rfl) (by kernel_rfl) (fun _ _ _ h=>h) (Or.inl ⟨by rfl,?hc3⟩) hHeld ?rc3
     case hc3 =>
      rintro W ⟨c0,c1,c2,c3,c4,c5,c6,e0,e1,e2,e3,e4,e5,e6,e7,e8⟩
      go_simp
      try with_reducible rfl
     simp only [Act.put,List.setIfInBounds_toArray,List.set_cons_zero,List.set_cons_succ]
     refine wpAnyH_take (i:=5) (oi:={ dst:=some 21,op:=Op.move (Operand.tmp 0),type:=97,pos:="item.go:35",after:=#[],guard:=none }) (v:=?vc5) rfl (by kernel_rfl) (by kernel_rfl) (by kernel_rfl) (fun _ _ _ h=>h) (Or.inl ⟨by rfl,?hc5⟩) hHeld ?rc5
     case hc5 =>
      rintro W ⟨c0,c1,c2,c3,c4,c5,c6,e0,e1,e2,e3,e4,e5,e6,e7,e8⟩
      go_simp
      try with_reducible rfl
     simp only [Act.put,List.setIfInBounds_toArray,List.set_cons_zero,List.set_cons_succ]
     refine wpAnyH_take (i:=6) (oi:={ dst:=some 22,op:=Op.nilCheck (Operand.tmp 21),type:=0,pos:="item.go:35",after:=#[{ on:=5,ground:=Ground.data }],guard:=none }) (v:=?vc6) rfl (by kernel_rfl) (by kernel_rfl) (by kernel_rfl) (fun _ _ _ h=>h) (Or.inl ⟨by rfl,?hc6⟩) hHeld ?rc6
     case hc6 =>
      rintro W ⟨c0,c1,c2,c3,c4,c5,c6,e0,e1,e2,e3,e4,e5,e6,e7,e8⟩
      go_simp
      try with_reducible rfl
     simp only [Act.put,List.setIfInBounds_toArray,List.set_cons_zero,List.set_cons_succ]
     refine wpAnyH_take (i:=7) (oi:={ dst:=some 23,op:=Op.fieldAddr 81 (Operand.tmp 22) 0,type:=0,pos:="item.go:35",after:=#[{ on:=6,ground:=Ground.data }],guard:=none }) (v:=?vc7) rfl (by kernel_rfl) (by kernel_rfl) (by kernel_rfl) (fun _ _ _ h=>h) (Or.inl ⟨by rfl,?hc7⟩) hHeld ?rc7
     case hc7 =>
      rintro W ⟨c0,c1,c2,c3,c4,c5,c6,e0,e1,e2,e3,e4,e5,e6,e7,e8⟩
      go_simp
      try with_reducible rfl
     simp only [Act.put,List.setIfInBounds_toArray,List.set_cons_zero,List.set_cons_succ]
     refine wpAnyH_take (i:=8) (oi:={ dst:=some 24,op:=Op.load 30 (Operand.tmp 23),type:=30,pos:="item.go:35",after:=#[{ on:=7,ground:=Ground.data }],guard:=none }) (v:=?vc8) rfl (by kernel_rfl) (by kernel_rfl) (by kernel_rfl) (fun _ _ _ h=>h) (Or.inl ⟨by rfl,?hc8⟩) hHeld ?rc8
     case hc8 =>
      rintro W ⟨c0,c1,c2,c3,c4,c5,c6,e0,e1,e2,e3,e4,e5,e6,e7,e8⟩
      go_simp
      try with_reducible rfl
     simp only [Act.put,List.setIfInBounds_toArray,List.set_cons_zero,List.set_cons_succ]
     refine wpAnyH_take (i:=9) (oi:={ dst:=some 25,op:=Op.build 90 #[(0,Operand.tmp 24),(1,Operand.const (Value.int IntKind.i64 (-1)))],type:=90,pos:="item.go:35",after:=#[{ on:=8,ground:=Ground.data }],guard:=none }) (v:=?vc9) rfl (by kernel_rfl) (by kernel_rfl) (by kernel_rfl) (fun _ _ _ h=>h) (Or.inl ⟨by rfl,?hc9⟩) hHeld ?rc9
     case hc9 =>
      rintro W ⟨c0,c1,c2,c3,c4,c5,c6,e0,e1,e2,e3,e4,e5,e6,e7,e8⟩
      go_simp
      try with_reducible rfl
     simp only [Act.put,List.setIfInBounds_toArray,List.set_cons_zero,List.set_cons_succ]
     refine wpAnyH_take (i:=10) (oi:={ dst:=some 26,op:=Op.load 45 (Operand.tmp 5),type:=45,pos:="item.go:35",after:=#[],guard:=none }) (v:=?vc10) rfl (by kernel_rfl) (by kernel_rfl) (by kernel_rfl) (fun _ _ _ h=>h) (Or.inl ⟨by rfl,?hc10⟩) hHeld ?rc10
     case hc10 =>
      rintro W ⟨c0,c1,c2,c3,c4,c5,c6,e0,e1,e2,e3,e4,e5,e6,e7,e8⟩
      go_simp
      try with_reducible rfl
     simp only [Act.put,List.setIfInBounds_toArray,List.set_cons_zero,List.set_cons_succ]
     refine wpAnyH_ready (rs:=[4,11]) (by kernel_rfl) (by simp) ?_
     refine AllReadyH.cons (o:={ dst:=some 20,op:=Op.load 79 (Operand.tmp 19),type:=79,pos:="item.go:35",after:=#[{ on:=3,ground:=Ground.data }],guard:=none }) rfl (fun K hK=>?_) ?_
     ·have k7:U0.cell? ⟨cb,7,none⟩=some kv:=by obtain⟨z,hz⟩:=hp;rw [hz];exact (HBU.out.plus z).at.keys
      go_simp
      refine hK.out _ _ hHeld (fun hHeld11=>?_)
      clear hK K k7
      refine wpAnyH_ready (rs:=[11]) (by kernel_rfl) (by simp) ?_
      refine AllReadyH.cons (o:={ dst:=some 27,op:=Op.call { callee:=Callee.value (Operand.func 28),args:=#[Operand.tmp 25,Operand.tmp 26],argTypes:=#[90,45] },type:=75,pos:="item.go:35",after:=#[{ on:=9,ground:=Ground.data },{ on:=10,ground:=Ground.data }],guard:=none }) rfl (fun K hK=>?_) AllReadyH.nil
      go_simp
      refine (qt.out U0 hp).mono ?_
      rintro r w' ⟨rfl,x12,hx12⟩
      have hp12:∃ z,w'=plus U z:=by rw [hx12];exact up_plus hp x12
      refine hK.out _ _ (by rw [hx12];exact hHeld11.plus x12) (fun hHeld12=>?_)
      clear hK K hx12
      obtain⟨U12,hU12⟩:∃ W,w'=W:=⟨_,rfl⟩
      rw [hU12] at hHeld12 hp12 ⊢
      clear hU12
      refine wpAnyH_ready (rs:=[12]) (by kernel_rfl) (by simp) ?_
      refine AllReadyH.cons (o:={ dst:=some 28,op:=Op.call { callee:=Callee.value (Operand.func 49),args:=#[Operand.tmp 27],argTypes:=#[75] },type:=3,pos:="item.go:35",after:=#[{ on:=11,ground:=Ground.data },{ on:=11,ground:=Ground.chain }],guard:=none }) rfl (fun K hK=>?_) AllReadyH.nil
      go_simp
      refine (qw.out U12 hp12).mono ?_
      rintro r w' ⟨rfl,x13,hx13⟩
      have hp13:∃ z,w'=plus U z:=by rw [hx13];exact up_plus hp12 x13
      refine hK.out _ _ (by rw [hx13];exact hHeld12.plus x13) (fun hHeld13=>?_)
      clear hK K hx13
      obtain⟨U13,hU13⟩:∃ W,w'=W:=⟨_,rfl⟩
      rw [hU13] at hHeld13 hp13 ⊢
      clear hU13
      refine wpAnyH_ready (rs:=[13]) (by kernel_rfl) (by simp) ?_
      refine AllReadyH.cons (o:={ dst:=some 29,op:=Op.buildSlice 79 1 #[(0,Operand.tmp 28)],type:=79,pos:="item.go:35",after:=#[{ on:=12,ground:=Ground.data }],guard:=none }) rfl (fun K hK=>?_) AllReadyH.nil
      go_simp
      have hp14:∃ z,U13.alloc (.cells #[.int .i64 t.w] 3)=plus U z:=up_alloc hp13 _
      refine hK.out _ _ (hHeld13.keep (fun j v _ q=>cell_alloc q _) (fun j v q=>cell_alloc q _)) (fun hHeld14=>?_)
      clear hK K
      have hN:=World.alloc_heap_new U13 (.cells #[.int .i64 t.w] 3)
      obtain⟨nb,hnb⟩:∃ b,U13.heap.size=b:=⟨_,rfl⟩
      obtain⟨U14,hU14⟩:∃ W,U13.alloc (.cells #[.int .i64 t.w] 3)=W:=⟨_,rfl⟩
      rw [hnb,hU14] at hN
      rw [hU14] at hHeld14 hp14
      rw [hnb,hU14]
      clear hU14 hnb
      refine wpAnyH_ready (rs:=[14]) (by kernel_rfl) (by simp) ?_
      refine AllReadyH.cons (o:={ dst:=some 30,op:=Op.call { callee:=Callee.builtin Builtin.append,args:=#[Operand.tmp 20,Operand.tmp 29],argTypes:=#[79,79] },type:=79,pos:="item.go:35",after:=#[{ on:=4,ground:=Ground.data },{ on:=13,ground:=Ground.data },{ on:=12,ground:=Ground.chain }],guard:=none }) rfl (fun K hK=>?_) AllReadyH.nil
      obtain⟨z15,hz15⟩:=hp14
      have hO15:=own_plus HOU.out z15
      have hB15:=HBU.out.plus z15
      have hS15:V.heap.size≤U14.heap.size:=by rw [hz15];have:=size_plus U z15;have:=Heb.out;omega
      have hI15:cb < U14.heap.size:=by have:=Hlt.out;omega
      have hJ15:eb < U14.heap.size:=by rw [hz15];have:=size_plus U z15;have:=Heb.out;omega
      rw [← hz15] at hO15 hB15
      obtain⟨i0,hi0,hi1,hi2,hi3⟩:=info_parts int_info
      refine step_append_lies _ rfl (.tmp 20) (.tmp 29) 79 rfl V.heap.size 3 i0 _ 1 8 Tryz.underlying79 hi0 hi1 hi2 hi3 rfl (by decide) kv k _ (by simp [Act.eval]) hO15 ⟨nb,0,none⟩ 1 1 [.int .i64 t.w] (by simp [Act.eval]) rfl (World.news_of_block hN) (fun u hu=>by simp at hu;subst hu;rfl) (by decide) (by have:=hn'.out;simp only [maxLen];omega) (by have:=hn'.out;omega) hS15 _ rfl ?_
      intro g cap W5 g2 g3 _ _
      have ne5:∀ a:Addr,a.block=cb∨a.block=eb→some a.block≠kv.ownBlock:=fun a ha e=>by
       obtain⟨h1,h2⟩:=HNE.out _ e.symm
       have:=Hlt.out
       rcases ha with ha | ha <;> omega
      refine hK.out _ _ (hHeld14.keep (fun j v _ q=>(g3.cell_far _ hI15 (ne5 _ (.inl rfl))).trans q) (fun j v q=>(g3.cell_far _ hJ15 (ne5 _ (.inr rfl))).trans q)) (fun hHeld15=>?_)
      clear hK K
      have B5:BoxC W5 cb p kv:=(g3.block cb hI15 (ne5 ⟨cb,0,none⟩ (.inl rfl))).trans hB15
      have G2:=Lib.hid g2
      have G3:=Lib.hid g3
      clear g2 g3 hO15 hB15
      refine wpAnyH_ready (rs:=[15]) (by kernel_rfl) (by simp) ?_
      refine AllReadyH.cons (o:={ dst:=some 31,op:=Op.nilCheck (Operand.tmp 16),type:=0,pos:="item.go:35",after:=#[{ on:=0,ground:=Ground.data },{ on:=0,ground:=Ground.phase },{ on:=1,ground:=Ground.phase },{ on:=2,ground:=Ground.phase },{ on:=3,ground:=Ground.phase },{ on:=4,ground:=Ground.phase },{ on:=5,ground:=Ground.phase },{ on:=6,ground:=Ground.phase },{ on:=7,ground:=Ground.phase },{ on:=8,ground:=Ground.phase },{ on:=9,ground:=Ground.phase },{ on:=10,ground:=Ground.phase },{ on:=11,ground:=Ground.phase },{ on:=12,ground:=Ground.phase },{ on:=13,ground:=Ground.phase },{ on:=14,ground:=Ground.phase }],guard:=none }) rfl (fun K hK=>?_) AllReadyH.nil
      go_simp
      refine hK.out _ _ hHeld15 (fun hHeldA=>?_)
      clear hK K
      refine wpAnyH_ready (rs:=[16]) (by kernel_rfl) (by simp) ?_
      refine AllReadyH.cons (o:={ dst:=some 32,op:=Op.fieldAddr 81 (Operand.tmp 31) 1,type:=0,pos:="item.go:35",after:=#[{ on:=15,ground:=Ground.data },{ on:=0,ground:=Ground.phase },{ on:=1,ground:=Ground.phase },{ on:=2,ground:=Ground.phase },{ on:=3,ground:=Ground.phase },{ on:=4,ground:=Ground.phase },{ on:=5,ground:=Ground.phase },{ on:=6,ground:=Ground.phase },{ on:=7,ground:=Ground.phase },{ on:=8,ground:=Ground.phase },{ on:=9,ground:=Ground.phase },{ on:=10,ground:=Ground.phase },{ on:=11,ground:=Ground.phase },{ on:=12,ground:=Ground.phase },{ on:=13,ground:=Ground.phase },{ on:=14,ground:=Ground.phase }],guard:=none }) rfl (fun K hK=>?_) AllReadyH.nil
      go_simp
      refine hK.out _ _ hHeldA (fun hHeldB=>?_)
      clear hK K
      refine wpAnyH_ready (rs:=[17]) (by kernel_rfl) (by simp) ?_
      refine AllReadyH.cons (o:={ dst:=none,op:=Op.store 79 (Operand.tmp 32) (Operand.tmp 30),type:=0,pos:="item.go:35",after:=#[{ on:=16,ground:=Ground.data },{ on:=14,ground:=Ground.data },{ on:=14,ground:=Ground.chain },{ on:=0,ground:=Ground.phase },{ on:=1,ground:=Ground.phase },{ on:=2,ground:=Ground.phase },{ on:=3,ground:=Ground.phase },{ on:=4,ground:=Ground.phase },{ on:=5,ground:=Ground.phase },{ on:=6,ground:=Ground.phase },{ on:=7,ground:=Ground.phase },{ on:=8,ground:=Ground.phase },{ on:=9,ground:=Ground.phase },{ on:=10,ground:=Ground.phase },{ on:=11,ground:=Ground.phase },{ on:=12,ground:=Ground.phase },{ on:=13,ground:=Ground.phase },{ on:=14,ground:=Ground.phase }],guard:=none }) rfl (fun K hK=>?_) AllReadyH.nil
      have k7:=B5.at.keys
      have f7:=B5.frozen 7
      go_simp
      have hne7:eb≠cb:=by have:=Heb.out;have:=Hlt.out;omega
      refine hK.out _ _ (hHeldB.keep (fun j v hj q=>(World.cell?_setCell_other _ _ _ _ (fun e=>by injection e with _ e2;omega)).trans q) (fun j v q=>(World.cell?_setCell_far W5 ⟨cb,7,none⟩ ⟨eb,j,none⟩ _ (fun e=>hne7 e.symm)).trans q)) (fun _=>?_)
      clear hK K k7 f7 hHeldA hHeldB hHeld15
      refine wpAnyH_done (by kernel_rfl) ?_ _
      have HB5:=Lib.hid B5
      clear B5
      go_wp2
      obtain⟨zu,hzu⟩:=HZU.out
      have gge:∀ g,kv.ownBlock=some g→V.heap.size≤g:=fun g e=>(HNE.out g e).1
      have hq5:Kq (fun b=>b=cb) V (W5.setCell ⟨cb,7,none⟩ (.slice (some ⟨g,0,none⟩) (k+1) cap)):=Kq.shrink ((((HQU.out.mono fun b h=>.inl h).trans (by rw [hz15];exact Kq.plus _ U z15)).trans (Kq.grown G3.out fun g e=>.inr (gge g e))).trans (Kq.setCell W5 ⟨cb,7,none⟩ _ (.inl rfl)))
      have hVw:w0.heap.size≤V.heap.size:=by obtain⟨z,hz⟩:=hV'.out;rw [hz];exact size_plus w0 z
      refine⟨⟨k+1,hlt,congrArg (Value.int .i64) a6.out,?_,hq5,_,HB5.out.set _,?_,fun j y hj hy=>?_⟩,step_less k n hlt a6.out⟩
      ·obtain⟨z,hz⟩:=hV'.out
       refine plus_of_below (Below.trans (b:=V) (by rw [hz];exact below_plus w0 z) (hq5.low _ hVw (fun b h=>by have:=hcb'.out;omega)))
      ·have q:=own_keep G2.out (W':=W5.setCell ⟨cb,7,none⟩ (.slice (some ⟨g,0,none⟩) (k+1) cap)) (fun b cur hb _ _=>Below.heap_setCell _ _ _ b (by have:=Hlt.out;simp only;omega))
       rw [List.take_add_one,hx'.out]
       simp only [Option.toList_some,List.map_append,List.map_cons,List.map_nil,List.flatten_append,List.flatten_cons,List.flatten_nil,List.append_nil,HKW.out,iCells]
       exact q
      ·by_cases hjk:j < k
       ·exact hJ'.out j y hjk hy
       ·obtain rfl:j=k:=by omega
        rw [hx'.out] at hy
        obtain rfl:=Option.some.inj hy
        rw [HKT.out]
        exact q0
     refine AllReadyH.cons (o:={ dst:=some 27,op:=Op.call { callee:=Callee.value (Operand.func 28),args:=#[Operand.tmp 25,Operand.tmp 26],argTypes:=#[90,45] },type:=75,pos:="item.go:35",after:=#[{ on:=9,ground:=Ground.data },{ on:=10,ground:=Ground.data }],guard:=none }) rfl (fun K hK=>?_) AllReadyH.nil
     go_simp
     refine (qt.out U0 hp).mono ?_
     rintro r w' ⟨rfl,x16,hx16⟩
     have hp16:∃ z,w'=plus U z:=by rw [hx16];exact up_plus hp x16
     refine hK.out _ _ (by rw [hx16];exact hHeld.plus x16) (fun hHeld16=>?_)
     clear hK K hx16
     obtain⟨U16,hU16⟩:∃ W,w'=W:=⟨_,rfl⟩
     rw [hU16] at hHeld16 hp16 ⊢
     clear hU16
     refine wpAnyH_ready (rs:=[4,12]) (by kernel_rfl) (by simp) ?_
     refine AllReadyH.cons (o:={ dst:=some 20,op:=Op.load 79 (Operand.tmp 19),type:=79,pos:="item.go:35",after:=#[{ on:=3,ground:=Ground.data }],guard:=none }) rfl (fun K hK=>?_) ?_
     ·have k7:U16.cell? ⟨cb,7,none⟩=some kv:=by obtain⟨z,hz⟩:=hp16;rw [hz];exact (HBU.out.plus z).at.keys
      go_simp
      refine hK.out _ _ hHeld16 (fun hHeld17=>?_)
      clear hK K k7
      refine wpAnyH_ready (rs:=[12]) (by kernel_rfl) (by simp) ?_
      refine AllReadyH.cons (o:={ dst:=some 28,op:=Op.call { callee:=Callee.value (Operand.func 49),args:=#[Operand.tmp 27],argTypes:=#[75] },type:=3,pos:="item.go:35",after:=#[{ on:=11,ground:=Ground.data },{ on:=11,ground:=Ground.chain }],guard:=none }) rfl (fun K hK=>?_) AllReadyH.nil
      go_simp
      refine (qw.out U16 hp16).mono ?_
      rintro r w' ⟨rfl,x18,hx18⟩
      have hp18:∃ z,w'=plus U z:=by rw [hx18];exact up_plus hp16 x18
      refine hK.out _ _ (by rw [hx18];exact hHeld17.plus x18) (fun hHeld18=>?_)
      clear hK K hx18
      obtain⟨U18,hU18⟩:∃ W,w'=W:=⟨_,rfl⟩
      rw [hU18] at hHeld18 hp18 ⊢
      clear hU18
      refine wpAnyH_ready (rs:=[13]) (by kernel_rfl) (by simp) ?_
      refine AllReadyH.cons (o:={ dst:=some 29,op:=Op.buildSlice 79 1 #[(0,Operand.tmp 28)],type:=79,pos:="item.go:35",after:=#[{ on:=12,ground:=Ground.data }],guard:=none }) rfl (fun K hK=>?_) AllReadyH.nil
      go_simp
      have hp19:∃ z,U18.alloc (.cells #[.int .i64 t.w] 3)=plus U z:=up_alloc hp18 _
      refine hK.out _ _ (hHeld18.keep (fun j v _ q=>cell_alloc q _) (fun j v q=>cell_alloc q _)) (fun hHeld19=>?_)
      clear hK K
      have hN:=World.alloc_heap_new U18 (.cells #[.int .i64 t.w] 3)
      obtain⟨nb,hnb⟩:∃ b,U18.heap.size=b:=⟨_,rfl⟩
      obtain⟨U19,hU19⟩:∃ W,U18.alloc (.cells #[.int .i64 t.w] 3)=W:=⟨_,rfl⟩
      rw [hnb,hU19] at hN
      rw [hU19] at hHeld19 hp19
      rw [hnb,hU19]
      clear hU19 hnb
      refine wpAnyH_ready (rs:=[14]) (by kernel_rfl) (by simp) ?_
      refine AllReadyH.cons (o:={ dst:=some 30,op:=Op.call { callee:=Callee.builtin Builtin.append,args:=#[Operand.tmp 20,Operand.tmp 29],argTypes:=#[79,79] },type:=79,pos:="item.go:35",after:=#[{ on:=4,ground:=Ground.data },{ on:=13,ground:=Ground.data },{ on:=12,ground:=Ground.chain }],guard:=none }) rfl (fun K hK=>?_) AllReadyH.nil
      obtain⟨z20,hz20⟩:=hp19
      have hO20:=own_plus HOU.out z20
      have hB20:=HBU.out.plus z20
      have hS20:V.heap.size≤U19.heap.size:=by rw [hz20];have:=size_plus U z20;have:=Heb.out;omega
      have hI20:cb < U19.heap.size:=by have:=Hlt.out;omega
      have hJ20:eb < U19.heap.size:=by rw [hz20];have:=size_plus U z20;have:=Heb.out;omega
      rw [← hz20] at hO20 hB20
      obtain⟨i0,hi0,hi1,hi2,hi3⟩:=info_parts int_info
      refine step_append_lies _ rfl (.tmp 20) (.tmp 29) 79 rfl V.heap.size 3 i0 _ 1 8 Tryz.underlying79 hi0 hi1 hi2 hi3 rfl (by decide) kv k _ (by simp [Act.eval]) hO20 ⟨nb,0,none⟩ 1 1 [.int .i64 t.w] (by simp [Act.eval]) rfl (World.news_of_block hN) (fun u hu=>by simp at hu;subst hu;rfl) (by decide) (by have:=hn'.out;simp only [maxLen];omega) (by have:=hn'.out;omega) hS20 _ rfl ?_
      intro g cap W5 g2 g3 _ _
      have ne5:∀ a:Addr,a.block=cb∨a.block=eb→some a.block≠kv.ownBlock:=fun a ha e=>by
       obtain⟨h1,h2⟩:=HNE.out _ e.symm
       have:=Hlt.out
       rcases ha with ha | ha <;> omega
      refine hK.out _ _ (hHeld19.keep (fun j v _ q=>(g3.cell_far _ hI20 (ne5 _ (.inl rfl))).trans q) (fun j v q=>(g3.cell_far _ hJ20 (ne5 _ (.inr rfl))).trans q)) (fun hHeld20=>?_)
      clear hK K
      have B5:BoxC W5 cb p kv:=(g3.block cb hI20 (ne5 ⟨cb,0,none⟩ (.inl rfl))).trans hB20
      have G2:=Lib.hid g2
      have G3:=Lib.hid g3
      clear g2 g3 hO20 hB20
      refine wpAnyH_ready (rs:=[15]) (by kernel_rfl) (by simp) ?_
      refine AllReadyH.cons (o:={ dst:=some 31,op:=Op.nilCheck (Operand.tmp 16),type:=0,pos:="item.go:35",after:=#[{ on:=0,ground:=Ground.data },{ on:=0,ground:=Ground.phase },{ on:=1,ground:=Ground.phase },{ on:=2,ground:=Ground.phase },{ on:=3,ground:=Ground.phase },{ on:=4,ground:=Ground.phase },{ on:=5,ground:=Ground.phase },{ on:=6,ground:=Ground.phase },{ on:=7,ground:=Ground.phase },{ on:=8,ground:=Ground.phase },{ on:=9,ground:=Ground.phase },{ on:=10,ground:=Ground.phase },{ on:=11,ground:=Ground.phase },{ on:=12,ground:=Ground.phase },{ on:=13,ground:=Ground.phase },{ on:=14,ground:=Ground.phase }],guard:=none }) rfl (fun K hK=>?_) AllReadyH.nil
      go_simp
      refine hK.out _ _ hHeld20 (fun hHeldA=>?_)
      clear hK K
      refine wpAnyH_ready (rs:=[16]) (by kernel_rfl) (by simp) ?_
      refine AllReadyH.cons (o:={ dst:=some 32,op:=Op.fieldAddr 81 (Operand.tmp 31) 1,type:=0,pos:="item.go:35",after:=#[{ on:=15,ground:=Ground.data },{ on:=0,ground:=Ground.phase },{ on:=1,ground:=Ground.phase },{ on:=2,ground:=Ground.phase },{ on:=3,ground:=Ground.phase },{ on:=4,ground:=Ground.phase },{ on:=5,ground:=Ground.phase },{ on:=6,ground:=Ground.phase },{ on:=7,ground:=Ground.phase },{ on:=8,ground:=Ground.phase },{ on:=9,ground:=Ground.phase },{ on:=10,ground:=Ground.phase },{ on:=11,ground:=Ground.phase },{ on:=12,ground:=Ground.phase },{ on:=13,ground:=Ground.phase },{ on:=14,ground:=Ground.phase }],guard:=none }) rfl (fun K hK=>?_) AllReadyH.nil
      go_simp
      refine hK.out _ _ hHeldA (fun hHeldB=>?_)
      clear hK K
      refine wpAnyH_ready (rs:=[17]) (by kernel_rfl) (by simp) ?_
      refine AllReadyH.cons (o:={ dst:=none,op:=Op.store 79 (Operand.tmp 32) (Operand.tmp 30),type:=0,pos:="item.go:35",after:=#[{ on:=16,ground:=Ground.data },{ on:=14,ground:=Ground.data },{ on:=14,ground:=Ground.chain },{ on:=0,ground:=Ground.phase },{ on:=1,ground:=Ground.phase },{ on:=2,ground:=Ground.phase },{ on:=3,ground:=Ground.phase },{ on:=4,ground:=Ground.phase },{ on:=5,ground:=Ground.phase },{ on:=6,ground:=Ground.phase },{ on:=7,ground:=Ground.phase },{ on:=8,ground:=Ground.phase },{ on:=9,ground:=Ground.phase },{ on:=10,ground:=Ground.phase },{ on:=11,ground:=Ground.phase },{ on:=12,ground:=Ground.phase },{ on:=13,ground:=Ground.phase },{ on:=14,ground:=Ground.phase }],guard:=none }) rfl (fun K hK=>?_) AllReadyH.nil
      have k7:=B5.at.keys
      have f7:=B5.frozen 7
      go_simp
      have hne7:eb≠cb:=by have:=Heb.out;have:=Hlt.out;omega
      refine hK.out _ _ (hHeldB.keep (fun j v hj q=>(World.cell?_setCell_other _ _ _ _ (fun e=>by injection e with _ e2;omega)).trans q) (fun j v q=>(World.cell?_setCell_far W5 ⟨cb,7,none⟩ ⟨eb,j,none⟩ _ (fun e=>hne7 e.symm)).trans q)) (fun _=>?_)
      clear hK K k7 f7 hHeldA hHeldB hHeld20
      refine wpAnyH_done (by kernel_rfl) ?_ _
      have HB5:=Lib.hid B5
      clear B5
      go_wp2
      obtain⟨zu,hzu⟩:=HZU.out
      have gge:∀ g,kv.ownBlock=some g→V.heap.size≤g:=fun g e=>(HNE.out g e).1
      have hq5:Kq (fun b=>b=cb) V (W5.setCell ⟨cb,7,none⟩ (.slice (some ⟨g,0,none⟩) (k+1) cap)):=Kq.shrink ((((HQU.out.mono fun b h=>.inl h).trans (by rw [hz20];exact Kq.plus _ U z20)).trans (Kq.grown G3.out fun g e=>.inr (gge g e))).trans (Kq.setCell W5 ⟨cb,7,none⟩ _ (.inl rfl)))
      have hVw:w0.heap.size≤V.heap.size:=by obtain⟨z,hz⟩:=hV'.out;rw [hz];exact size_plus w0 z
      refine⟨⟨k+1,hlt,congrArg (Value.int .i64) a6.out,?_,hq5,_,HB5.out.set _,?_,fun j y hj hy=>?_⟩,step_less k n hlt a6.out⟩
      ·obtain⟨z,hz⟩:=hV'.out
       refine plus_of_below (Below.trans (b:=V) (by rw [hz];exact below_plus w0 z) (hq5.low _ hVw (fun b h=>by have:=hcb'.out;omega)))
      ·have q:=own_keep G2.out (W':=W5.setCell ⟨cb,7,none⟩ (.slice (some ⟨g,0,none⟩) (k+1) cap)) (fun b cur hb _ _=>Below.heap_setCell _ _ _ b (by have:=Hlt.out;simp only;omega))
       rw [List.take_add_one,hx'.out]
       simp only [Option.toList_some,List.map_append,List.map_cons,List.map_nil,List.flatten_append,List.flatten_cons,List.flatten_nil,List.append_nil,HKW.out,iCells]
       exact q
      ·by_cases hjk:j < k
       ·exact hJ'.out j y hjk hy
       ·obtain rfl:j=k:=by omega
        rw [hx'.out] at hy
        obtain rfl:=Option.some.inj hy
        rw [HKT.out]
        exact q0
     refine AllReadyH.cons (o:={ dst:=some 28,op:=Op.call { callee:=Callee.value (Operand.func 49),args:=#[Operand.tmp 27],argTypes:=#[75] },type:=3,pos:="item.go:35",after:=#[{ on:=11,ground:=Ground.data },{ on:=11,ground:=Ground.chain }],guard:=none }) rfl (fun K hK=>?_) AllReadyH.nil
     go_simp
     refine (qw.out U16 hp16).mono ?_
     rintro r w' ⟨rfl,x21,hx21⟩
     have hp21:∃ z,w'=plus U z:=by rw [hx21];exact up_plus hp16 x21
     refine hK.out _ _ (by rw [hx21];exact hHeld16.plus x21) (fun hHeld21=>?_)
     clear hK K hx21
     obtain⟨U21,hU21⟩:∃ W,w'=W:=⟨_,rfl⟩
     rw [hU21] at hHeld21 hp21 ⊢
     clear hU21
     refine wpAnyH_ready (rs:=[4,13]) (by kernel_rfl) (by simp) ?_
     refine AllReadyH.cons (o:={ dst:=some 20,op:=Op.load 79 (Operand.tmp 19),type:=79,pos:="item.go:35",after:=#[{ on:=3,ground:=Ground.data }],guard:=none }) rfl (fun K hK=>?_) ?_
     ·have k7:U21.cell? ⟨cb,7,none⟩=some kv:=by obtain⟨z,hz⟩:=hp21;rw [hz];exact (HBU.out.plus z).at.keys
      go_simp
      refine hK.out _ _ hHeld21 (fun hHeld22=>?_)
      clear hK K k7
      refine wpAnyH_ready (rs:=[13]) (by kernel_rfl) (by simp) ?_
      refine AllReadyH.cons (o:={ dst:=some 29,op:=Op.buildSlice 79 1 #[(0,Operand.tmp 28)],type:=79,pos:="item.go:35",after:=#[{ on:=12,ground:=Ground.data }],guard:=none }) rfl (fun K hK=>?_) AllReadyH.nil
      go_simp
      have hp23:∃ z,U21.alloc (.cells #[.int .i64 t.w] 3)=plus U z:=up_alloc hp21 _
      refine hK.out _ _ (hHeld22.keep (fun j v _ q=>cell_alloc q _) (fun j v q=>cell_alloc q _)) (fun hHeld23=>?_)
      clear hK K
      have hN:=World.alloc_heap_new U21 (.cells #[.int .i64 t.w] 3)
      obtain⟨nb,hnb⟩:∃ b,U21.heap.size=b:=⟨_,rfl⟩
      obtain⟨U23,hU23⟩:∃ W,U21.alloc (.cells #[.int .i64 t.w] 3)=W:=⟨_,rfl⟩
      rw [hnb,hU23] at hN
      rw [hU23] at hHeld23 hp23
      rw [hnb,hU23]
      clear hU23 hnb
      refine wpAnyH_ready (rs:=[14]) (by kernel_rfl) (by simp) ?_
      refine AllReadyH.cons (o:={ dst:=some 30,op:=Op.call { callee:=Callee.builtin Builtin.append,args:=#[Operand.tmp 20,Operand.tmp 29],argTypes:=#[79,79] },type:=79,pos:="item.go:35",after:=#[{ on:=4,ground:=Ground.data },{ on:=13,ground:=Ground.data },{ on:=12,ground:=Ground.chain }],guard:=none }) rfl (fun K hK=>?_) AllReadyH.nil
      obtain⟨z24,hz24⟩:=hp23
      have hO24:=own_plus HOU.out z24
      have hB24:=HBU.out.plus z24
      have hS24:V.heap.size≤U23.heap.size:=by rw [hz24];have:=size_plus U z24;have:=Heb.out;omega
      have hI24:cb < U23.heap.size:=by have:=Hlt.out;omega
      have hJ24:eb < U23.heap.size:=by rw [hz24];have:=size_plus U z24;have:=Heb.out;omega
      rw [← hz24] at hO24 hB24
      obtain⟨i0,hi0,hi1,hi2,hi3⟩:=info_parts int_info
      refine step_append_lies _ rfl (.tmp 20) (.tmp 29) 79 rfl V.heap.size 3 i0 _ 1 8 Tryz.underlying79 hi0 hi1 hi2 hi3 rfl (by decide) kv k _ (by simp [Act.eval]) hO24 ⟨nb,0,none⟩ 1 1 [.int .i64 t.w] (by simp [Act.eval]) rfl (World.news_of_block hN) (fun u hu=>by simp at hu;subst hu;rfl) (by decide) (by have:=hn'.out;simp only [maxLen];omega) (by have:=hn'.out;omega) hS24 _ rfl ?_
      intro g cap W5 g2 g3 _ _
      have ne5:∀ a:Addr,a.block=cb∨a.block=eb→some a.block≠kv.ownBlock:=fun a ha e=>by
       obtain⟨h1,h2⟩:=HNE.out _ e.symm
       have:=Hlt.out
       rcases ha with ha | ha <;> omega
      refine hK.out _ _ (hHeld23.keep (fun j v _ q=>(g3.cell_far _ hI24 (ne5 _ (.inl rfl))).trans q) (fun j v q=>(g3.cell_far _ hJ24 (ne5 _ (.inr rfl))).trans q)) (fun hHeld24=>?_)
      clear hK K
      have B5:BoxC W5 cb p kv:=(g3.block cb hI24 (ne5 ⟨cb,0,none⟩ (.inl rfl))).trans hB24
      have G2:=Lib.hid g2
      have G3:=Lib.hid g3
      clear g2 g3 hO24 hB24
      refine wpAnyH_ready (rs:=[15]) (by kernel_rfl) (by simp) ?_
      refine AllReadyH.cons (o:={ dst:=some 31,op:=Op.nilCheck (Operand.tmp 16),type:=0,pos:="item.go:35",after:=#[{ on:=0,ground:=Ground.data },{ on:=0,ground:=Ground.phase },{ on:=1,ground:=Ground.phase },{ on:=2,ground:=Ground.phase },{ on:=3,ground:=Ground.phase },{ on:=4,ground:=Ground.phase },{ on:=5,ground:=Ground.phase },{ on:=6,ground:=Ground.phase },{ on:=7,ground:=Ground.phase },{ on:=8,ground:=Ground.phase },{ on:=9,ground:=Ground.phase },{ on:=10,ground:=Ground.phase },{ on:=11,ground:=Ground.phase },{ on:=12,ground:=Ground.phase },{ on:=13,ground:=Ground.phase },{ on:=14,ground:=Ground.phase }],guard:=none }) rfl (fun K hK=>?_) AllReadyH.nil
      go_simp
      refine hK.out _ _ hHeld24 (fun hHeldA=>?_)
      clear hK K
      refine wpAnyH_ready (rs:=[16]) (by kernel_rfl) (by simp) ?_
      refine AllReadyH.cons (o:={ dst:=some 32,op:=Op.fieldAddr 81 (Operand.tmp 31) 1,type:=0,pos:="item.go:35",after:=#[{ on:=15,ground:=Ground.data },{ on:=0,ground:=Ground.phase },{ on:=1,ground:=Ground.phase },{ on:=2,ground:=Ground.phase },{ on:=3,ground:=Ground.phase },{ on:=4,ground:=Ground.phase },{ on:=5,ground:=Ground.phase },{ on:=6,ground:=Ground.phase },{ on:=7,ground:=Ground.phase },{ on:=8,ground:=Ground.phase },{ on:=9,ground:=Ground.phase },{ on:=10,ground:=Ground.phase },{ on:=11,ground:=Ground.phase },{ on:=12,ground:=Ground.phase },{ on:=13,ground:=Ground.phase },{ on:=14,ground:=Ground.phase }],guard:=none }) rfl (fun K hK=>?_) AllReadyH.nil
      go_simp
      refine hK.out _ _ hHeldA (fun hHeldB=>?_)
      clear hK K
      refine wpAnyH_ready (rs:=[17]) (by kernel_rfl) (by simp) ?_
      refine AllReadyH.cons (o:={ dst:=none,op:=Op.store 79 (Operand.tmp 32) (Operand.tmp 30),type:=0,pos:="item.go:35",after:=#[{ on:=16,ground:=Ground.data },{ on:=14,ground:=Ground.data },{ on:=14,ground:=Ground.chain },{ on:=0,ground:=Ground.phase },{ on:=1,ground:=Ground.phase },{ on:=2,ground:=Ground.phase },{ on:=3,ground:=Ground.phase },{ on:=4,ground:=Ground.phase },{ on:=5,ground:=Ground.phase },{ on:=6,ground:=Ground.phase },{ on:=7,ground:=Ground.phase },{ on:=8,ground:=Ground.phase },{ on:=9,ground:=Ground.phase },{ on:=10,ground:=Ground.phase },{ on:=11,ground:=Ground.phase },{ on:=12,ground:=Ground.phase },{ on:=13,ground:=Ground.phase },{ on:=14,ground:=Ground.phase }],guard:=none }) rfl (fun K hK=>?_) AllReadyH.nil
      have k7:=B5.at.keys
      have f7:=B5.frozen 7
      go_simp
      have hne7:eb≠cb:=by have:=Heb.out;have:=Hlt.out;omega
      refine hK.out _ _ (hHeldB.keep (fun j v hj q=>(World.cell?_setCell_other _ _ _ _ (fun e=>by injection e with _ e2;omega)).trans q) (fun j v q=>(World.cell?_setCell_far W5 ⟨cb,7,none⟩ ⟨eb,j,none⟩ _ (fun e=>hne7 e.symm)).trans q)) (fun _=>?_)
      clear hK K k7 f7 hHeldA hHeldB hHeld24
      refine wpAnyH_done (by kernel_rfl) ?_ _
      have HB5:=Lib.hid B5
      clear B5
      go_wp2
      obtain⟨zu,hzu⟩:=HZU.out
      have gge:∀ g,kv.ownBlock=some g→V.heap.size≤g:=fun g e=>(HNE.out g e).1
      have hq5:Kq (fun b=>b=cb) V (W5.setCell ⟨cb,7,none⟩ (.slice (some ⟨g,0,none⟩) (k+1) cap)):=Kq.shrink ((((HQU.out.mono fun b h=>.inl h).trans (by rw [hz24];exact Kq.plus _ U z24)).trans (Kq.grown G3.out fun g e=>.inr (gge g e))).trans (Kq.setCell W5 ⟨cb,7,none⟩ _ (.inl rfl)))
      have hVw:w0.heap.size≤V.heap.size:=by obtain⟨z,hz⟩:=hV'.out;rw [hz];exact size_plus w0 z
      refine⟨⟨k+1,hlt,congrArg (Value.int .i64) a6.out,?_,hq5,_,HB5.out.set _,?_,fun j y hj hy=>?_⟩,step_less k n hlt a6.out⟩
      ·obtain⟨z,hz⟩:=hV'.out
       refine plus_of_below (Below.trans (b:=V) (by rw [hz];exact below_plus w0 z) (hq5.low _ hVw (fun b h=>by have:=hcb'.out;omega)))
      ·have q:=own_keep G2.out (W':=W5.setCell ⟨cb,7,none⟩ (.slice (some ⟨g,0,none⟩) (k+1) cap)) (fun b cur hb _ _=>Below.heap_setCell _ _ _ b (by have:=Hlt.out;simp only;omega))
       rw [List.take_add_one,hx'.out]
       simp only [Option.toList_some,List.map_append,List.map_cons,List.map_nil,List.flatten_append,List.flatten_cons,List.flatten_nil,List.append_nil,HKW.out,iCells]
       exact q
      ·by_cases hjk:j < k
       ·exact hJ'.out j y hjk hy
       ·obtain rfl:j=k:=by omega
        rw [hx'.out] at hy
        obtain rfl:=Option.some.inj hy
        rw [HKT.out]
        exact q0
     refine AllReadyH.cons (o:={ dst:=some 29,op:=Op.buildSlice 79 1 #[(0,Operand.tmp 28)],type:=79,pos:="item.go:35",after:=#[{ on:=12,ground:=Ground.data }],guard:=none }) rfl (fun K hK=>?_) AllReadyH.nil
     go_simp
     have hp25:∃ z,U21.alloc (.cells #[.int .i64 t.w] 3)=plus U z:=up_alloc hp21 _
     refine hK.out _ _ (hHeld21.keep (fun j v _ q=>cell_alloc q _) (fun j v q=>cell_alloc q _)) (fun hHeld25=>?_)
     clear hK K
     have hN:=World.alloc_heap_new U21 (.cells #[.int .i64 t.w] 3)
     obtain⟨nb,hnb⟩:∃ b,U21.heap.size=b:=⟨_,rfl⟩
     obtain⟨U25,hU25⟩:∃ W,U21.alloc (.cells #[.int .i64 t.w] 3)=W:=⟨_,rfl⟩
     rw [hnb,hU25] at hN
     rw [hU25] at hHeld25 hp25
     rw [hnb,hU25]
     clear hU25 hnb
     refine wpAnyH_ready (rs:=[4]) (by kernel_rfl) (by simp) ?_
     refine AllReadyH.cons (o:={ dst:=some 20,op:=Op.load 79 (Operand.tmp 19),type:=79,pos:="item.go:35",after:=#[{ on:=3,ground:=Ground.data }],guard:=none }) rfl (fun K hK=>?_) AllReadyH.nil
     have k7:U25.cell? ⟨cb,7,none⟩=some kv:=by obtain⟨z,hz⟩:=hp25;rw [hz];exact (HBU.out.plus z).at.keys
     go_simp
     refine hK.out _ _ hHeld25 (fun hHeld26=>?_)
     clear hK K k7
     refine wpAnyH_ready (rs:=[14]) (by kernel_rfl) (by simp) ?_
     refine AllReadyH.cons (o:={ dst:=some 30,op:=Op.call { callee:=Callee.builtin Builtin.append,args:=#[Operand.tmp 20,Operand.tmp 29],argTypes:=#[79,79] },type:=79,pos:="item.go:35",after:=#[{ on:=4,ground:=Ground.data },{ on:=13,ground:=Ground.data },{ on:=12,ground:=Ground.chain }],guard:=none }) rfl (fun K hK=>?_) AllReadyH.nil
     obtain⟨z27,hz27⟩:=hp25
     have hO27:=own_plus HOU.out z27
     have hB27:=HBU.out.plus z27
     have hS27:V.heap.size≤U25.heap.size:=by rw [hz27];have:=size_plus U z27;have:=Heb.out;omega
     have hI27:cb < U25.heap.size:=by have:=Hlt.out;omega
     have hJ27:eb < U25.heap.size:=by rw [hz27];have:=size_plus U z27;have:=Heb.out;omega
     rw [← hz27] at hO27 hB27
     obtain⟨i0,hi0,hi1,hi2,hi3⟩:=info_parts int_info
     refine step_append_lies _ rfl (.tmp 20) (.tmp 29) 79 rfl V.heap.size 3 i0 _ 1 8 Tryz.underlying79 hi0 hi1 hi2 hi3 rfl (by decide) kv k _ (by simp [Act.eval]) hO27 ⟨nb,0,none⟩ 1 1 [.int .i64 t.w] (by simp [Act.eval]) rfl (World.news_of_block hN) (fun u hu=>by simp at hu;subst hu;rfl) (by decide) (by have:=hn'.out;simp only [maxLen];omega) (by have:=hn'.out;omega) hS27 _ rfl ?_
     intro g cap W5 g2 g3 _ _
     have ne5:∀ a:Addr,a.block=cb∨a.block=eb→some a.block≠kv.ownBlock:=fun a ha e=>by
      obtain⟨h1,h2⟩:=HNE.out _ e.symm
      have:=Hlt.out
      rcases ha with ha | ha <;> omega
     refine hK.out _ _ (hHeld26.keep (fun j v _ q=>(g3.cell_far _ hI27 (ne5 _ (.inl rfl))).trans q) (fun j v q=>(g3.cell_far _ hJ27 (ne5 _ (.inr rfl))).trans q)) (fun hHeld27=>?_)
     clear hK K
     have B5:BoxC W5 cb p kv:=(g3.block cb hI27 (ne5 ⟨cb,0,none⟩ (.inl rfl))).trans hB27
     have G2:=Lib.hid g2
     have G3:=Lib.hid g3
     clear g2 g3 hO27 hB27
     refine wpAnyH_ready (rs:=[15]) (by kernel_rfl) (by simp) ?_
     refine AllReadyH.cons (o:={ dst:=some 31,op:=Op.nilCheck (Operand.tmp 16),type:=0,pos:="item.go:35",after:=#[{ on:=0,ground:=Ground.data },{ on:=0,ground:=Ground.phase },{ on:=1,ground:=Ground.phase },{ on:=2,ground:=Ground.phase },{ on:=3,ground:=Ground.phase },{ on:=4,ground:=Ground.phase },{ on:=5,ground:=Ground.phase },{ on:=6,ground:=Ground.phase },{ on:=7,ground:=Ground.phase },{ on:=8,ground:=Ground.phase },{ on:=9,ground:=Ground.phase },{ on:=10,ground:=Ground.phase },{ on:=11,ground:=Ground.phase },{ on:=12,ground:=Ground.phase },{ on:=13,ground:=Ground.phase },{ on:=14,ground:=Ground.phase }],guard:=none }) rfl (fun K hK=>?_) AllReadyH.nil
     go_simp
     refine hK.out _ _ hHeld27 (fun hHeldA=>?_)
     clear hK K
     refine wpAnyH_ready (rs:=[16]) (by kernel_rfl) (by simp) ?_
     refine AllReadyH.cons (o:={ dst:=some 32,op:=Op.fieldAddr 81 (Operand.tmp 31) 1,type:=0,pos:="item.go:35",after:=#[{ on:=15,ground:=Ground.data },{ on:=0,ground:=Ground.phase },{ on:=1,ground:=Ground.phase },{ on:=2,ground:=Ground.phase },{ on:=3,ground:=Ground.phase },{ on:=4,ground:=Ground.phase },{ on:=5,ground:=Ground.phase },{ on:=6,ground:=Ground.phase },{ on:=7,ground:=Ground.phase },{ on:=8,ground:=Ground.phase },{ on:=9,ground:=Ground.phase },{ on:=10,ground:=Ground.phase },{ on:=11,ground:=Ground.phase },{ on:=12,ground:=Ground.phase },{ on:=13,ground:=Ground.phase },{ on:=14,ground:=Ground.phase }],guard:=none }) rfl (fun K hK=>?_) AllReadyH.nil
     go_simp
     refine hK.out _ _ hHeldA (fun hHeldB=>?_)
     clear hK K
     refine wpAnyH_ready (rs:=[17]) (by kernel_rfl) (by simp) ?_
     refine AllReadyH.cons (o:={ dst:=none,op:=Op.store 79 (Operand.tmp 32) (Operand.tmp 30),type:=0,pos:="item.go:35",after:=#[{ on:=16,ground:=Ground.data },{ on:=14,ground:=Ground.data },{ on:=14,ground:=Ground.chain },{ on:=0,ground:=Ground.phase },{ on:=1,ground:=Ground.phase },{ on:=2,ground:=Ground.phase },{ on:=3,ground:=Ground.phase },{ on:=4,ground:=Ground.phase },{ on:=5,ground:=Ground.phase },{ on:=6,ground:=Ground.phase },{ on:=7,ground:=Ground.phase },{ on:=8,ground:=Ground.phase },{ on:=9,ground:=Ground.phase },{ on:=10,ground:=Ground.phase },{ on:=11,ground:=Ground.phase },{ on:=12,ground:=Ground.phase },{ on:=13,ground:=Ground.phase },{ on:=14,ground:=Ground.phase }],guard:=none }) rfl (fun K hK=>?_) AllReadyH.nil
     have k7:=B5.at.keys
     have f7:=B5.frozen 7
     go_simp
     have hne7:eb≠cb:=by have:=Heb.out;have:=Hlt.out;omega
     refine hK.out _ _ (hHeldB.keep (fun j v hj q=>(World.cell?_setCell_other _ _ _ _ (fun e=>by injection e with _ e2;omega)).trans q) (fun j v q=>(World.cell?_setCell_far W5 ⟨cb,7,none⟩ ⟨eb,j,none⟩ _ (fun e=>hne7 e.symm)).trans q)) (fun _=>?_)
     clear hK K k7 f7 hHeldA hHeldB hHeld27
     refine wpAnyH_done (by kernel_rfl) ?_ _
     have HB5:=Lib.hid B5
     clear B5
     go_wp2
     obtain⟨zu,hzu⟩:=HZU.out
     have gge:∀ g,kv.ownBlock=some g→V.heap.size≤g:=fun g e=>(HNE.out g e).1
     have hq5:Kq (fun b=>b=cb) V (W5.setCell ⟨cb,7,none⟩ (.slice (some ⟨g,0,none⟩) (k+1) cap)):=Kq.shrink ((((HQU.out.mono fun b h=>.inl h).trans (by rw [hz27];exact Kq.plus _ U z27)).trans (Kq.grown G3.out fun g e=>.inr (gge g e))).trans (Kq.setCell W5 ⟨cb,7,none⟩ _ (.inl rfl)))
     have hVw:w0.heap.size≤V.heap.size:=by obtain⟨z,hz⟩:=hV'.out;rw [hz];exact size_plus w0 z
     refine⟨⟨k+1,hlt,congrArg (Value.int .i64) a6.out,?_,hq5,_,HB5.out.set _,?_,fun j y hj hy=>?_⟩,step_less k n hlt a6.out⟩
     ·obtain⟨z,hz⟩:=hV'.out
      refine plus_of_below (Below.trans (b:=V) (by rw [hz];exact below_plus w0 z) (hq5.low _ hVw (fun b h=>by have:=hcb'.out;omega)))
     ·have q:=own_keep G2.out (W':=W5.setCell ⟨cb,7,none⟩ (.slice (some ⟨g,0,none⟩) (k+1) cap)) (fun b cur hb _ _=>Below.heap_setCell _ _ _ b (by have:=Hlt.out;simp only;omega))
      rw [List.take_add_one,hx'.out]
      simp only [Option.toList_some,List.map_append,List.map_cons,List.map_nil,List.flatten_append,List.flatten_cons,List.flatten_nil,List.append_nil,HKW.out,iCells]
      exact q
     ·by_cases hjk:j < k
      ·exact hJ'.out j y hjk hy
      ·obtain rfl:j=k:=by omega
       rw [hx'.out] at hy
       obtain rfl:=Option.some.inj hy
       rw [HKT.out]
       exact q0
    ·rw [if_neg q0] at kw
     have qw:=Lib.hid (atsE_of kw)
     clear kw
     have PB:=Lib.hid (show ∀ w',(∃ z,w'=plus U z)→Post (gaveE (bitsE t)) w' from fun w' h=>by have q:=PAN.out (by rw [HKT.out];exact q0) w' h;rwa [HKT.out] at q)
     clear PAN
     refine wp_region_held_drew (S:=SN cb eb _ _ _ _ _ _ _ _ _ _ _ _ _ _ _ _) (by kernel_rfl) (by obtain⟨z,hz⟩:=up_drew (up_self (V:=U) ⟨#[],U.drawn⟩);rw [plus_self] at hz;rw [hz];exact HSN.out.plus z) (fun hHeld=>?_)
     have hp:∃ z,U.drew=plus U z:=by have q:=up_drew (up_self (V:=U) ⟨#[],U.drawn⟩);rwa [plus_self] at q
     obtain⟨U0,hU0⟩:∃ W,U.drew=W:=⟨_,rfl⟩
     rw [hU0] at hHeld hp ⊢
     clear hU0
     refine wpAnyH_take (i:=0) (oi:={ dst:=some 16,op:=Op.move (Operand.tmp 0),type:=97,pos:="item.go:35",after:=#[],guard:=none }) (v:=?vb0) rfl (by kernel_rfl) (by kernel_rfl) (by kernel_rfl) (fun _ _ _ h=>h) (Or.inl ⟨by rfl,?hb0⟩) hHeld ?rb0
     case hb0 =>
      rintro W ⟨c0,c1,c2,c3,c4,c5,c6,e0,e1,e2,e3,e4,e5,e6,e7,e8⟩
      go_simp
      try with_reducible rfl
     simp only [Act.put,List.setIfInBounds_toArray,List.set_cons_zero,List.set_cons_succ]
     refine wpAnyH_take (i:=1) (oi:={ dst:=some 17,op:=Op.move (Operand.tmp 0),type:=97,pos:="item.go:35",after:=#[],guard:=none }) (v:=?vb1) rfl (by kernel_rfl) (by kernel_rfl) (by kernel_rfl) (fun _ _ _ h=>h) (Or.inl ⟨by rfl,?hb1⟩) hHeld ?rb1
     case hb1 =>
      rintro W ⟨c0,c1,c2,c3,c4,c5,c6,e0,e1,e2,e3,e4,e5,e6,e7,e8⟩
      go_simp
      try with_reducible rfl
     simp only [Act.put,List.setIfInBounds_toArray,List.set_cons_zero,List.set_cons_succ]
     refine wpAnyH_take (i:=2) (oi:={ dst:=some 18,op:=Op.nilCheck (Operand.tmp 17),type:=0,pos:="item.go:35",after:=#[{ on:=1,ground:=Ground.data }],guard:=none }) (v:=?vb2) rfl (by kernel_rfl) (by kernel_rfl) (by kernel_rfl) (fun _ _ _ h=>h) (Or.inl ⟨by rfl,?hb2⟩) hHeld ?rb2
     case hb2 =>
      rintro W ⟨c0,c1,c2,c3,c4,c5,c6,e0,e1,e2,e3,e4,e5,e6,e7,e8⟩
      go_simp
      try with_reducible rfl
     simp only [Act.put,List.setIfInBounds_toArray,List.set_cons_zero,List.set_cons_succ]
     refine wpAnyH_take (i:=3) (oi:={ dst:=some 19,op:=Op.fieldAddr 81 (Operand.tmp 18) 1,type:=0,pos:="item.go:35",after:=#[{ on:=2,ground:=Ground.data }],guard:=none }) (v:=?vb3) rfl (by kernel_rfl) (by kernel_rfl) (by kernel_rfl) (fun _ _ _ h=>h) (Or.inl ⟨by rfl,?hb3⟩) hHeld ?rb3
     case hb3 =>
      rintro W ⟨c0,c1,c2,c3,c4,c5,c6,e0,e1,e2,e3,e4,e5,e6,e7,e8⟩
      go_simp
      try with_reducible rfl
     simp only [Act.put,List.setIfInBounds_toArray,List.set_cons_zero,List.set_cons_succ]
     refine wpAnyH_take (i:=5) (oi:={ dst:=some 21,op:=Op.move (Operand.tmp 0),type:=97,pos:="item.go:35",after:=#[],guard:=none }) (v:=?vb5) rfl (by kernel_rfl) (by kernel_rfl) (by kernel_rfl) (fun _ _ _ h=>h) (Or.inl ⟨by rfl,?hb5⟩) hHeld ?rb5
     case hb5 =>
      rintro W ⟨c0,c1,c2,c3,c4,c5,c6,e0,e1,e2,e3,e4,e5,e6,e7,e8⟩
      go_simp
      try with_reducible rfl
     simp only [Act.put,List.setIfInBounds_toArray,List.set_cons_zero,List.set_cons_succ]
     refine wpAnyH_take (i:=6) (oi:={ dst:=some 22,op:=Op.nilCheck (Operand.tmp 21),type:=0,pos:="item.go:35",after:=#[{ on:=5,ground:=Ground.data }],guard:=none }) (v:=?vb6) rfl (by kernel_rfl) (by kernel_rfl) (by kernel_rfl) (fun _ _ _ h=>h) (Or.inl ⟨by rfl,?hb6⟩) hHeld ?rb6
     case hb6 =>
      rintro W ⟨c0,c1,c2,c3,c4,c5,c6,e0,e1,e2,e3,e4,e5,e6,e7,e8⟩
      go_simp
      try with_reducible rfl
     simp only [Act.put,List.setIfInBounds_toArray,List.set_cons_zero,List.set_cons_succ]
     refine wpAnyH_take (i:=7) (oi:={ dst:=some 23,op:=Op.fieldAddr 81 (Operand.tmp 22) 0,type:=0,pos:="item.go:35",after:=#[{ on:=6,ground:=Ground.data }],guard:=none }) (v:=?vb7) rfl (by kernel_rfl) (by kernel_rfl) (by kernel_rfl) (fun _ _ _ h=>h) (Or.inl ⟨by rfl,?hb7⟩) hHeld ?rb7
     case hb7 =>
      rintro W ⟨c0,c1,c2,c3,c4,c5,c6,e0,e1,e2,e3,e4,e5,e6,e7,e8⟩
      go_simp
      try with_reducible rfl
     simp only [Act.put,List.setIfInBounds_toArray,List.set_cons_zero,List.set_cons_succ]
     refine wpAnyH_take (i:=8) (oi:={ dst:=some 24,op:=Op.load 30 (Operand.tmp 23),type:=30,pos:="item.go:35",after:=#[{ on:=7,ground:=Ground.data }],guard:=none }) (v:=?vb8) rfl (by kernel_rfl) (by kernel_rfl) (by kernel_rfl) (fun _ _ _ h=>h) (Or.inl ⟨by rfl,?hb8⟩) hHeld ?rb8
     case hb8 =>
      rintro W ⟨c0,c1,c2,c3,c4,c5,c6,e0,e1,e2,e3,e4,e5,e6,e7,e8⟩
      go_simp
      try with_reducible rfl
     simp only [Act.put,List.setIfInBounds_toArray,List.set_cons_zero,List.set_cons_succ]
     refine wpAnyH_take (i:=9) (oi:={ dst:=some 25,op:=Op.build 90 #[(0,Operand.tmp 24),(1,Operand.const (Value.int IntKind.i64 (-1)))],type:=90,pos:="item.go:35",after:=#[{ on:=8,ground:=Ground.data }],guard:=none }) (v:=?vb9) rfl (by kernel_rfl) (by kernel_rfl) (by kernel_rfl) (fun _ _ _ h=>h) (Or.inl ⟨by rfl,?hb9⟩) hHeld ?rb9
     case hb9 =>
      rintro W ⟨c0,c1,c2,c3,c4,c5,c6,e0,e1,e2,e3,e4,e5,e6,e7,e8⟩
      go_simp
      try with_reducible rfl
     simp only [Act.put,List.setIfInBounds_toArray,List.set_cons_zero,List.set_cons_succ]
     refine wpAnyH_take (i:=10) (oi:={ dst:=some 26,op:=Op.load 45 (Operand.tmp 5),type:=45,pos:="item.go:35",after:=#[],guard:=none }) (v:=?vb10) rfl (by kernel_rfl) (by kernel_rfl) (by kernel_rfl) (fun _ _ _ h=>h) (Or.inl ⟨by rfl,?hb10⟩) hHeld ?rb10
     case hb10 =>
      rintro W ⟨c0,c1,c2,c3,c4,c5,c6,e0,e1,e2,e3,e4,e5,e6,e7,e8⟩
      go_simp
      try with_reducible rfl
     simp only [Act.put,List.setIfInBounds_toArray,List.set_cons_zero,List.set_cons_succ]
     refine wpAnyH_ready (rs:=[4,11]) (by kernel_rfl) (by simp) ?_
     refine AllReadyH.cons (o:={ dst:=some 20,op:=Op.load 79 (Operand.tmp 19),type:=79,pos:="item.go:35",after:=#[{ on:=3,ground:=Ground.data }],guard:=none }) rfl (fun K hK=>?_) ?_
     ·have k7:U0.cell? ⟨cb,7,none⟩=some kv:=by obtain⟨z,hz⟩:=hp;rw [hz];exact (HBU.out.plus z).at.keys
      go_simp
      refine hK.out _ _ hHeld (fun hHeld4=>?_)
      clear hK K k7
      refine wpAnyH_ready (rs:=[11]) (by kernel_rfl) (by simp) ?_
      refine AllReadyH.cons (o:={ dst:=some 27,op:=Op.call { callee:=Callee.value (Operand.func 28),args:=#[Operand.tmp 25,Operand.tmp 26],argTypes:=#[90,45] },type:=75,pos:="item.go:35",after:=#[{ on:=9,ground:=Ground.data },{ on:=10,ground:=Ground.data }],guard:=none }) rfl (fun K hK=>?_) AllReadyH.nil
      go_simp
      refine (qt.out U0 hp).mono ?_
      rintro r w' ⟨rfl,x5,hx5⟩
      have hp5:∃ z,w'=plus U z:=by rw [hx5];exact up_plus hp x5
      refine hK.out _ _ (by rw [hx5];exact hHeld4.plus x5) (fun hHeld5=>?_)
      clear hK K hx5
      obtain⟨U5,hU5⟩:∃ W,w'=W:=⟨_,rfl⟩
      rw [hU5] at hHeld5 hp5 ⊢
      clear hU5
      refine wpAnyH_ready (rs:=[12]) (by kernel_rfl) (by simp) ?_
      refine AllReadyH.cons (o:={ dst:=some 28,op:=Op.call { callee:=Callee.value (Operand.func 49),args:=#[Operand.tmp 27],argTypes:=#[75] },type:=3,pos:="item.go:35",after:=#[{ on:=11,ground:=Ground.data },{ on:=11,ground:=Ground.chain }],guard:=none }) rfl (fun K hK=>?_) AllReadyH.nil
      go_simp
      refine (qw.out U5 hp5).mono ?_
      rintro r w' ⟨rfl,x6,hx6⟩
      exact⟨rfl,PB.out _ (by rw [hx6];exact up_plus hp5 x6)⟩
     refine AllReadyH.cons (o:={ dst:=some 27,op:=Op.call { callee:=Callee.value (Operand.func 28),args:=#[Operand.tmp 25,Operand.tmp 26],argTypes:=#[90,45] },type:=75,pos:="item.go:35",after:=#[{ on:=9,ground:=Ground.data },{ on:=10,ground:=Ground.data }],guard:=none }) rfl (fun K hK=>?_) AllReadyH.nil
     go_simp
     refine (qt.out U0 hp).mono ?_
     rintro r w' ⟨rfl,x7,hx7⟩
     have hp7:∃ z,w'=plus U z:=by rw [hx7];exact up_plus hp x7
     refine hK.out _ _ (by rw [hx7];exact hHeld.plus x7) (fun hHeld7=>?_)
     clear hK K hx7
     obtain⟨U7,hU7⟩:∃ W,w'=W:=⟨_,rfl⟩
     rw [hU7] at hHeld7 hp7 ⊢
     clear hU7
     refine wpAnyH_ready (rs:=[4,12]) (by kernel_rfl) (by simp) ?_
     refine AllReadyH.cons (o:={ dst:=some 20,op:=Op.load 79 (Operand.tmp 19),type:=79,pos:="item.go:35",after:=#[{ on:=3,ground:=Ground.data }],guard:=none }) rfl (fun K hK=>?_) ?_
     ·have k7:U7.cell? ⟨cb,7,none⟩=some kv:=by obtain⟨z,hz⟩:=hp7;rw [hz];exact (HBU.out.plus z).at.keys
      go_simp
      refine hK.out _ _ hHeld7 (fun hHeld8=>?_)
      clear hK K k7
      refine wpAnyH_ready (rs:=[12]) (by kernel_rfl) (by simp) ?_
      refine AllReadyH.cons (o:={ dst:=some 28,op:=Op.call { callee:=Callee.value (Operand.func 49),args:=#[Operand.tmp 27],argTypes:=#[75] },type:=3,pos:="item.go:35",after:=#[{ on:=11,ground:=Ground.data },{ on:=11,ground:=Ground.chain }],guard:=none }) rfl (fun K hK=>?_) AllReadyH.nil
      go_simp
      refine (qw.out U7 hp7).mono ?_
      rintro r w' ⟨rfl,x9,hx9⟩
      exact⟨rfl,PB.out _ (by rw [hx9];exact up_plus hp7 x9)⟩
     refine AllReadyH.cons (o:={ dst:=some 28,op:=Op.call { callee:=Callee.value (Operand.func 49),args:=#[Operand.tmp 27],argTypes:=#[75] },type:=3,pos:="item.go:35",after:=#[{ on:=11,ground:=Ground.data },{ on:=11,ground:=Ground.chain }],guard:=none }) rfl (fun K hK=>?_) AllReadyH.nil
     go_simp
     refine (qw.out U7 hp7).mono ?_
     rintro r w' ⟨rfl,x10,hx10⟩
     exact⟨rfl,PB.out _ (by rw [hx10];exact up_plus hp7 x10)⟩
   ·rw [if_neg r0] at HKT
    rw [endE_n r0] at qt
    have PA:=Lib.hid (show ∀ w',(∃ z,w'=plus U z)→Post (gaveE R) w' from fun w' h=>by have q:=PAN.out (by rw [HKT.out];exact r0) w' h;rwa [HKT.out] at q)
    clear PAN kw
    refine wp_region_held_drew (S:=SN cb eb _ _ _ _ _ _ _ _ _ _ _ _ _ _ _ _) (by kernel_rfl) (by obtain⟨z,hz⟩:=up_drew (up_self (V:=U) ⟨#[],U.drawn⟩);rw [plus_self] at hz;rw [hz];exact HSN.out.plus z) (fun hHeld=>?_)
    have hp:∃ z,U.drew=plus U z:=by have q:=up_drew (up_self (V:=U) ⟨#[],U.drawn⟩);rwa [plus_self] at q
    obtain⟨U0,hU0⟩:∃ W,U.drew=W:=⟨_,rfl⟩
    rw [hU0] at hHeld hp ⊢
    clear hU0
    refine wpAnyH_take (i:=0) (oi:={ dst:=some 16,op:=Op.move (Operand.tmp 0),type:=97,pos:="item.go:35",after:=#[],guard:=none }) (v:=?va0) rfl (by kernel_rfl) (by kernel_rfl) (by kernel_rfl) (fun _ _ _ h=>h) (Or.inl ⟨by rfl,?ha0⟩) hHeld ?ra0
    case ha0 =>
     rintro W ⟨c0,c1,c2,c3,c4,c5,c6,e0,e1,e2,e3,e4,e5,e6,e7,e8⟩
     go_simp
     try with_reducible rfl
    simp only [Act.put,List.setIfInBounds_toArray,List.set_cons_zero,List.set_cons_succ]
    refine wpAnyH_take (i:=1) (oi:={ dst:=some 17,op:=Op.move (Operand.tmp 0),type:=97,pos:="item.go:35",after:=#[],guard:=none }) (v:=?va1) rfl (by kernel_rfl) (by kernel_rfl) (by kernel_rfl) (fun _ _ _ h=>h) (Or.inl ⟨by rfl,?ha1⟩) hHeld ?ra1
    case ha1 =>
     rintro W ⟨c0,c1,c2,c3,c4,c5,c6,e0,e1,e2,e3,e4,e5,e6,e7,e8⟩
     go_simp
     try with_reducible rfl
    simp only [Act.put,List.setIfInBounds_toArray,List.set_cons_zero,List.set_cons_succ]
    refine wpAnyH_take (i:=2) (oi:={ dst:=some 18,op:=Op.nilCheck (Operand.tmp 17),type:=0,pos:="item.go:35",after:=#[{ on:=1,ground:=Ground.data }],guard:=none }) (v:=?va2) rfl (by kernel_rfl) (by kernel_rfl) (by kernel_rfl) (fun _ _ _ h=>h) (Or.inl ⟨by rfl,?ha2⟩) hHeld ?ra2
    case ha2 =>
     rintro W ⟨c0,c1,c2,c3,c4,c5,c6,e0,e1,e2,e3,e4,e5,e6,e7,e8⟩
     go_simp
     try with_reducible rfl
    simp only [Act.put,List.setIfInBounds_toArray,List.set_cons_zero,List.set_cons_succ]
    refine wpAnyH_take (i:=3) (oi:={ dst:=some 19,op:=Op.fieldAddr 81 (Operand.tmp 18) 1,type:=0,pos:="item.go:35",after:=#[{ on:=2,ground:=Ground.data }],guard:=none }) (v:=?va3) rfl (by kernel_rfl) (by kernel_rfl) (by kernel_rfl) (fun _ _ _ h=>h) (Or.inl ⟨by rfl,?ha3⟩) hHeld ?ra3
    case ha3 =>
     rintro W ⟨c0,c1,c2,c3,c4,c5,c6,e0,e1,e2,e3,e4,e5,e6,e7,e8⟩
     go_simp
     try with_reducible rfl
    simp only [Act.put,List.setIfInBounds_toArray,List.set_cons_zero,List.set_cons_succ]
    refine wpAnyH_take (i:=5) (oi:={ dst:=some 21,op:=Op.move (Operand.tmp 0),type:=97,pos:="item.go:35",after:=#[],guard:=none }) (v:=?va5) rfl (by kernel_rfl) (by kernel_rfl) (by kernel_rfl) (fun _ _ _ h=>h) (Or.inl ⟨by rfl,?ha5⟩) hHeld ?ra5
    case ha5 =>
     rintro W ⟨c0,c1,c2,c3,c4,c5,c6,e0,e1,e2,e3,e4,e5,e6,e7,e8⟩
     go_simp
     try with_reducible rfl
    simp only [Act.put,List.setIfInBounds_toArray,List.set_cons_zero,List.set_cons_succ]
    refine wpAnyH_take (i:=6) (oi:={ dst:=some 22,op:=Op.nilCheck (Operand.tmp 21),type:=0,pos:="item.go:35",after:=#[{ on:=5,ground:=Ground.data }],guard:=none }) (v:=?va6) rfl (by kernel_rfl) (by kernel_rfl) (by kernel_rfl) (fun _ _ _ h=>h) (Or.inl ⟨by rfl,?ha6⟩) hHeld ?ra6
    case ha6 =>
     rintro W ⟨c0,c1,c2,c3,c4,c5,c6,e0,e1,e2,e3,e4,e5,e6,e7,e8⟩
     go_simp
     try with_reducible rfl
    simp only [Act.put,List.setIfInBounds_toArray,List.set_cons_zero,List.set_cons_succ]
    refine wpAnyH_take (i:=7) (oi:={ dst:=some 23,op:=Op.fieldAddr 81 (Operand.tmp 22) 0,type:=0,pos:="item.go:35",after:=#[{ on:=6,ground:=Ground.data }],guard:=none }) (v:=?va7) rfl (by kernel_rfl) (by kernel_rfl) (by kernel_rfl) (fun _ _ _ h=>h) (Or.inl ⟨by rfl,?ha7⟩) hHeld ?ra7
    case ha7 =>
     rintro W ⟨c0,c1,c2,c3,c4,c5,c6,e0,e1,e2,e3,e4,e5,e6,e7,e8⟩
     go_simp
     try with_reducible rfl
    simp only [Act.put,List.setIfInBounds_toArray,List.set_cons_zero,List.set_cons_succ]
    refine wpAnyH_take (i:=8) (oi:={ dst:=some 24,op:=Op.load 30 (Operand.tmp 23),type:=30,pos:="item.go:35",after:=#[{ on:=7,ground:=Ground.data }],guard:=none }) (v:=?va8) rfl (by kernel_rfl) (by kernel_rfl) (by kernel_rfl) (fun _ _ _ h=>h) (Or.inl ⟨by rfl,?ha8⟩) hHeld ?ra8
    case ha8 =>
     rintro W ⟨c0,c1,c2,c3,c4,c5,c6,e0,e1,e2,e3,e4,e5,e6,e7,e8⟩
     go_simp
     try with_reducible rfl
    simp only [Act.put,List.setIfInBounds_toArray,List.set_cons_zero,List.set_cons_succ]
    refine wpAnyH_take (i:=9) (oi:={ dst:=some 25,op:=Op.build 90 #[(0,Operand.tmp 24),(1,Operand.const (Value.int IntKind.i64 (-1)))],type:=90,pos:="item.go:35",after:=#[{ on:=8,ground:=Ground.data }],guard:=none }) (v:=?va9) rfl (by kernel_rfl) (by kernel_rfl) (by kernel_rfl) (fun _ _ _ h=>h) (Or.inl ⟨by rfl,?ha9⟩) hHeld ?ra9
    case ha9 =>
     rintro W ⟨c0,c1,c2,c3,c4,c5,c6,e0,e1,e2,e3,e4,e5,e6,e7,e8⟩
     go_simp
     try with_reducible rfl
    simp only [Act.put,List.setIfInBounds_toArray,List.set_cons_zero,List.set_cons_succ]
    refine wpAnyH_take (i:=10) (oi:={ dst:=some 26,op:=Op.load 45 (Operand.tmp 5),type:=45,pos:="item.go:35",after:=#[],guard:=none }) (v:=?va10) rfl (by kernel_rfl) (by kernel_rfl) (by kernel_rfl) (fun _ _ _ h=>h) (Or.inl ⟨by rfl,?ha10⟩) hHeld ?ra10
    case ha10 =>
     rintro W ⟨c0,c1,c2,c3,c4,c5,c6,e0,e1,e2,e3,e4,e5,e6,e7,e8⟩
     go_simp
     try with_reducible rfl
    simp only [Act.put,List.setIfInBounds_toArray,List.set_cons_zero,List.set_cons_succ]
    refine wpAnyH_ready (rs:=[4,11]) (by kernel_rfl) (by simp) ?_
    refine AllReadyH.cons (o:={ dst:=some 20,op:=Op.load 79 (Operand.tmp 19),type:=79,pos:="item.go:35",after:=#[{ on:=3,ground:=Ground.data }],guard:=none }) rfl (fun K hK=>?_) ?_
    ·have k7:U0.cell? ⟨cb,7,none⟩=some kv:=by obtain⟨z,hz⟩:=hp;rw [hz];exact (HBU.out.plus z).at.keys
     go_simp
     refine hK.out _ _ hHeld (fun hHeld1=>?_)
     clear hK K k7
     refine wpAnyH_ready (rs:=[11]) (by kernel_rfl) (by simp) ?_
     refine AllReadyH.cons (o:={ dst:=some 27,op:=Op.call { callee:=Callee.value (Operand.func 28),args:=#[Operand.tmp 25,Operand.tmp 26],argTypes:=#[90,45] },type:=75,pos:="item.go:35",after:=#[{ on:=9,ground:=Ground.data },{ on:=10,ground:=Ground.data }],guard:=none }) rfl (fun K hK=>?_) AllReadyH.nil
     go_simp
     refine (qt.out U0 hp).mono ?_
     rintro r w' ⟨rfl,x2,hx2⟩
     exact⟨rfl,PA.out _ (by rw [hx2];exact up_plus hp x2)⟩
    refine AllReadyH.cons (o:={ dst:=some 27,op:=Op.call { callee:=Callee.value (Operand.func 28),args:=#[Operand.tmp 25,Operand.tmp 26],argTypes:=#[90,45] },type:=75,pos:="item.go:35",after:=#[{ on:=9,ground:=Ground.data },{ on:=10,ground:=Ground.data }],guard:=none }) rfl (fun K hK=>?_) AllReadyH.nil
    go_simp
    refine (qt.out U0 hp).mono ?_
    rintro r w' ⟨rfl,x3,hx3⟩
    exact⟨rfl,PA.out _ (by rw [hx3];exact up_plus hp x3)⟩
  ·obtain rfl:k=n:=by omega
   have hzr':=Lib.hid hzr
   have hqr':=Lib.hid hqr
   have hBr':=Lib.hid hBr
   have hOr':=Lib.hid hOr
   have hJ':=Lib.hid hJ
   clear hzr hqr hBr hOr hJ
   go_wp2
   refine bodyPost_end (results_none rfl _ _ _) rfl ?_
   refine hP0'.out (fun j x hj=>hJ'.out j x (by have:=(List.getElem?_eq_some_iff.1 hj).1;rw [hnn'.out] at this;exact this) hj) _ kv hzr'.out hqr'.out hBr'.out ?_
   have q:=hOr'.out
   rwa [List.take_of_length_le (by rw [hnn'.out];exact Nat.le_refl _)] at q
end Go.Proofs.YtobhijbncchpiaaGreat
