/-
  WHAT IS PROVED HERE: a part of the proof (made narrower and merged by program; the parts: GE Zc Zd).
-/
import Derived.Test.YtlmhldcebllckaaGreatRows
import Derived.WalkKit
import Derived.Lib.Hide
import Derived.WalkSpells
import Derived.WalkLawsBesides
import Derived.Laws.EntriesVeiled
import Derived.Shelf.Abstract
import Derived.Test.YtlmhldcebllckaaGreatM4
import Derived.Test.YtlmhldcebllckaaGreatM5
import Derived.Test.YtlmhldcebllckaaGreatM3
namespace Go.Proofs.YtlmhldcebllckaaGreat
open Go.RowKit
theorem clo3 (V:World) (A B:Obj) (v:Value) (t:TypeId):∃ W,((V.alloc A).alloc B).alloc (.cells #[v] t) = W ∧ (∃ z,W = plus V z) ∧ W.cell? ⟨V.heap.size + 1 + 1,0,none⟩ = some v:=by
 refine ⟨_,rfl,?_,cell_new _ _ _ _ _ (by simp)⟩
 obtain ⟨x,hx⟩:=alloc2_plus V A B
 rw [hx]
 exact plus_alloc1 V x _
theorem shp_ex (x:Ex):shp_Expr x.cells:=⟨_,_,_,_,_,_,_,_,_,_,_,rfl⟩
theorem shp_st (x:St):shp_Stmt x.cells:=⟨_,_,_,_,_,_,_,_,_,_,_,_,_,_,_,_,_,_,_,_,rfl⟩
theorem Ex.sames_eq:∀ l r:List Ex,Ex.sames l r = eqAll Ex.same l r
 | [],[]=>by rw [Ex.sames,eqAll]
 | a :: l,b :: r=>by rw [Ex.sames,eqAll,Ex.sames_eq l r]
 | [],_ :: _=>by rw [Ex.sames,eqAll]
 | _ :: _,[]=>by rw [Ex.sames,eqAll]
def fv_expr (c:Nat):Value:=.func (.func 159) #[] #[.pointer (some ⟨c,0,none⟩)]
theorem same1:∀ (a b:Ex) (w:World) (c:Nat),a.In w → b.In w → a.wt ≤ 1048576 → w.cell? ⟨c,0,none⟩ = some (fv_expr c) → Kp Tryz.prog w 159 #[a.val,b.val,.pointer (some ⟨c,0,none⟩)] (.bool (a.same b)):=by
 intro a
 induction a using Ex.ind with
 | _ a ih =>
 intro b w c ha hb wa hc
 have h1:=ha
 have h2:=hb
 obtain ⟨_,_,_,_,_,_,_,l1,c1,r1,k1⟩:=h1
 obtain ⟨_,_,_,_,_,_,_,l2,c2,r2,k2⟩:=h2
 have e1:=Ex.wt_eq a
 have hl:a.args.length ≤ 1048576:=by have:=length_le_sum Ex.wt Ex.wt_pos a.args;omega
 have hE:=eqf_Expr Ex.cells shp_ex Ex.same 159 #[.pointer (some ⟨c,0,none⟩)] (Ex.In w) w ⟨a.p,a.cap,a.args⟩ ⟨b.p,b.cap,b.args⟩ ⟨l1,c1,r1,k1⟩ ⟨l2,c2,r2,k2⟩ hl (enters_of Tryz.func159 (by kernel_rfl) rfl)
  (fun x hx y hy=>ih x hx y w c (k1 x hx) (k2 y hy) (Nat.le_trans (le_sum_of Ex.wt a.args x hx) (by omega)) hc)
 refine (expr1_of a.op a.lit.w a.lit.h a.lit.l a.head a.name a.hi a.lo a.p a.args.length a.cap b.op b.lit.w b.lit.h b.lit.l b.head b.name b.hi b.lo b.p b.args.length b.cap c _ w hc hE).eqv ?_
 simp only [Ex.same_eq,Ex.top,Ex.sames_eq,Bool.and_assoc]
set_option maxRecDepth 100000 in
set_option maxHeartbeats 8000000 in
theorem ast_sameExpr (a b:Ex) (w:World) (ha:a.In w) (hb:b.In w) (wa:a.wt ≤ 1048576):Kp Tryz.prog w 141 #[a.val,b.val] (.bool (a.same b)):=by
 intro y0
 have ha:=ha.plus y0
 have hb:=hb.plus y0
 obtain ⟨V,hV⟩:∃ V,plus w y0 = V:=⟨_,rfl⟩
 rw [hV] at ha hb ⊢
 clear hV
 have hq:=fun (W:World) (c:Nat) (z:Ext) (hz:W = plus V z) (hc:W.cell? ⟨c,0,none⟩ = some (fv_expr c))=>calls_self (same1 a b W c (hz ▸ ha.plus z) (hz ▸ hb.plus z) wa hc)
 obtain ⟨S,hS⟩:∃ S,a.same b = S:=⟨_,rfl⟩
 rw [hS] at hq ⊢
 clear hS ha hb wa
 obtain ⟨op,⟨lw,lh,ll⟩,hd,nm,eh,el,p,cap,args⟩:=a
 obtain ⟨op2,⟨lw2,lh2,ll2⟩,hd2,nm2,eh2,el2,p2,cap2,args2⟩:=b
 have hq:∀ (W:World) (c:Nat) (z:Ext),W = plus V z → W.cell? ⟨c,0,none⟩ = some (fv_expr c) → Calls Tryz.prog 159 #[.agg #[.int .u8 op,.int .i64 lw,.int .u64 lh,.int .u64 ll,.string hd,.string nm,.int .i64 eh,.int .i64 el,.slice p args.length cap],.agg #[.int .u8 op2,.int .i64 lw2,.int .u64 lh2,.int .u64 ll2,.string hd2,.string nm2,.int .i64 eh2,.int .i64 el2,.slice p2 args2.length cap2],.pointer (some ⟨c,0,none⟩)] W fun e w'=>e = .returned (.bool S) ∧ ∃ x,w' = plus W x:=hq
 show Calls Tryz.prog 141 #[.agg #[.int .u8 op,.int .i64 lw,.int .u64 lh,.int .u64 ll,.string hd,.string nm,.int .i64 eh,.int .i64 el,.slice p args.length cap],.agg #[.int .u8 op2,.int .i64 lw2,.int .u64 lh2,.int .u64 ll2,.string hd2,.string nm2,.int .i64 eh2,.int .i64 el2,.slice p2 args2.length cap2]] V _
 generalize args.length = n1 at hq ⊢
 generalize args2.length = n2 at hq ⊢
 have hq':=Lib.hid hq
 clear hq
 have hmf:∀ (fn:Fn) (first cap:Array Value) (w:World),(Instr.makeFunc fn first cap).run Tryz.prog w = .ok (.func fn first cap) w:=fun _ _ _ _=>rfl
 go_enter Tryz.func141,Tryz.ntmps141
 go_wp2_with fail
 obtain ⟨W,hW,⟨z,hz⟩,hc⟩:=clo3 V _ _ _ _
 rw [hW]
 have hz':=Lib.hid hz
 refine (hq'.out W _ z hz hc).mono ?_
 clear hW hz hc
 rintro r w' ⟨rfl,x,rfl⟩
 go_wp2
 go_ret
 exact ⟨rfl,pp hz'.out⟩
theorem St.In.inE {w:World} {s:St} (h:s.In w):s.e.In w:=by obtain ⟨_,_,_,_,e,_,_,_,_,_,_,_,_⟩:=h;exact e
theorem St.In.inThn {w:World} {s:St} (h:s.In w):s.thnS.In w 14 St.cells (St.In w):=by obtain ⟨_,_,_,_,_,l,c,r,k,_,_,_,_⟩:=h;exact ⟨l,c,r,k⟩
theorem St.In.inEls {w:World} {s:St} (h:s.In w):s.elsS.In w 14 St.cells (St.In w):=by obtain ⟨_,_,_,_,_,_,_,_,_,l,c,r,k⟩:=h;exact ⟨l,c,r,k⟩
theorem shp_fd (x:Fd):shp_Field x.cells:=⟨_,_,rfl⟩
theorem shp_hr (x:Hr):shp_Header x.cells:=⟨_,_,_,_,rfl⟩
theorem shp_se (x:Se):shp_Set x.cells:=⟨_,_,_,_,_,_,_,rfl⟩
theorem shp_lt (x:Lt):shp_Lit x.cells:=⟨_,_,_,rfl⟩
theorem shp_ca (x:Ca):shp_Case x.cells:=⟨_,_,_,_,_,rfl⟩
theorem shp_sa (x:Sa):shp_State x.cells:=⟨_,_,_,_,_,_,_,_,_,_,_,rfl⟩
theorem shp_ac (x:Ac):shp_Action x.cells:=⟨_,_,_,_,_,_,_,rfl⟩
theorem shp_ke (x:Ke):shp_Key x.cells:=⟨_,_,_,_,_,_,_,_,_,_,_,_,rfl⟩
theorem shp_ta (x:Ta):shp_Table x.cells:=⟨_,_,_,_,_,_,_,_,_,_,_,rfl⟩
theorem len_le {α:Type} (f:α → Nat) (hf:∀ x,1 ≤ f x) (L:Sl α) {n:Nat} (h:L.size f ≤ n):L.l.length ≤ n:=Nat.le_trans (length_le_sum f hf L.l) h
theorem one_sz {α:Type} {f:α → Nat} {L:Sl α} {n:Nat} {x:α} (h:L.size f ≤ n) (hx:x ∈ L.l):f x ≤ n:=Nat.le_trans (le_sum_of f L.l x hx) h
theorem strSize_le (L:Sl ByteArray) {n:Nat} (h:L.size strSize ≤ n):L.l.length ≤ n:=len_le strSize strSize_pos L h
theorem lt_sz (L:Sl Lt) {n:Nat} (h:L.size (fun _=>1) ≤ n):L.l.length ≤ n:=len_le (fun _=>1) (fun _=>Nat.le_refl _) L h
theorem cells_up {V W:World} {z:Ext} {a:Addr} {cs:List Value} (hz:W = plus V z) (h:CellsAt V a cs):CellsAt W a cs:=by rw [hz];exact h.plus z
/-- Where the first one of a name is. -/
def hdI (l:List Hr) (s:ByteArray):Int:=firstI (fun x=>x.name.toList == s.toList) l 0
def saI (l:List Sa) (s:ByteArray):Int:=firstI (fun x=>x.name.toList == s.toList) l 0
def acI (l:List Ac) (s:ByteArray):Int:=firstI (fun x=>x.name.toList == s.toList) l 0
def taI (l:List Ta) (s:ByteArray):Int:=firstI (fun x=>x.name.toList == s.toList) l 0
def fdI (l:List Fd) (s:ByteArray):Int:=firstI (fun x=>x.name.toList == s.toList) l 0
def nmI (l:List ByteArray) (s:ByteArray):Int:=firstI (fun x=>x.toList == s.toList) l 0
theorem firstI_ge {α:Type} (q:α → Bool):∀ (l:List α) (k:Nat),firstI q l k = -1 ∨ ((k:Int) ≤ firstI q l k ∧ firstI q l k < (k:Int) + (l.length:Int))
 | [],_=>.inl rfl
 | x :: l,k=>by
  unfold firstI
  split
  ·right;simp only [List.length_cons];omega
  ·rcases firstI_ge q l (k + 1) with h | ⟨h1,h2⟩
   ·exact .inl h
   ·right;simp only [List.length_cons];omega
set_option maxRecDepth 100000 in
set_option maxHeartbeats 4000000 in
theorem res_Header (p1:Option Addr) (n1 c1:Nat) (p2:Option Addr) (n2 c2:Nat) (p3:Option Addr) (n3 c3:Nat) (p4:Option Addr) (n4 c4:Nat) (p5:Option Addr) (n5 c5:Nat) (p6:Option Addr) (n6 c6:Nat) (K:Hr → Prop) (A:Sl Hr) (nm:ByteArray) (w:World) (hA:A.In w 2 Hr.cells K) (hl:A.l.length ≤ 1048576):Kp Tryz.prog w 10 #[.agg #[A.v,.slice p1 n1 c1,.slice p2 n2 c2,.slice p3 n3 c3,.slice p4 n4 c4,.slice p5 n5 c5,.slice p6 n6 c6],.string nm] (.int .i64 (hdI A.l nm)):=by
 intro y0
 have hA:=hA.plus (fun _ a=>a) y0
 obtain ⟨V,hV⟩:∃ V,plus w y0 = V:=⟨_,rfl⟩
 rw [hV] at hA ⊢
 clear hV
 have hA':=Lib.hid hA
 have hl':=Lib.hid hl
 clear hA hl
 obtain ⟨ap,ac,al⟩:=A
 simp only [Sl.v]
 obtain ⟨n,hn⟩:∃ n,al.length = n:=⟨_,rfl⟩
 rw [hn]
 have hn':=Lib.hid hn
 clear hn
 go_enter Tryz.func10,Tryz.ntmps10
 go_upto_region 1 with (fail)
 obtain ⟨W,yy,hW,⟨z,hz⟩,ca,cb⟩:=box2n V _ _ 30 9
 rw [hW]
 have b0:=ca 0 _ rfl
 have d0:=cb 0 _ rfl ⟨#[],W.drawn⟩
 rw [plus_self] at d0
 have hcall:=(first_Header Hr.cells shp_hr (fun x=>x.name.toList == nm.toList) 27 #[] #[.pointer (some ⟨V.heap.size + 1,0,none⟩)] K W ⟨ap,ac,al⟩ (by rw [hz];exact hA'.out.plus (fun _ a=>a) z) hl'.out (enters_of Tryz.func27 (by kernel_rfl) rfl) (fun x _=>lit_Header (V.heap.size + 1) nm _ _ _ _ W d0)).pure
 simp only [Sl.v] at hcall
 rw [hn'.out] at hcall
 have hc:=Lib.hid hcall
 have hz2:=Lib.hid hz
 clear hW hz ca cb d0 hcall hA' hl' hn'
 go_wp2_with (first | (go_at_call 26;with_reducible refine (hc.out _).mono ?_;rintro r w' ⟨rfl,x,rfl⟩))
 go_ret
 exact ⟨rfl,by rw [hz2.out,plus_plus];exact ⟨_,rfl⟩⟩
set_option maxRecDepth 100000 in
set_option maxHeartbeats 4000000 in
theorem res_Action (p0:Option Addr) (n0 c0:Nat) (p1:Option Addr) (n1 c1:Nat) (p2:Option Addr) (n2 c2:Nat) (p4:Option Addr) (n4 c4:Nat) (p5:Option Addr) (n5 c5:Nat) (p6:Option Addr) (n6 c6:Nat) (K:Ac → Prop) (A:Sl Ac) (nm:ByteArray) (w:World) (hA:A.In w 3 Ac.cells K) (hl:A.l.length ≤ 1048576):Kp Tryz.prog w 12 #[.agg #[.slice p0 n0 c0,.slice p1 n1 c1,.slice p2 n2 c2,A.v,.slice p4 n4 c4,.slice p5 n5 c5,.slice p6 n6 c6],.string nm] (.int .i64 (acI A.l nm)):=by
 intro y0
 have hA:=hA.plus (fun _ a=>a) y0
 obtain ⟨V,hV⟩:∃ V,plus w y0 = V:=⟨_,rfl⟩
 rw [hV] at hA ⊢
 clear hV
 have hA':=Lib.hid hA
 have hl':=Lib.hid hl
 clear hA hl
 obtain ⟨ap,ac,al⟩:=A
 simp only [Sl.v]
 obtain ⟨n,hn⟩:∃ n,al.length = n:=⟨_,rfl⟩
 rw [hn]
 have hn':=Lib.hid hn
 clear hn
 go_enter Tryz.func12,Tryz.ntmps12
 go_upto_region 1 with (fail)
 obtain ⟨W,yy,hW,⟨z,hz⟩,ca,cb⟩:=box2n V _ _ 30 9
 rw [hW]
 have b3:=ca 3 _ rfl
 have d0:=cb 0 _ rfl ⟨#[],W.drawn⟩
 rw [plus_self] at d0
 have hcall:=(first_Action Ac.cells shp_ac (fun x=>x.name.toList == nm.toList) 29 #[] #[.pointer (some ⟨V.heap.size + 1,0,none⟩)] K W ⟨ap,ac,al⟩ (by rw [hz];exact hA'.out.plus (fun _ a=>a) z) hl'.out (enters_of Tryz.func29 (by kernel_rfl) rfl) (fun x _=>lit_Action (V.heap.size + 1) nm _ _ _ _ _ _ _ W d0)).pure
 simp only [Sl.v] at hcall
 rw [hn'.out] at hcall
 have hc:=Lib.hid hcall
 have hz2:=Lib.hid hz
 clear hW hz ca cb d0 hcall hA' hl' hn'
 go_wp2_with (first | (go_at_call 28;with_reducible refine (hc.out _).mono ?_;rintro r w' ⟨rfl,x,rfl⟩))
 go_ret
 exact ⟨rfl,by rw [hz2.out,plus_plus];exact ⟨_,rfl⟩⟩
set_option maxRecDepth 100000 in
set_option maxHeartbeats 4000000 in
theorem res_Table (p0:Option Addr) (n0 c0:Nat) (p1:Option Addr) (n1 c1:Nat) (p2:Option Addr) (n2 c2:Nat) (p3:Option Addr) (n3 c3:Nat) (p5:Option Addr) (n5 c5:Nat) (p6:Option Addr) (n6 c6:Nat) (K:Ta → Prop) (A:Sl Ta) (nm:ByteArray) (w:World) (hA:A.In w 5 Ta.cells K) (hl:A.l.length ≤ 1048576):Kp Tryz.prog w 13 #[.agg #[.slice p0 n0 c0,.slice p1 n1 c1,.slice p2 n2 c2,.slice p3 n3 c3,A.v,.slice p5 n5 c5,.slice p6 n6 c6],.string nm] (.int .i64 (taI A.l nm)):=by
 intro y0
 have hA:=hA.plus (fun _ a=>a) y0
 obtain ⟨V,hV⟩:∃ V,plus w y0 = V:=⟨_,rfl⟩
 rw [hV] at hA ⊢
 clear hV
 have hA':=Lib.hid hA
 have hl':=Lib.hid hl
 clear hA hl
 obtain ⟨ap,ac,al⟩:=A
 simp only [Sl.v]
 obtain ⟨n,hn⟩:∃ n,al.length = n:=⟨_,rfl⟩
 rw [hn]
 have hn':=Lib.hid hn
 clear hn
 go_enter Tryz.func13,Tryz.ntmps13
 go_upto_region 1 with (fail)
 obtain ⟨W,yy,hW,⟨z,hz⟩,ca,cb⟩:=box2n V _ _ 30 9
 rw [hW]
 have b4:=ca 4 _ rfl
 have d0:=cb 0 _ rfl ⟨#[],W.drawn⟩
 rw [plus_self] at d0
 have hcall:=(first_Table Ta.cells shp_ta (fun x=>x.name.toList == nm.toList) 31 #[] #[.pointer (some ⟨V.heap.size + 1,0,none⟩)] K W ⟨ap,ac,al⟩ (by rw [hz];exact hA'.out.plus (fun _ a=>a) z) hl'.out (enters_of Tryz.func31 (by kernel_rfl) rfl) (fun x _=>lit_Table (V.heap.size + 1) nm _ _ _ _ _ _ _ _ _ _ _ W d0)).pure
 simp only [Sl.v] at hcall
 rw [hn'.out] at hcall
 have hc:=Lib.hid hcall
 have hz2:=Lib.hid hz
 clear hW hz ca cb d0 hcall hA' hl' hn'
 go_wp2_with (first | (go_at_call 30;with_reducible refine (hc.out _).mono ?_;rintro r w' ⟨rfl,x,rfl⟩))
 go_ret
 exact ⟨rfl,by rw [hz2.out,plus_plus];exact ⟨_,rfl⟩⟩
set_option maxRecDepth 100000 in
set_option maxHeartbeats 4000000 in
theorem res_firstField (K:Fd → Prop) (A:Sl Fd) (nm:ByteArray) (w:World) (hA:A.In w 2 Fd.cells K) (hl:A.l.length ≤ 1048576):Kp Tryz.prog w 107 #[A.v,.string nm] (.int .i64 (fdI A.l nm)):=by
 intro y0
 have hA:=hA.plus (fun _ a=>a) y0
 obtain ⟨V,hV⟩:∃ V,plus w y0 = V:=⟨_,rfl⟩
 rw [hV] at hA ⊢
 clear hV
 have hA':=Lib.hid hA
 have hl':=Lib.hid hl
 clear hA hl
 obtain ⟨ap,ac,al⟩:=A
 simp only [Sl.v]
 obtain ⟨n,hn⟩:∃ n,al.length = n:=⟨_,rfl⟩
 rw [hn]
 have hn':=Lib.hid hn
 clear hn
 go_enter Tryz.func107,Tryz.ntmps107
 go_upto_region 1 with (fail)
 obtain ⟨W,yy,hW,⟨z,hz⟩,cb⟩:=box1n V _ 9
 rw [hW]
 have d0:=cb 0 _ rfl ⟨#[],W.drawn⟩
 rw [plus_self] at d0
 have hcall:=(first_Field Fd.cells shp_fd (fun x=>x.name.toList == nm.toList) 144 #[] #[.pointer (some ⟨V.heap.size,0,none⟩)] K W ⟨ap,ac,al⟩ (by rw [hz];exact hA'.out.plus (fun _ a=>a) z) hl'.out (enters_of Tryz.func144 (by kernel_rfl) rfl) (fun x _=>lit_Field V.heap.size nm _ _ W d0)).pure
 simp only [Sl.v] at hcall
 rw [hn'.out] at hcall
 have hc:=Lib.hid hcall
 have hz2:=Lib.hid hz
 clear hW hz cb d0 hcall hA' hl' hn'
 go_wp2_with (first | (go_at_call 143;with_reducible refine (hc.out _).mono ?_;rintro r w' ⟨rfl,x,rfl⟩))
 go_ret
 exact ⟨rfl,by rw [hz2.out,plus_plus];exact ⟨_,rfl⟩⟩
set_option maxRecDepth 100000 in
set_option maxHeartbeats 4000000 in
theorem res_firstName (K:ByteArray → Prop) (A:Sl ByteArray) (nm:ByteArray) (w:World) (hA:A.In w 1 strCells K) (hl:A.l.length ≤ 1048576):Kp Tryz.prog w 113 #[A.v,.string nm] (.int .i64 (nmI A.l nm)):=by
 intro y0
 have hA:=hA.plus (fun _ a=>a) y0
 obtain ⟨V,hV⟩:∃ V,plus w y0 = V:=⟨_,rfl⟩
 rw [hV] at hA ⊢
 clear hV
 have hA':=Lib.hid hA
 have hl':=Lib.hid hl
 clear hA hl
 obtain ⟨ap,ac,al⟩:=A
 simp only [Sl.v]
 obtain ⟨n,hn⟩:∃ n,al.length = n:=⟨_,rfl⟩
 rw [hn]
 have hn':=Lib.hid hn
 clear hn
 go_enter Tryz.func113,Tryz.ntmps113
 go_upto_region 1 with (fail)
 obtain ⟨W,yy,hW,⟨z,hz⟩,cb⟩:=box1n V _ 9
 rw [hW]
 have d0:=cb 0 _ rfl ⟨#[],W.drawn⟩
 rw [plus_self] at d0
 have hcall:=(first_string (fun x=>x.toList == nm.toList) 146 #[] #[.pointer (some ⟨V.heap.size,0,none⟩)] K W ⟨ap,ac,al⟩ (by rw [hz];exact hA'.out.plus (fun _ a=>a) z) hl'.out (enters_of Tryz.func146 (by kernel_rfl) rfl) (fun x _=>lit_string V.heap.size nm _ W d0)).pure
 simp only [Sl.v] at hcall
 rw [hn'.out] at hcall
 have hc:=Lib.hid hcall
 have hz2:=Lib.hid hz
 clear hW hz cb d0 hcall hA' hl' hn'
 go_wp2_with (first | (go_at_call 145;with_reducible refine (hc.out _).mono ?_;rintro r w' ⟨rfl,x,rfl⟩))
 go_ret
 exact ⟨rfl,by rw [hz2.out,plus_plus];exact ⟨_,rfl⟩⟩
set_option maxRecDepth 100000 in
set_option maxHeartbeats 4000000 in
theorem res_Meta (p0:Option Addr) (n0 c0:Nat) (p2:Option Addr) (n2 c2:Nat) (p3:Option Addr) (n3 c3:Nat) (p4:Option Addr) (n4 c4:Nat) (p5:Option Addr) (n5 c5:Nat) (p6:Option Addr) (n6 c6:Nat) (K:Fd → Prop) (A:Sl Fd) (nm:ByteArray) (w:World) (hA:A.In w 2 Fd.cells K) (hl:A.l.length ≤ 1048576):Kp Tryz.prog w 66 #[.agg #[.slice p0 n0 c0,A.v,.slice p2 n2 c2,.slice p3 n3 c3,.slice p4 n4 c4,.slice p5 n5 c5,.slice p6 n6 c6],.string nm] (.int .i64 (fdI A.l nm)):=by
 intro y0
 have hc:=(res_firstField K A nm w hA hl).up y0
 obtain ⟨V,hV⟩:∃ V,plus w y0 = V:=⟨_,rfl⟩
 rw [hV] at hc ⊢
 clear hV hA hl
 obtain ⟨ap,ac,al⟩:=A
 simp only [Sl.v] at hc ⊢
 obtain ⟨n,hn⟩:∃ n,al.length = n:=⟨_,rfl⟩
 rw [hn] at hc ⊢
 have hc':=Lib.hid hc
 clear hn hc
 go_enter Tryz.func66,Tryz.ntmps66
 go_upto_region 1 with (fail)
 obtain ⟨W,yy,hW,⟨z,hz⟩,ca⟩:=box1n V _ 30
 rw [hW]
 have b1:=ca 1 _ rfl
 have qc:=Lib.hid (kp_at hz hc'.out)
 have hz2:=Lib.hid hz
 clear hW hz ca hc'
 go_wp2_with (first | (go_at_call 107;with_reducible refine (qc.out _).mono ?_;rintro r w' ⟨rfl,x,rfl⟩))
 go_ret
 exact ⟨rfl,by rw [hz2.out,plus_plus];exact ⟨_,rfl⟩⟩
/-- A state's number, and whether there is one. -/
def stI (l:List Sa) (s:ByteArray):Int × Bool :=
 if s.toList == [97,99,99,101,112,116] then (-1,true) else if s.toList == [114,101,106,101,99,116] then (-2,true) else if saI l s == -1 then (0,false) else (saI l s,true)
set_option maxRecDepth 100000 in
set_option maxHeartbeats 4000000 in
theorem res_State (p0:Option Addr) (n0 c0:Nat) (p1:Option Addr) (n1 c1:Nat) (p3:Option Addr) (n3 c3:Nat) (p4:Option Addr) (n4 c4:Nat) (p5:Option Addr) (n5 c5:Nat) (p6:Option Addr) (n6 c6:Nat) (K:Sa → Prop) (A:Sl Sa) (nm:ByteArray) (w:World) (hA:A.In w 5 Sa.cells K) (hl:A.l.length ≤ 1048576):Kp Tryz.prog w 14 #[.agg #[.slice p0 n0 c0,.slice p1 n1 c1,A.v,.slice p3 n3 c3,.slice p4 n4 c4,.slice p5 n5 c5,.slice p6 n6 c6],.string nm] (.tuple #[.int .i64 (stI A.l nm).1,.bool (stI A.l nm).2]):=by
 intro y0
 have hA:=hA.plus (fun _ a=>a) y0
 obtain ⟨V,hV⟩:∃ V,plus w y0 = V:=⟨_,rfl⟩
 rw [hV] at hA ⊢
 clear hV
 have hA':=Lib.hid hA
 have hl':=Lib.hid hl
 clear hA hl
 obtain ⟨ap,ac,al⟩:=A
 simp only [Sl.v]
 obtain ⟨n,hn⟩:∃ n,al.length = n:=⟨_,rfl⟩
 rw [hn]
 have hn':=Lib.hid hn
 clear hn
 obtain ⟨R,hR⟩:∃ R,stI al nm = R:=⟨_,rfl⟩
 rw [hR]
 have hR':=Lib.hid hR
 clear hR
 go_enter Tryz.func14,Tryz.ntmps14
 go_upto_region 1 with (fail)
 obtain ⟨W,yy,hW,⟨z,hz⟩,ca,cb⟩:=box2n V _ _ 30 9
 rw [hW]
 have b2:=ca 2 _ rfl
 have e0:=cb 0 _ rfl
 have d0:=cb 0 _ rfl ⟨#[],W.drawn⟩
 rw [plus_self] at d0
 have hcall:=(first_State Sa.cells shp_sa (fun x=>x.name.toList == nm.toList) 33 #[] #[.pointer (some ⟨V.heap.size + 1,0,none⟩)] K W ⟨ap,ac,al⟩ (by rw [hz];exact hA'.out.plus (fun _ a=>a) z) hl'.out (enters_of Tryz.func33 (by kernel_rfl) rfl) (fun x _=>lit_State (V.heap.size + 1) nm _ _ _ _ _ _ _ _ _ _ _ W d0)).pure
 simp only [Sl.v] at hcall
 rw [hn'.out] at hcall
 have hI:=Lib.hid (show firstI (fun x=>x.name.toList == nm.toList) al 0 = saI al nm from rfl)
 rw [hI.out] at hcall
 have hc:=Lib.hid hcall
 have hz2:=Lib.hid hz
 clear hW hz ca cb d0 hcall hA' hl' hn' hI
 have hR:=hR'.out
 unfold stI at hR
 by_cases q1:(nm.toList == [97,99,99,101,112,116]) = true
 ·rw [if_pos q1] at hR
  have hR2:=Lib.hid hR
  clear hR hR' hc
  go_wp2
  go_ret2
  exact ⟨by rw [← hR2.out] <;> rfl,by rw [hz2.out,plus_plus];exact ⟨_,rfl⟩⟩
 have q1:(nm.toList == [97,99,99,101,112,116]) = false:=by simpa using q1
 rw [if_neg (by rw [q1];decide)] at hR
 by_cases q2:(nm.toList == [114,101,106,101,99,116]) = true
 ·rw [if_pos q2] at hR
  have hR2:=Lib.hid hR
  clear hR hR' hc
  go_wp2
  go_ret2
  exact ⟨by rw [← hR2.out] <;> rfl,by rw [hz2.out,plus_plus];exact ⟨_,rfl⟩⟩
 have q2:(nm.toList == [114,101,106,101,99,116]) = false:=by simpa using q2
 rw [if_neg (by rw [q2];decide)] at hR
 obtain ⟨I,hI⟩:∃ I,saI al nm = I:=⟨_,rfl⟩
 rw [hI] at hR hc
 clear hI hR'
 by_cases q3:I = -1
 ·rw [q3] at hR hc
  have hR2:=Lib.hid hR
  clear hR q3
  go_wp2_with (first | (go_at_call 32;with_reducible refine (hc.out _).mono ?_;rintro r w' ⟨rfl,x,rfl⟩))
  go_ret2
  exact ⟨by rw [← hR2.out] <;> rfl,by rw [hz2.out,plus_plus];exact ⟨_,rfl⟩⟩
 ·rw [if_neg (by simpa using q3)] at hR
  have hR2:=Lib.hid hR
  have q4:(I == -1) = false:=by simpa using q3
  clear hR
  go_wp2_with (first | (go_at_call 32;with_reducible refine (hc.out _).mono ?_;rintro r w' ⟨rfl,x,rfl⟩))
  go_ret2
  exact ⟨by rw [← hR2.out] <;> rfl,by rw [hz2.out,plus_plus];exact ⟨_,rfl⟩⟩
theorem pr_len1 {p:Pr} (hz:p.sz ≤ 1048576):p.headers.l.length ≤ 1048576 ∧ p.metas.l.length ≤ 1048576 ∧ p.states.l.length ≤ 1048576 ∧ p.actions.l.length ≤ 1048576 ∧ p.tables.l.length ≤ 1048576 ∧ p.emit.l.length ≤ 1048576:=by
 have hs:p.sz = p.headers.size Hr.sz + p.metas.size Fd.sz + p.states.size Sa.sz + p.actions.size Ac.sz + p.tables.size Ta.sz + p.control.size St.sz + p.emit.size strSize:=rfl
 exact ⟨len_le Hr.sz (fun y=>by unfold Hr.sz;omega) p.headers (by omega),len_le Fd.sz Fd.sz_pos p.metas (by omega),len_le Sa.sz (fun y=>by unfold Sa.sz;omega) p.states (by omega),len_le Ac.sz (fun y=>by unfold Ac.sz;omega) p.actions (by omega),len_le Ta.sz (fun y=>by unfold Ta.sz;omega) p.tables (by omega),len_le strSize strSize_pos p.emit (by omega)⟩
section
variable (p:Pr) (w:World) (h:p.In w) (hz:p.sz ≤ 1048576) (s:ByteArray)
include h hz
theorem q_Header:Kp Tryz.prog w 10 #[.agg #[.slice p.headers.p p.headers.l.length p.headers.cap,.slice p.metas.p p.metas.l.length p.metas.cap,.slice p.states.p p.states.l.length p.states.cap,.slice p.actions.p p.actions.l.length p.actions.cap,.slice p.tables.p p.tables.l.length p.tables.cap,.slice p.control.p p.control.l.length p.control.cap,.slice p.emit.p p.emit.l.length p.emit.cap],.string s] (.int .i64 (hdI p.headers.l s)):=res_Header _ _ _ _ _ _ _ _ _ _ _ _ _ _ _ _ _ _ _ p.headers s w h.headers (pr_len1 hz).1
theorem q_Meta:Kp Tryz.prog w 66 #[.agg #[.slice p.headers.p p.headers.l.length p.headers.cap,.slice p.metas.p p.metas.l.length p.metas.cap,.slice p.states.p p.states.l.length p.states.cap,.slice p.actions.p p.actions.l.length p.actions.cap,.slice p.tables.p p.tables.l.length p.tables.cap,.slice p.control.p p.control.l.length p.control.cap,.slice p.emit.p p.emit.l.length p.emit.cap],.string s] (.int .i64 (fdI p.metas.l s)):=res_Meta _ _ _ _ _ _ _ _ _ _ _ _ _ _ _ _ _ _ _ p.metas s w h.metas (pr_len1 hz).2.1
theorem q_State:Kp Tryz.prog w 14 #[.agg #[.slice p.headers.p p.headers.l.length p.headers.cap,.slice p.metas.p p.metas.l.length p.metas.cap,.slice p.states.p p.states.l.length p.states.cap,.slice p.actions.p p.actions.l.length p.actions.cap,.slice p.tables.p p.tables.l.length p.tables.cap,.slice p.control.p p.control.l.length p.control.cap,.slice p.emit.p p.emit.l.length p.emit.cap],.string s] (.tuple #[.int .i64 (stI p.states.l s).1,.bool (stI p.states.l s).2]):=res_State _ _ _ _ _ _ _ _ _ _ _ _ _ _ _ _ _ _ _ p.states s w h.states (pr_len1 hz).2.2.1
theorem q_Action:Kp Tryz.prog w 12 #[.agg #[.slice p.headers.p p.headers.l.length p.headers.cap,.slice p.metas.p p.metas.l.length p.metas.cap,.slice p.states.p p.states.l.length p.states.cap,.slice p.actions.p p.actions.l.length p.actions.cap,.slice p.tables.p p.tables.l.length p.tables.cap,.slice p.control.p p.control.l.length p.control.cap,.slice p.emit.p p.emit.l.length p.emit.cap],.string s] (.int .i64 (acI p.actions.l s)):=res_Action _ _ _ _ _ _ _ _ _ _ _ _ _ _ _ _ _ _ _ p.actions s w h.actions (pr_len1 hz).2.2.2.1
theorem q_Table:Kp Tryz.prog w 13 #[.agg #[.slice p.headers.p p.headers.l.length p.headers.cap,.slice p.metas.p p.metas.l.length p.metas.cap,.slice p.states.p p.states.l.length p.states.cap,.slice p.actions.p p.actions.l.length p.actions.cap,.slice p.tables.p p.tables.l.length p.tables.cap,.slice p.control.p p.control.l.length p.control.cap,.slice p.emit.p p.emit.l.length p.emit.cap],.string s] (.int .i64 (taI p.tables.l s)):=res_Table _ _ _ _ _ _ _ _ _ _ _ _ _ _ _ _ _ _ _ p.tables s w h.tables (pr_len1 hz).2.2.2.2.1
end
set_option maxRecDepth 100000 in
set_option maxHeartbeats 8000000 in
theorem q_alone (a b:Int) (w:World):Kp Tryz.prog w 64 #[.int .i64 a,.int .i64 b] (.int .i64 (if a = b then 0 else 8)):=by
 intro y0
 obtain ⟨V,hV⟩:∃ V,plus w y0 = V:=⟨_,rfl⟩
 rw [hV]
 clear hV
 by_cases q:a = b
 ·rw [if_pos q]
  subst q
  go_enter Tryz.func64,Tryz.ntmps64
  go_wp2
  go_ret
  exact ⟨rfl,_,(plus_self _).symm⟩
 ·rw [if_neg q]
  go_enter Tryz.func64,Tryz.ntmps64
  go_wp2
  go_ret
  exact ⟨rfl,_,(plus_self _).symm⟩
set_option maxRecDepth 100000 in
set_option maxHeartbeats 8000000 in
theorem q_known (a:Int) (w:World):Kp Tryz.prog w 67 #[.int .i64 a] (.int .i64 (if a = -1 then 7 else 0)):=by
 intro y0
 obtain ⟨V,hV⟩:∃ V,plus w y0 = V:=⟨_,rfl⟩
 rw [hV]
 clear hV
 by_cases q:a = -1
 ·rw [if_pos q]
  subst q
  go_enter Tryz.func67,Tryz.ntmps67
  go_wp2
  go_ret
  exact ⟨rfl,_,(plus_self _).symm⟩
 ·rw [if_neg q]
  go_enter Tryz.func67,Tryz.ntmps67
  go_wp2
  go_ret
  exact ⟨rfl,_,(plus_self _).symm⟩
set_option maxRecDepth 100000 in
set_option maxHeartbeats 8000000 in
theorem q_wrongTarget (p:Pr) (w:World) (h:p.In w) (hz:p.sz ≤ 1048576) (s:ByteArray):Kp Tryz.prog w 69 #[.agg #[.slice p.headers.p p.headers.l.length p.headers.cap,.slice p.metas.p p.metas.l.length p.metas.cap,.slice p.states.p p.states.l.length p.states.cap,.slice p.actions.p p.actions.l.length p.actions.cap,.slice p.tables.p p.tables.l.length p.tables.cap,.slice p.control.p p.control.l.length p.control.cap,.slice p.emit.p p.emit.l.length p.emit.cap],.string s] (.int .i64 (if (stI p.states.l s).2 then 0 else 7)):=by
 intro y0
 have hS:=(q_State p w h hz s).up y0
 obtain ⟨V,hV⟩:∃ V,plus w y0 = V:=⟨_,rfl⟩
 rw [hV] at hS ⊢
 clear hV h hz
 obtain ⟨⟨I,b⟩,hR⟩:∃ R,stI p.states.l s = R:=⟨_,rfl⟩
 rw [hR] at hS ⊢
 have hS':=Lib.hid hS
 clear hS hR
 go_enter Tryz.func69,Tryz.ntmps69
 go_upto_region 1 with (fail)
 obtain ⟨W,yy,hW,⟨z,hz⟩,ca⟩:=box1n V _ 30
 rw [hW]
 have c0:=ca 0 _ rfl
 have c1:=ca 1 _ rfl
 have c2:=ca 2 _ rfl
 have c3:=ca 3 _ rfl
 have c4:=ca 4 _ rfl
 have c5:=ca 5 _ rfl
 have c6:=ca 6 _ rfl
 have qc:=Lib.hid (kp_at hz hS'.out)
 have hz2:=Lib.hid hz
 clear hW hz ca hS'
 cases b with
 | true =>
  go_wp2_with (first | (go_at_call 14;with_reducible refine (qc.out _).mono ?_;rintro r w' ⟨rfl,x,rfl⟩))
  go_ret
  exact ⟨rfl,by rw [hz2.out,plus_plus];exact ⟨_,rfl⟩⟩
 | false =>
  go_wp2_with (first | (go_at_call 14;with_reducible refine (qc.out _).mono ?_;rintro r w' ⟨rfl,x,rfl⟩))
  go_ret
  exact ⟨rfl,by rw [hz2.out,plus_plus];exact ⟨_,rfl⟩⟩
/-- A header's field of a name. -/
def fieldI (p:Pr) (i:Int) (s:ByteArray):Int:=if i < 0 then -1 else match p.headers.l[i.toNat]? with | none=>-1 | some x=>fdI x.fields.l s
set_option maxRecDepth 100000 in
set_option maxHeartbeats 8000000 in
theorem q_Field (p:Pr) (w:World) (h:p.In w) (hz:p.sz ≤ 1048576) (i:Int) (s:ByteArray):Kp Tryz.prog w 65 #[.agg #[.slice p.headers.p p.headers.l.length p.headers.cap,.slice p.metas.p p.metas.l.length p.metas.cap,.slice p.states.p p.states.l.length p.states.cap,.slice p.actions.p p.actions.l.length p.actions.cap,.slice p.tables.p p.tables.l.length p.tables.cap,.slice p.control.p p.control.l.length p.control.cap,.slice p.emit.p p.emit.l.length p.emit.cap],.int .i64 i,.string s] (.int .i64 (fieldI p i s)):=by
 intro y0
 have hr:=h.headers.row.plus y0
 have hf:∀ x ∈ p.headers.l,Kp Tryz.prog w 107 #[x.fields.v,.string s] (.int .i64 (fdI x.fields.l s)):=fun x hx=>by
  have h1:=le_sum_of Hr.sz p.headers.l x hx
  have h2:p.sz = p.headers.size Hr.sz + p.metas.size Fd.sz + p.states.size Sa.sz + p.actions.size Ac.sz + p.tables.size Ta.sz + p.control.size St.sz + p.emit.size strSize:=rfl
  have h3:p.headers.size Hr.sz = (p.headers.l.map Hr.sz).sum:=rfl
  have h4:x.fields.size Fd.sz ≤ x.sz:=by unfold Hr.sz;omega
  exact res_firstField _ x.fields s w (h.headers.kids x hx).fields (len_le Fd.sz Fd.sz_pos x.fields (by omega))
 have hf:=fun x hx=>(hf x hx).up y0
 obtain ⟨V,hV⟩:∃ V,plus w y0 = V:=⟨_,rfl⟩
 simp only [hV] at hf hr ⊢
 clear hV h hz
 have hf':=Lib.hid hf
 have hr':=Lib.hid hr
 clear hf hr
 obtain ⟨R,hR⟩:∃ R,fieldI p i s = R:=⟨_,rfl⟩
 rw [hR]
 have hR':=Lib.hid hR
 clear hR
 obtain ⟨A,hA⟩:∃ A,p.headers = A:=⟨_,rfl⟩
 have hA':=Lib.hid hA
 rw [hA]
 clear hA
 obtain ⟨ap,ac,al⟩:=A
 obtain ⟨n,hn⟩:∃ n,al.length = n:=⟨_,rfl⟩
 simp only [hn]
 have hn':=Lib.hid hn
 clear hn
 go_enter Tryz.func65,Tryz.ntmps65
 go_upto_region 1 with (fail)
 obtain ⟨W,yy,hW,⟨z,hz⟩,ca⟩:=box1n V _ 30
 rw [hW]
 have c0:=ca 0 _ rfl
 have hz2:=Lib.hid hz
 clear hW ca
 by_cases q1:i < 0
 ·have e:=Lib.hid (show (-1:Int) = R by rw [← hR'.out];unfold fieldI;rw [if_pos q1])
  clear hR' hf' hr' hz hA'
  go_wp2
  go_ret
  exact ⟨congrArg (fun z=>Ending.returned (Value.int .i64 z)) e.out,by rw [hz2.out,plus_plus];exact ⟨_,rfl⟩⟩
 obtain ⟨k,rfl⟩:∃ k:Nat,i = (k:Int):=⟨i.toNat,by omega⟩
 clear q1
 by_cases q2:k < n
 ·obtain ⟨x,hx⟩:∃ x,al[k]? = some x:=⟨al[k]'(by rw [hn'.out];exact q2),List.getElem?_eq_getElem _⟩
  have e:=Lib.hid (show fdI x.fields.l s = R by rw [← hR'.out];unfold fieldI;rw [if_neg (by omega),Int.toNat_natCast,hA'.out];simp only [hx])
  rw [hA'.out] at hr' hf'
  obtain ⟨pa,ha,hc⟩:=hr'.out k x hx
  simp only at ha
  subst ha
  have hc:=cells_up hz hc
  have qc:=Lib.hid (kp_at hz (hf'.out x (List.mem_of_getElem? hx)))
  have d0:=fun y=>(hc.plus y).c0 _ rfl
  have d1:=fun y=>(hc.plus y).cs 0 _ rfl
  clear hR' hf' hr' hz hA' hc hx hn'
  simp only [Hr.cells,Sl.v] at *
  go_wp2_with (first | (go_at_call 107;with_reducible refine (qc.out _).mono ?_;rintro r w' ⟨rfl,x,rfl⟩))
  go_ret
  exact ⟨congrArg (fun z=>Ending.returned (Value.int .i64 z)) e.out,by rw [hz2.out,plus_plus];exact ⟨_,rfl⟩⟩
 ·have e:=Lib.hid (show (-1:Int) = R by
   rw [← hR'.out];unfold fieldI;rw [if_neg (by omega),Int.toNat_natCast,hA'.out]
   simp only [List.getElem?_eq_none (show al.length ≤ k by rw [hn'.out];omega)])
  clear hR' hf' hr' hz hA'
  go_wp2
  go_ret
  exact ⟨congrArg (fun z=>Ending.returned (Value.int .i64 z)) e.out,by rw [hz2.out,plus_plus];exact ⟨_,rfl⟩⟩
/-- A action's field of a name. -/
def paramI (p:Pr) (i:Int) (s:ByteArray):Int:=if i < 0 then -1 else match p.actions.l[i.toNat]? with | none=>-1 | some x=>fdI x.params.l s
set_option maxRecDepth 100000 in
set_option maxHeartbeats 8000000 in
theorem q_Param (p:Pr) (w:World) (h:p.In w) (hz:p.sz ≤ 1048576) (i:Int) (s:ByteArray):Kp Tryz.prog w 70 #[.agg #[.slice p.headers.p p.headers.l.length p.headers.cap,.slice p.metas.p p.metas.l.length p.metas.cap,.slice p.states.p p.states.l.length p.states.cap,.slice p.actions.p p.actions.l.length p.actions.cap,.slice p.tables.p p.tables.l.length p.tables.cap,.slice p.control.p p.control.l.length p.control.cap,.slice p.emit.p p.emit.l.length p.emit.cap],.int .i64 i,.string s] (.int .i64 (paramI p i s)):=by
 intro y0
 have hr:=h.actions.row.plus y0
 have hf:∀ x ∈ p.actions.l,Kp Tryz.prog w 107 #[x.params.v,.string s] (.int .i64 (fdI x.params.l s)):=fun x hx=>by
  have h1:=le_sum_of Ac.sz p.actions.l x hx
  have h2:p.sz = p.headers.size Hr.sz + p.metas.size Fd.sz + p.states.size Sa.sz + p.actions.size Ac.sz + p.tables.size Ta.sz + p.control.size St.sz + p.emit.size strSize:=rfl
  have h3:p.actions.size Ac.sz = (p.actions.l.map Ac.sz).sum:=rfl
  have h4:x.params.size Fd.sz ≤ x.sz:=by unfold Ac.sz;omega
  exact res_firstField _ x.params s w (h.actions.kids x hx).params (len_le Fd.sz Fd.sz_pos x.params (by omega))
 have hf:=fun x hx=>(hf x hx).up y0
 obtain ⟨V,hV⟩:∃ V,plus w y0 = V:=⟨_,rfl⟩
 simp only [hV] at hf hr ⊢
 clear hV h hz
 have hf':=Lib.hid hf
 have hr':=Lib.hid hr
 clear hf hr
 obtain ⟨R,hR⟩:∃ R,paramI p i s = R:=⟨_,rfl⟩
 rw [hR]
 have hR':=Lib.hid hR
 clear hR
 obtain ⟨A,hA⟩:∃ A,p.actions = A:=⟨_,rfl⟩
 have hA':=Lib.hid hA
 rw [hA]
 clear hA
 obtain ⟨ap,ac,al⟩:=A
 obtain ⟨n,hn⟩:∃ n,al.length = n:=⟨_,rfl⟩
 simp only [hn]
 have hn':=Lib.hid hn
 clear hn
 go_enter Tryz.func70,Tryz.ntmps70
 go_upto_region 1 with (fail)
 obtain ⟨W,yy,hW,⟨z,hz⟩,ca⟩:=box1n V _ 30
 rw [hW]
 have c3:=ca 3 _ rfl
 have hz2:=Lib.hid hz
 clear hW ca
 by_cases q1:i < 0
 ·have e:=Lib.hid (show (-1:Int) = R by rw [← hR'.out];unfold paramI;rw [if_pos q1])
  clear hR' hf' hr' hz hA'
  go_wp2
  go_ret
  exact ⟨congrArg (fun z=>Ending.returned (Value.int .i64 z)) e.out,by rw [hz2.out,plus_plus];exact ⟨_,rfl⟩⟩
 obtain ⟨k,rfl⟩:∃ k:Nat,i = (k:Int):=⟨i.toNat,by omega⟩
 clear q1
 by_cases q2:k < n
 ·obtain ⟨x,hx⟩:∃ x,al[k]? = some x:=⟨al[k]'(by rw [hn'.out];exact q2),List.getElem?_eq_getElem _⟩
  have e:=Lib.hid (show fdI x.params.l s = R by rw [← hR'.out];unfold paramI;rw [if_neg (by omega),Int.toNat_natCast,hA'.out];simp only [hx])
  rw [hA'.out] at hr' hf'
  obtain ⟨pa,ha,hc⟩:=hr'.out k x hx
  simp only at ha
  subst ha
  have hc:=cells_up hz hc
  have qc:=Lib.hid (kp_at hz (hf'.out x (List.mem_of_getElem? hx)))
  have d0:=fun y=>(hc.plus y).c0 _ rfl
  have d1:=fun y=>(hc.plus y).cs 0 _ rfl
  have d2:=fun y=>(hc.plus y).cs 1 _ rfl
  clear hR' hf' hr' hz hA' hc hx hn'
  simp only [Ac.cells,Sl.v] at *
  go_wp2_with (first | (go_at_call 107;with_reducible refine (qc.out _).mono ?_;rintro r w' ⟨rfl,x,rfl⟩))
  go_ret
  exact ⟨congrArg (fun z=>Ending.returned (Value.int .i64 z)) e.out,by rw [hz2.out,plus_plus];exact ⟨_,rfl⟩⟩
 ·have e:=Lib.hid (show (-1:Int) = R by
   rw [← hR'.out];unfold paramI;rw [if_neg (by omega),Int.toNat_natCast,hA'.out]
   simp only [List.getElem?_eq_none (show al.length ≤ k by rw [hn'.out];omega)])
  clear hR' hf' hr' hz hA'
  go_wp2
  go_ret
  exact ⟨congrArg (fun z=>Ending.returned (Value.int .i64 z)) e.out,by rw [hz2.out,plus_plus];exact ⟨_,rfl⟩⟩
end Go.Proofs.YtlmhldcebllckaaGreat
