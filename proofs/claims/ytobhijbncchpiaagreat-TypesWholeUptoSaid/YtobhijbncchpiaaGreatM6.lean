/-
  WHAT IS PROVED HERE: a part of the proof (made narrower and merged by program; the parts: Zc Zd Ze).
-/
import Derived.Test.YtobhijbncchpiaaGreatM4
import Derived.Test.YtobhijbncchpiaaGreatM5
namespace Go.Proofs.YtobhijbncchpiaaGreat
open Go.RowKit
theorem cells_up {V W:World} {z:Ext} {a:Addr} {cs:List Value} (hz:W=plus V z) (h:CellsAt V a cs):CellsAt W a cs:=by rw [hz];exact h.plus z
/-- Where the first one of a name is. -/
def hdI (l:List Hr) (s:ByteArray):Int:=firstI (fun x=>x.name.toList == s.toList) l 0
def saI (l:List Sa) (s:ByteArray):Int:=firstI (fun x=>x.name.toList == s.toList) l 0
def acI (l:List Ac) (s:ByteArray):Int:=firstI (fun x=>x.name.toList == s.toList) l 0
def taI (l:List Ta) (s:ByteArray):Int:=firstI (fun x=>x.name.toList == s.toList) l 0
def fdI (l:List Fd) (s:ByteArray):Int:=firstI (fun x=>x.name.toList == s.toList) l 0
def nmI (l:List ByteArray) (s:ByteArray):Int:=firstI (fun x=>x.toList == s.toList) l 0
theorem firstI_ge {α:Type} (q:α→Bool):∀ (l:List α) (k:Nat),firstI q l k=-1∨((k:Int)≤firstI q l k∧firstI q l k < (k:Int)+(l.length:Int))
 | [],_=>.inl rfl
 | x :: l,k=>by
  unfold firstI
  split
  ·right;simp only [List.length_cons];omega
  ·rcases firstI_ge q l (k+1) with h | ⟨h1,h2⟩
   ·exact .inl h
   ·right;simp only [List.length_cons];omega
set_option maxRecDepth 100000 in
set_option maxHeartbeats 4000000 in
theorem res_Header (p1:Option Addr) (n1 c1:Nat) (p2:Option Addr) (n2 c2:Nat) (p3:Option Addr) (n3 c3:Nat) (p4:Option Addr) (n4 c4:Nat) (p5:Option Addr) (n5 c5:Nat) (p6:Option Addr) (n6 c6:Nat) (K:Hr→Prop) (A:Sl Hr) (nm:ByteArray) (w:World) (hA:A.In w 2 Hr.cells K) (hl:A.l.length≤1048576):Kp Tryz.prog w 87 #[.agg #[A.v,.slice p1 n1 c1,.slice p2 n2 c2,.slice p3 n3 c3,.slice p4 n4 c4,.slice p5 n5 c5,.slice p6 n6 c6],.string nm] (.int .i64 (hdI A.l nm)):=by
 intro y0
 have hA:=hA.plus (fun _ a=>a) y0
 obtain⟨V,hV⟩:∃ V,plus w y0=V:=⟨_,rfl⟩
 rw [hV] at hA ⊢
 clear hV
 have hA':=Lib.hid hA
 have hl':=Lib.hid hl
 clear hA hl
 obtain⟨ap,ac,al⟩:=A
 simp only [Sl.v]
 obtain⟨n,hn⟩:∃ n,al.length=n:=⟨_,rfl⟩
 rw [hn]
 have hn':=Lib.hid hn
 clear hn
 go_enter Tryz.func87,Tryz.ntmps87
 go_upto_region 1 with (fail)
 obtain⟨W,yy,hW,⟨z,hz⟩,ca,cb⟩:=box2n V _ _ 30 9
 rw [hW]
 have b0:=ca 0 _ rfl
 have d0:=cb 0 _ rfl ⟨#[],W.drawn⟩
 rw [plus_self] at d0
 have hcall:=(first_Header Hr.cells shp_hr (fun x=>x.name.toList == nm.toList) 152 #[] #[.pointer (some ⟨V.heap.size+1,0,none⟩)] K W ⟨ap,ac,al⟩ (by rw [hz];exact hA'.out.plus (fun _ a=>a) z) hl'.out (enters_of Tryz.func152 (by kernel_rfl) rfl) (fun x _=>lit_Header (V.heap.size+1) nm _ _ _ _ W d0)).pure
 simp only [Sl.v] at hcall
 rw [hn'.out] at hcall
 have hc:=Lib.hid hcall
 have hz2:=Lib.hid hz
 clear hW hz ca cb d0 hcall hA' hl' hn'
 go_wp2_with (first|(go_at_call 151;with_reducible refine (hc.out _).mono ?_;rintro r w' ⟨rfl,x,rfl⟩))
 go_ret
 exact⟨rfl,by rw [hz2.out,plus_plus];exact⟨_,rfl⟩⟩
set_option maxRecDepth 100000 in
set_option maxHeartbeats 4000000 in
theorem res_Action (p0:Option Addr) (n0 c0:Nat) (p1:Option Addr) (n1 c1:Nat) (p2:Option Addr) (n2 c2:Nat) (p4:Option Addr) (n4 c4:Nat) (p5:Option Addr) (n5 c5:Nat) (p6:Option Addr) (n6 c6:Nat) (K:Ac→Prop) (A:Sl Ac) (nm:ByteArray) (w:World) (hA:A.In w 3 Ac.cells K) (hl:A.l.length≤1048576):Kp Tryz.prog w 90 #[.agg #[.slice p0 n0 c0,.slice p1 n1 c1,.slice p2 n2 c2,A.v,.slice p4 n4 c4,.slice p5 n5 c5,.slice p6 n6 c6],.string nm] (.int .i64 (acI A.l nm)):=by
 intro y0
 have hA:=hA.plus (fun _ a=>a) y0
 obtain⟨V,hV⟩:∃ V,plus w y0=V:=⟨_,rfl⟩
 rw [hV] at hA ⊢
 clear hV
 have hA':=Lib.hid hA
 have hl':=Lib.hid hl
 clear hA hl
 obtain⟨ap,ac,al⟩:=A
 simp only [Sl.v]
 obtain⟨n,hn⟩:∃ n,al.length=n:=⟨_,rfl⟩
 rw [hn]
 have hn':=Lib.hid hn
 clear hn
 go_enter Tryz.func90,Tryz.ntmps90
 go_upto_region 1 with (fail)
 obtain⟨W,yy,hW,⟨z,hz⟩,ca,cb⟩:=box2n V _ _ 30 9
 rw [hW]
 have b3:=ca 3 _ rfl
 have d0:=cb 0 _ rfl ⟨#[],W.drawn⟩
 rw [plus_self] at d0
 have hcall:=(first_Action Ac.cells shp_ac (fun x=>x.name.toList == nm.toList) 154 #[] #[.pointer (some ⟨V.heap.size+1,0,none⟩)] K W ⟨ap,ac,al⟩ (by rw [hz];exact hA'.out.plus (fun _ a=>a) z) hl'.out (enters_of Tryz.func154 (by kernel_rfl) rfl) (fun x _=>lit_Action (V.heap.size+1) nm _ _ _ _ _ _ _ W d0)).pure
 simp only [Sl.v] at hcall
 rw [hn'.out] at hcall
 have hc:=Lib.hid hcall
 have hz2:=Lib.hid hz
 clear hW hz ca cb d0 hcall hA' hl' hn'
 go_wp2_with (first|(go_at_call 153;with_reducible refine (hc.out _).mono ?_;rintro r w' ⟨rfl,x,rfl⟩))
 go_ret
 exact⟨rfl,by rw [hz2.out,plus_plus];exact⟨_,rfl⟩⟩
set_option maxRecDepth 100000 in
set_option maxHeartbeats 4000000 in
theorem res_Table (p0:Option Addr) (n0 c0:Nat) (p1:Option Addr) (n1 c1:Nat) (p2:Option Addr) (n2 c2:Nat) (p3:Option Addr) (n3 c3:Nat) (p5:Option Addr) (n5 c5:Nat) (p6:Option Addr) (n6 c6:Nat) (K:Ta→Prop) (A:Sl Ta) (nm:ByteArray) (w:World) (hA:A.In w 5 Ta.cells K) (hl:A.l.length≤1048576):Kp Tryz.prog w 93 #[.agg #[.slice p0 n0 c0,.slice p1 n1 c1,.slice p2 n2 c2,.slice p3 n3 c3,A.v,.slice p5 n5 c5,.slice p6 n6 c6],.string nm] (.int .i64 (taI A.l nm)):=by
 intro y0
 have hA:=hA.plus (fun _ a=>a) y0
 obtain⟨V,hV⟩:∃ V,plus w y0=V:=⟨_,rfl⟩
 rw [hV] at hA ⊢
 clear hV
 have hA':=Lib.hid hA
 have hl':=Lib.hid hl
 clear hA hl
 obtain⟨ap,ac,al⟩:=A
 simp only [Sl.v]
 obtain⟨n,hn⟩:∃ n,al.length=n:=⟨_,rfl⟩
 rw [hn]
 have hn':=Lib.hid hn
 clear hn
 go_enter Tryz.func93,Tryz.ntmps93
 go_upto_region 1 with (fail)
 obtain⟨W,yy,hW,⟨z,hz⟩,ca,cb⟩:=box2n V _ _ 30 9
 rw [hW]
 have b4:=ca 4 _ rfl
 have d0:=cb 0 _ rfl ⟨#[],W.drawn⟩
 rw [plus_self] at d0
 have hcall:=(first_Table Ta.cells shp_ta (fun x=>x.name.toList == nm.toList) 157 #[] #[.pointer (some ⟨V.heap.size+1,0,none⟩)] K W ⟨ap,ac,al⟩ (by rw [hz];exact hA'.out.plus (fun _ a=>a) z) hl'.out (enters_of Tryz.func157 (by kernel_rfl) rfl) (fun x _=>lit_Table (V.heap.size+1) nm _ _ _ _ _ _ _ _ _ _ _ W d0)).pure
 simp only [Sl.v] at hcall
 rw [hn'.out] at hcall
 have hc:=Lib.hid hcall
 have hz2:=Lib.hid hz
 clear hW hz ca cb d0 hcall hA' hl' hn'
 go_wp2_with (first|(go_at_call 156;with_reducible refine (hc.out _).mono ?_;rintro r w' ⟨rfl,x,rfl⟩))
 go_ret
 exact⟨rfl,by rw [hz2.out,plus_plus];exact⟨_,rfl⟩⟩
set_option maxRecDepth 100000 in
set_option maxHeartbeats 4000000 in
theorem res_firstField (K:Fd→Prop) (A:Sl Fd) (nm:ByteArray) (w:World) (hA:A.In w 2 Fd.cells K) (hl:A.l.length≤1048576):Kp Tryz.prog w 148 #[A.v,.string nm] (.int .i64 (fdI A.l nm)):=by
 intro y0
 have hA:=hA.plus (fun _ a=>a) y0
 obtain⟨V,hV⟩:∃ V,plus w y0=V:=⟨_,rfl⟩
 rw [hV] at hA ⊢
 clear hV
 have hA':=Lib.hid hA
 have hl':=Lib.hid hl
 clear hA hl
 obtain⟨ap,ac,al⟩:=A
 simp only [Sl.v]
 obtain⟨n,hn⟩:∃ n,al.length=n:=⟨_,rfl⟩
 rw [hn]
 have hn':=Lib.hid hn
 clear hn
 go_enter Tryz.func148,Tryz.ntmps148
 go_upto_region 1 with (fail)
 obtain⟨W,yy,hW,⟨z,hz⟩,cb⟩:=box1n V _ 9
 rw [hW]
 have d0:=cb 0 _ rfl ⟨#[],W.drawn⟩
 rw [plus_self] at d0
 have hcall:=(first_Field Fd.cells shp_fd (fun x=>x.name.toList == nm.toList) 199 #[] #[.pointer (some ⟨V.heap.size,0,none⟩)] K W ⟨ap,ac,al⟩ (by rw [hz];exact hA'.out.plus (fun _ a=>a) z) hl'.out (enters_of Tryz.func199 (by kernel_rfl) rfl) (fun x _=>lit_Field V.heap.size nm _ _ W d0)).pure
 simp only [Sl.v] at hcall
 rw [hn'.out] at hcall
 have hc:=Lib.hid hcall
 have hz2:=Lib.hid hz
 clear hW hz cb d0 hcall hA' hl' hn'
 go_wp2_with (first|(go_at_call 198;with_reducible refine (hc.out _).mono ?_;rintro r w' ⟨rfl,x,rfl⟩))
 go_ret
 exact⟨rfl,by rw [hz2.out,plus_plus];exact⟨_,rfl⟩⟩
set_option maxRecDepth 100000 in
set_option maxHeartbeats 4000000 in
theorem res_firstName (K:ByteArray→Prop) (A:Sl ByteArray) (nm:ByteArray) (w:World) (hA:A.In w 1 strCells K) (hl:A.l.length≤1048576):Kp Tryz.prog w 162 #[A.v,.string nm] (.int .i64 (nmI A.l nm)):=by
 intro y0
 have hA:=hA.plus (fun _ a=>a) y0
 obtain⟨V,hV⟩:∃ V,plus w y0=V:=⟨_,rfl⟩
 rw [hV] at hA ⊢
 clear hV
 have hA':=Lib.hid hA
 have hl':=Lib.hid hl
 clear hA hl
 obtain⟨ap,ac,al⟩:=A
 simp only [Sl.v]
 obtain⟨n,hn⟩:∃ n,al.length=n:=⟨_,rfl⟩
 rw [hn]
 have hn':=Lib.hid hn
 clear hn
 go_enter Tryz.func162,Tryz.ntmps162
 go_upto_region 1 with (fail)
 obtain⟨W,yy,hW,⟨z,hz⟩,cb⟩:=box1n V _ 9
 rw [hW]
 have d0:=cb 0 _ rfl ⟨#[],W.drawn⟩
 rw [plus_self] at d0
 have hcall:=(first_string (fun x=>x.toList == nm.toList) 201 #[] #[.pointer (some ⟨V.heap.size,0,none⟩)] K W ⟨ap,ac,al⟩ (by rw [hz];exact hA'.out.plus (fun _ a=>a) z) hl'.out (enters_of Tryz.func201 (by kernel_rfl) rfl) (fun x _=>lit_string V.heap.size nm _ W d0)).pure
 simp only [Sl.v] at hcall
 rw [hn'.out] at hcall
 have hc:=Lib.hid hcall
 have hz2:=Lib.hid hz
 clear hW hz cb d0 hcall hA' hl' hn'
 go_wp2_with (first|(go_at_call 200;with_reducible refine (hc.out _).mono ?_;rintro r w' ⟨rfl,x,rfl⟩))
 go_ret
 exact⟨rfl,by rw [hz2.out,plus_plus];exact⟨_,rfl⟩⟩
set_option maxRecDepth 100000 in
set_option maxHeartbeats 4000000 in
theorem res_Meta (p0:Option Addr) (n0 c0:Nat) (p2:Option Addr) (n2 c2:Nat) (p3:Option Addr) (n3 c3:Nat) (p4:Option Addr) (n4 c4:Nat) (p5:Option Addr) (n5 c5:Nat) (p6:Option Addr) (n6 c6:Nat) (K:Fd→Prop) (A:Sl Fd) (nm:ByteArray) (w:World) (hA:A.In w 2 Fd.cells K) (hl:A.l.length≤1048576):Kp Tryz.prog w 84 #[.agg #[.slice p0 n0 c0,A.v,.slice p2 n2 c2,.slice p3 n3 c3,.slice p4 n4 c4,.slice p5 n5 c5,.slice p6 n6 c6],.string nm] (.int .i64 (fdI A.l nm)):=by
 intro y0
 have hc:=(res_firstField K A nm w hA hl).up y0
 obtain⟨V,hV⟩:∃ V,plus w y0=V:=⟨_,rfl⟩
 rw [hV] at hc ⊢
 clear hV hA hl
 obtain⟨ap,ac,al⟩:=A
 simp only [Sl.v] at hc ⊢
 obtain⟨n,hn⟩:∃ n,al.length=n:=⟨_,rfl⟩
 rw [hn] at hc ⊢
 have hc':=Lib.hid hc
 clear hn hc
 go_enter Tryz.func84,Tryz.ntmps84
 go_upto_region 1 with (fail)
 obtain⟨W,yy,hW,⟨z,hz⟩,ca⟩:=box1n V _ 30
 rw [hW]
 have b1:=ca 1 _ rfl
 have qc:=Lib.hid (kp_at hz hc'.out)
 have hz2:=Lib.hid hz
 clear hW hz ca hc'
 go_wp2_with (first|(go_at_call 148;with_reducible refine (qc.out _).mono ?_;rintro r w' ⟨rfl,x,rfl⟩))
 go_ret
 exact⟨rfl,by rw [hz2.out,plus_plus];exact⟨_,rfl⟩⟩
/-- A state's number, and whether there is one. -/
def stI (l:List Sa) (s:ByteArray):Int × Bool :=
 if s.toList == [97,99,99,101,112,116] then (-1,true) else if s.toList == [114,101,106,101,99,116] then (-2,true) else if saI l s == -1 then (0,false) else (saI l s,true)
set_option maxRecDepth 100000 in
set_option maxHeartbeats 4000000 in
theorem res_State (p0:Option Addr) (n0 c0:Nat) (p1:Option Addr) (n1 c1:Nat) (p3:Option Addr) (n3 c3:Nat) (p4:Option Addr) (n4 c4:Nat) (p5:Option Addr) (n5 c5:Nat) (p6:Option Addr) (n6 c6:Nat) (K:Sa→Prop) (A:Sl Sa) (nm:ByteArray) (w:World) (hA:A.In w 5 Sa.cells K) (hl:A.l.length≤1048576):Kp Tryz.prog w 85 #[.agg #[.slice p0 n0 c0,.slice p1 n1 c1,A.v,.slice p3 n3 c3,.slice p4 n4 c4,.slice p5 n5 c5,.slice p6 n6 c6],.string nm] (.tuple #[.int .i64 (stI A.l nm).1,.bool (stI A.l nm).2]):=by
 intro y0
 have hA:=hA.plus (fun _ a=>a) y0
 obtain⟨V,hV⟩:∃ V,plus w y0=V:=⟨_,rfl⟩
 rw [hV] at hA ⊢
 clear hV
 have hA':=Lib.hid hA
 have hl':=Lib.hid hl
 clear hA hl
 obtain⟨ap,ac,al⟩:=A
 simp only [Sl.v]
 obtain⟨n,hn⟩:∃ n,al.length=n:=⟨_,rfl⟩
 rw [hn]
 have hn':=Lib.hid hn
 clear hn
 obtain⟨R,hR⟩:∃ R,stI al nm=R:=⟨_,rfl⟩
 rw [hR]
 have hR':=Lib.hid hR
 clear hR
 go_enter Tryz.func85,Tryz.ntmps85
 go_upto_region 1 with (fail)
 obtain⟨W,yy,hW,⟨z,hz⟩,ca,cb⟩:=box2n V _ _ 30 9
 rw [hW]
 have b2:=ca 2 _ rfl
 have e0:=cb 0 _ rfl
 have d0:=cb 0 _ rfl ⟨#[],W.drawn⟩
 rw [plus_self] at d0
 have hcall:=(first_State Sa.cells shp_sa (fun x=>x.name.toList == nm.toList) 150 #[] #[.pointer (some ⟨V.heap.size+1,0,none⟩)] K W ⟨ap,ac,al⟩ (by rw [hz];exact hA'.out.plus (fun _ a=>a) z) hl'.out (enters_of Tryz.func150 (by kernel_rfl) rfl) (fun x _=>lit_State (V.heap.size+1) nm _ _ _ _ _ _ _ _ _ _ _ W d0)).pure
 simp only [Sl.v] at hcall
 rw [hn'.out] at hcall
 have hI:=Lib.hid (show firstI (fun x=>x.name.toList == nm.toList) al 0=saI al nm from rfl)
 rw [hI.out] at hcall
 have hc:=Lib.hid hcall
 have hz2:=Lib.hid hz
 clear hW hz ca cb d0 hcall hA' hl' hn' hI
 have hR:=hR'.out
 unfold stI at hR
 by_cases q1:(nm.toList == [97,99,99,101,112,116])=true
 ·rw [if_pos q1] at hR
  have hR2:=Lib.hid hR
  clear hR hR' hc
  go_wp2
  go_ret2
  exact⟨by rw [← hR2.out] <;> rfl,by rw [hz2.out,plus_plus];exact⟨_,rfl⟩⟩
 have q1:(nm.toList == [97,99,99,101,112,116])=false:=by simpa using q1
 rw [if_neg (by rw [q1];decide)] at hR
 by_cases q2:(nm.toList == [114,101,106,101,99,116])=true
 ·rw [if_pos q2] at hR
  have hR2:=Lib.hid hR
  clear hR hR' hc
  go_wp2
  go_ret2
  exact⟨by rw [← hR2.out] <;> rfl,by rw [hz2.out,plus_plus];exact⟨_,rfl⟩⟩
 have q2:(nm.toList == [114,101,106,101,99,116])=false:=by simpa using q2
 rw [if_neg (by rw [q2];decide)] at hR
 obtain⟨I,hI⟩:∃ I,saI al nm=I:=⟨_,rfl⟩
 rw [hI] at hR hc
 clear hI hR'
 by_cases q3:I=-1
 ·rw [q3] at hR hc
  have hR2:=Lib.hid hR
  clear hR q3
  go_wp2_with (first|(go_at_call 149;with_reducible refine (hc.out _).mono ?_;rintro r w' ⟨rfl,x,rfl⟩))
  go_ret2
  exact⟨by rw [← hR2.out] <;> rfl,by rw [hz2.out,plus_plus];exact⟨_,rfl⟩⟩
 ·rw [if_neg (by simpa using q3)] at hR
  have hR2:=Lib.hid hR
  have q4:(I == -1)=false:=by simpa using q3
  clear hR
  go_wp2_with (first|(go_at_call 149;with_reducible refine (hc.out _).mono ?_;rintro r w' ⟨rfl,x,rfl⟩))
  go_ret2
  exact⟨by rw [← hR2.out] <;> rfl,by rw [hz2.out,plus_plus];exact⟨_,rfl⟩⟩
theorem pr_len1 {p:Pr} (hz:p.sz≤1048576):p.headers.l.length≤1048576∧p.metas.l.length≤1048576∧p.states.l.length≤1048576∧p.actions.l.length≤1048576∧p.tables.l.length≤1048576∧p.emit.l.length≤1048576:=by
 have hs:p.sz=p.headers.size Hr.sz+p.metas.size Fd.sz+p.states.size Sa.sz+p.actions.size Ac.sz+p.tables.size Ta.sz+p.control.size St.sz+p.emit.size strSize:=rfl
 exact⟨len_le Hr.sz (fun y=>by unfold Hr.sz;omega) p.headers (by omega),len_le Fd.sz Fd.sz_pos p.metas (by omega),len_le Sa.sz (fun y=>by unfold Sa.sz;omega) p.states (by omega),len_le Ac.sz (fun y=>by unfold Ac.sz;omega) p.actions (by omega),len_le Ta.sz (fun y=>by unfold Ta.sz;omega) p.tables (by omega),len_le strSize strSize_pos p.emit (by omega)⟩
section
variable (p:Pr) (w:World) (h:p.In w) (hz:p.sz≤1048576) (s:ByteArray)
include h hz
theorem q_Header:Kp Tryz.prog w 87 #[.agg #[.slice p.headers.p p.headers.l.length p.headers.cap,.slice p.metas.p p.metas.l.length p.metas.cap,.slice p.states.p p.states.l.length p.states.cap,.slice p.actions.p p.actions.l.length p.actions.cap,.slice p.tables.p p.tables.l.length p.tables.cap,.slice p.control.p p.control.l.length p.control.cap,.slice p.emit.p p.emit.l.length p.emit.cap],.string s] (.int .i64 (hdI p.headers.l s)):=res_Header _ _ _ _ _ _ _ _ _ _ _ _ _ _ _ _ _ _ _ p.headers s w h.headers (pr_len1 hz).1
theorem q_Meta:Kp Tryz.prog w 84 #[.agg #[.slice p.headers.p p.headers.l.length p.headers.cap,.slice p.metas.p p.metas.l.length p.metas.cap,.slice p.states.p p.states.l.length p.states.cap,.slice p.actions.p p.actions.l.length p.actions.cap,.slice p.tables.p p.tables.l.length p.tables.cap,.slice p.control.p p.control.l.length p.control.cap,.slice p.emit.p p.emit.l.length p.emit.cap],.string s] (.int .i64 (fdI p.metas.l s)):=res_Meta _ _ _ _ _ _ _ _ _ _ _ _ _ _ _ _ _ _ _ p.metas s w h.metas (pr_len1 hz).2.1
theorem q_State:Kp Tryz.prog w 85 #[.agg #[.slice p.headers.p p.headers.l.length p.headers.cap,.slice p.metas.p p.metas.l.length p.metas.cap,.slice p.states.p p.states.l.length p.states.cap,.slice p.actions.p p.actions.l.length p.actions.cap,.slice p.tables.p p.tables.l.length p.tables.cap,.slice p.control.p p.control.l.length p.control.cap,.slice p.emit.p p.emit.l.length p.emit.cap],.string s] (.tuple #[.int .i64 (stI p.states.l s).1,.bool (stI p.states.l s).2]):=res_State _ _ _ _ _ _ _ _ _ _ _ _ _ _ _ _ _ _ _ p.states s w h.states (pr_len1 hz).2.2.1
theorem q_Action:Kp Tryz.prog w 90 #[.agg #[.slice p.headers.p p.headers.l.length p.headers.cap,.slice p.metas.p p.metas.l.length p.metas.cap,.slice p.states.p p.states.l.length p.states.cap,.slice p.actions.p p.actions.l.length p.actions.cap,.slice p.tables.p p.tables.l.length p.tables.cap,.slice p.control.p p.control.l.length p.control.cap,.slice p.emit.p p.emit.l.length p.emit.cap],.string s] (.int .i64 (acI p.actions.l s)):=res_Action _ _ _ _ _ _ _ _ _ _ _ _ _ _ _ _ _ _ _ p.actions s w h.actions (pr_len1 hz).2.2.2.1
theorem q_Table:Kp Tryz.prog w 93 #[.agg #[.slice p.headers.p p.headers.l.length p.headers.cap,.slice p.metas.p p.metas.l.length p.metas.cap,.slice p.states.p p.states.l.length p.states.cap,.slice p.actions.p p.actions.l.length p.actions.cap,.slice p.tables.p p.tables.l.length p.tables.cap,.slice p.control.p p.control.l.length p.control.cap,.slice p.emit.p p.emit.l.length p.emit.cap],.string s] (.int .i64 (taI p.tables.l s)):=res_Table _ _ _ _ _ _ _ _ _ _ _ _ _ _ _ _ _ _ _ p.tables s w h.tables (pr_len1 hz).2.2.2.2.1
end
set_option maxRecDepth 100000 in
set_option maxHeartbeats 8000000 in
theorem q_alone (a b:Int) (w:World):Kp Tryz.prog w 82 #[.int .i64 a,.int .i64 b] (.int .i64 (if a=b then 0 else 8)):=by
 intro y0
 obtain⟨V,hV⟩:∃ V,plus w y0=V:=⟨_,rfl⟩
 rw [hV]
 clear hV
 by_cases q:a=b
 ·rw [if_pos q]
  subst q
  go_enter Tryz.func82,Tryz.ntmps82
  go_wp2
  go_ret
  exact⟨rfl,_,(plus_self _).symm⟩
 ·rw [if_neg q]
  go_enter Tryz.func82,Tryz.ntmps82
  go_wp2
  go_ret
  exact⟨rfl,_,(plus_self _).symm⟩
set_option maxRecDepth 100000 in
set_option maxHeartbeats 8000000 in
theorem q_known (a:Int) (w:World):Kp Tryz.prog w 86 #[.int .i64 a] (.int .i64 (if a=-1 then 7 else 0)):=by
 intro y0
 obtain⟨V,hV⟩:∃ V,plus w y0=V:=⟨_,rfl⟩
 rw [hV]
 clear hV
 by_cases q:a=-1
 ·rw [if_pos q]
  subst q
  go_enter Tryz.func86,Tryz.ntmps86
  go_wp2
  go_ret
  exact⟨rfl,_,(plus_self _).symm⟩
 ·rw [if_neg q]
  go_enter Tryz.func86,Tryz.ntmps86
  go_wp2
  go_ret
  exact⟨rfl,_,(plus_self _).symm⟩
set_option maxRecDepth 100000 in
set_option maxHeartbeats 8000000 in
theorem q_wrongTarget (p:Pr) (w:World) (h:p.In w) (hz:p.sz≤1048576) (s:ByteArray):Kp Tryz.prog w 89 #[.agg #[.slice p.headers.p p.headers.l.length p.headers.cap,.slice p.metas.p p.metas.l.length p.metas.cap,.slice p.states.p p.states.l.length p.states.cap,.slice p.actions.p p.actions.l.length p.actions.cap,.slice p.tables.p p.tables.l.length p.tables.cap,.slice p.control.p p.control.l.length p.control.cap,.slice p.emit.p p.emit.l.length p.emit.cap],.string s] (.int .i64 (if (stI p.states.l s).2 then 0 else 7)):=by
 intro y0
 have hS:=(q_State p w h hz s).up y0
 obtain⟨V,hV⟩:∃ V,plus w y0=V:=⟨_,rfl⟩
 rw [hV] at hS ⊢
 clear hV h hz
 obtain⟨⟨I,b⟩,hR⟩:∃ R,stI p.states.l s=R:=⟨_,rfl⟩
 rw [hR] at hS ⊢
 have hS':=Lib.hid hS
 clear hS hR
 go_enter Tryz.func89,Tryz.ntmps89
 go_upto_region 1 with (fail)
 obtain⟨W,yy,hW,⟨z,hz⟩,ca⟩:=box1n V _ 30
 rw [hW]
 have c0:=ca 0 _ rfl
 have c1:=ca 1 _ rfl
 have c2:=ca 2 _ rfl
 have c3:=ca 3 _ rfl
 have c4:=ca 4 _ rfl
 have c5:=ca 5 _ rfl
 have c6:=ca 6 _ rfl
 have qc:=Lib.hid (kp_at hz hS'.out)
 have hz2:=Lib.hid hz
 clear hW hz ca hS'
 cases b with
 | true =>
  go_wp2_with (first|(go_at_call 85;with_reducible refine (qc.out _).mono ?_;rintro r w' ⟨rfl,x,rfl⟩))
  go_ret
  exact⟨rfl,by rw [hz2.out,plus_plus];exact⟨_,rfl⟩⟩
 | false =>
  go_wp2_with (first|(go_at_call 85;with_reducible refine (qc.out _).mono ?_;rintro r w' ⟨rfl,x,rfl⟩))
  go_ret
  exact⟨rfl,by rw [hz2.out,plus_plus];exact⟨_,rfl⟩⟩
/-- A header's field of a name. -/
def fieldI (p:Pr) (i:Int) (s:ByteArray):Int:=if i < 0 then -1 else match p.headers.l[i.toNat]? with | none=>-1 | some x=>fdI x.fields.l s
set_option maxRecDepth 100000 in
set_option maxHeartbeats 8000000 in
theorem q_Field (p:Pr) (w:World) (h:p.In w) (hz:p.sz≤1048576) (i:Int) (s:ByteArray):Kp Tryz.prog w 83 #[.agg #[.slice p.headers.p p.headers.l.length p.headers.cap,.slice p.metas.p p.metas.l.length p.metas.cap,.slice p.states.p p.states.l.length p.states.cap,.slice p.actions.p p.actions.l.length p.actions.cap,.slice p.tables.p p.tables.l.length p.tables.cap,.slice p.control.p p.control.l.length p.control.cap,.slice p.emit.p p.emit.l.length p.emit.cap],.int .i64 i,.string s] (.int .i64 (fieldI p i s)):=by
 intro y0
 have hr:=h.headers.row.plus y0
 have hf:∀ x ∈ p.headers.l,Kp Tryz.prog w 148 #[x.fields.v,.string s] (.int .i64 (fdI x.fields.l s)):=fun x hx=>by
  have h1:=le_sum_of Hr.sz p.headers.l x hx
  have h2:p.sz=p.headers.size Hr.sz+p.metas.size Fd.sz+p.states.size Sa.sz+p.actions.size Ac.sz+p.tables.size Ta.sz+p.control.size St.sz+p.emit.size strSize:=rfl
  have h3:p.headers.size Hr.sz=(p.headers.l.map Hr.sz).sum:=rfl
  have h4:x.fields.size Fd.sz≤x.sz:=by unfold Hr.sz;omega
  exact res_firstField _ x.fields s w (h.headers.kids x hx).fields (len_le Fd.sz Fd.sz_pos x.fields (by omega))
 have hf:=fun x hx=>(hf x hx).up y0
 obtain⟨V,hV⟩:∃ V,plus w y0=V:=⟨_,rfl⟩
 simp only [hV] at hf hr ⊢
 clear hV h hz
 have hf':=Lib.hid hf
 have hr':=Lib.hid hr
 clear hf hr
 obtain⟨R,hR⟩:∃ R,fieldI p i s=R:=⟨_,rfl⟩
 rw [hR]
 have hR':=Lib.hid hR
 clear hR
 obtain⟨A,hA⟩:∃ A,p.headers=A:=⟨_,rfl⟩
 have hA':=Lib.hid hA
 rw [hA]
 clear hA
 obtain⟨ap,ac,al⟩:=A
 obtain⟨n,hn⟩:∃ n,al.length=n:=⟨_,rfl⟩
 simp only [hn]
 have hn':=Lib.hid hn
 clear hn
 go_enter Tryz.func83,Tryz.ntmps83
 go_upto_region 1 with (fail)
 obtain⟨W,yy,hW,⟨z,hz⟩,ca⟩:=box1n V _ 30
 rw [hW]
 have c0:=ca 0 _ rfl
 have hz2:=Lib.hid hz
 clear hW ca
 by_cases q1:i < 0
 ·have e:=Lib.hid (show (-1:Int)=R by rw [← hR'.out];unfold fieldI;rw [if_pos q1])
  clear hR' hf' hr' hz hA'
  go_wp2
  go_ret
  exact⟨congrArg (fun z=>Ending.returned (Value.int .i64 z)) e.out,by rw [hz2.out,plus_plus];exact⟨_,rfl⟩⟩
 obtain⟨k,rfl⟩:∃ k:Nat,i=(k:Int):=⟨i.toNat,by omega⟩
 clear q1
 by_cases q2:k < n
 ·obtain⟨x,hx⟩:∃ x,al[k]?=some x:=⟨al[k]'(by rw [hn'.out];exact q2),List.getElem?_eq_getElem _⟩
  have e:=Lib.hid (show fdI x.fields.l s=R by rw [← hR'.out];unfold fieldI;rw [if_neg (by omega),Int.toNat_natCast,hA'.out];simp only [hx])
  rw [hA'.out] at hr' hf'
  obtain⟨pa,ha,hc⟩:=hr'.out k x hx
  simp only at ha
  subst ha
  have hc:=cells_up hz hc
  have qc:=Lib.hid (kp_at hz (hf'.out x (List.mem_of_getElem? hx)))
  have d0:=fun y=>(hc.plus y).c0 _ rfl
  have d1:=fun y=>(hc.plus y).cs 0 _ rfl
  clear hR' hf' hr' hz hA' hc hx hn'
  simp only [Hr.cells,Sl.v] at *
  go_wp2_with (first|(go_at_call 148;with_reducible refine (qc.out _).mono ?_;rintro r w' ⟨rfl,x,rfl⟩))
  go_ret
  exact⟨congrArg (fun z=>Ending.returned (Value.int .i64 z)) e.out,by rw [hz2.out,plus_plus];exact⟨_,rfl⟩⟩
 ·have e:=Lib.hid (show (-1:Int)=R by
   rw [← hR'.out];unfold fieldI;rw [if_neg (by omega),Int.toNat_natCast,hA'.out]
   simp only [List.getElem?_eq_none (show al.length≤k by rw [hn'.out];omega)])
  clear hR' hf' hr' hz hA'
  go_wp2
  go_ret
  exact⟨congrArg (fun z=>Ending.returned (Value.int .i64 z)) e.out,by rw [hz2.out,plus_plus];exact⟨_,rfl⟩⟩
/-- A action's field of a name. -/
def paramI (p:Pr) (i:Int) (s:ByteArray):Int:=if i < 0 then -1 else match p.actions.l[i.toNat]? with | none=>-1 | some x=>fdI x.params.l s
set_option maxRecDepth 100000 in
set_option maxHeartbeats 8000000 in
theorem q_Param (p:Pr) (w:World) (h:p.In w) (hz:p.sz≤1048576) (i:Int) (s:ByteArray):Kp Tryz.prog w 91 #[.agg #[.slice p.headers.p p.headers.l.length p.headers.cap,.slice p.metas.p p.metas.l.length p.metas.cap,.slice p.states.p p.states.l.length p.states.cap,.slice p.actions.p p.actions.l.length p.actions.cap,.slice p.tables.p p.tables.l.length p.tables.cap,.slice p.control.p p.control.l.length p.control.cap,.slice p.emit.p p.emit.l.length p.emit.cap],.int .i64 i,.string s] (.int .i64 (paramI p i s)):=by
 intro y0
 have hr:=h.actions.row.plus y0
 have hf:∀ x ∈ p.actions.l,Kp Tryz.prog w 148 #[x.params.v,.string s] (.int .i64 (fdI x.params.l s)):=fun x hx=>by
  have h1:=le_sum_of Ac.sz p.actions.l x hx
  have h2:p.sz=p.headers.size Hr.sz+p.metas.size Fd.sz+p.states.size Sa.sz+p.actions.size Ac.sz+p.tables.size Ta.sz+p.control.size St.sz+p.emit.size strSize:=rfl
  have h3:p.actions.size Ac.sz=(p.actions.l.map Ac.sz).sum:=rfl
  have h4:x.params.size Fd.sz≤x.sz:=by unfold Ac.sz;omega
  exact res_firstField _ x.params s w (h.actions.kids x hx).params (len_le Fd.sz Fd.sz_pos x.params (by omega))
 have hf:=fun x hx=>(hf x hx).up y0
 obtain⟨V,hV⟩:∃ V,plus w y0=V:=⟨_,rfl⟩
 simp only [hV] at hf hr ⊢
 clear hV h hz
 have hf':=Lib.hid hf
 have hr':=Lib.hid hr
 clear hf hr
 obtain⟨R,hR⟩:∃ R,paramI p i s=R:=⟨_,rfl⟩
 rw [hR]
 have hR':=Lib.hid hR
 clear hR
 obtain⟨A,hA⟩:∃ A,p.actions=A:=⟨_,rfl⟩
 have hA':=Lib.hid hA
 rw [hA]
 clear hA
 obtain⟨ap,ac,al⟩:=A
 obtain⟨n,hn⟩:∃ n,al.length=n:=⟨_,rfl⟩
 simp only [hn]
 have hn':=Lib.hid hn
 clear hn
 go_enter Tryz.func91,Tryz.ntmps91
 go_upto_region 1 with (fail)
 obtain⟨W,yy,hW,⟨z,hz⟩,ca⟩:=box1n V _ 30
 rw [hW]
 have c3:=ca 3 _ rfl
 have hz2:=Lib.hid hz
 clear hW ca
 by_cases q1:i < 0
 ·have e:=Lib.hid (show (-1:Int)=R by rw [← hR'.out];unfold paramI;rw [if_pos q1])
  clear hR' hf' hr' hz hA'
  go_wp2
  go_ret
  exact⟨congrArg (fun z=>Ending.returned (Value.int .i64 z)) e.out,by rw [hz2.out,plus_plus];exact⟨_,rfl⟩⟩
 obtain⟨k,rfl⟩:∃ k:Nat,i=(k:Int):=⟨i.toNat,by omega⟩
 clear q1
 by_cases q2:k < n
 ·obtain⟨x,hx⟩:∃ x,al[k]?=some x:=⟨al[k]'(by rw [hn'.out];exact q2),List.getElem?_eq_getElem _⟩
  have e:=Lib.hid (show fdI x.params.l s=R by rw [← hR'.out];unfold paramI;rw [if_neg (by omega),Int.toNat_natCast,hA'.out];simp only [hx])
  rw [hA'.out] at hr' hf'
  obtain⟨pa,ha,hc⟩:=hr'.out k x hx
  simp only at ha
  subst ha
  have hc:=cells_up hz hc
  have qc:=Lib.hid (kp_at hz (hf'.out x (List.mem_of_getElem? hx)))
  have d0:=fun y=>(hc.plus y).c0 _ rfl
  have d1:=fun y=>(hc.plus y).cs 0 _ rfl
  have d2:=fun y=>(hc.plus y).cs 1 _ rfl
  clear hR' hf' hr' hz hA' hc hx hn'
  simp only [Ac.cells,Sl.v] at *
  go_wp2_with (first|(go_at_call 148;with_reducible refine (qc.out _).mono ?_;rintro r w' ⟨rfl,x,rfl⟩))
  go_ret
  exact⟨congrArg (fun z=>Ending.returned (Value.int .i64 z)) e.out,by rw [hz2.out,plus_plus];exact⟨_,rfl⟩⟩
 ·have e:=Lib.hid (show (-1:Int)=R by
   rw [← hR'.out];unfold paramI;rw [if_neg (by omega),Int.toNat_natCast,hA'.out]
   simp only [List.getElem?_eq_none (show al.length≤k by rw [hn'.out];omega)])
  clear hR' hf' hr' hz hA'
  go_wp2
  go_ret
  exact⟨congrArg (fun z=>Ending.returned (Value.int .i64 z)) e.out,by rw [hz2.out,plus_plus];exact⟨_,rfl⟩⟩
/-- A header's width. -/
def bitsI (l:List Fd):Int:=l.foldl (fun s f=>wrap64 (s+f.w)) 0
theorem bitsI_take (l:List Fd) (k:Nat) (x:Fd) (h:l[k]?=some x):bitsI (l.take (k+1))=wrap64 (bitsI (l.take k)+x.w):=by
 obtain⟨h1,rfl⟩:=List.getElem?_eq_some_iff.1 h
 unfold bitsI
 rw [List.take_succ_eq_append_getElem h1,List.foldl_append]
 rfl
theorem alloc_in {W:World} {y:Ext} (o:Obj):∃ x,(plus W y).alloc o=plus W x:=by
 obtain⟨x,hx⟩:=plus_of_below ((Below.refl (plus W y).heap.size (plus W y)).alloc (Nat.le_refl _) o)
 exact⟨_,by rw [hx,plus_plus]⟩
set_option maxRecDepth 100000 in
set_option maxHeartbeats 8000000 in
theorem q_Bits (nm:ByteArray) (A:Sl Fd) (w:World) (K:Fd→Prop) (hA:A.In w 2 Fd.cells K) (hl:A.l.length≤1048576):Kp Tryz.prog w 147 #[.agg #[.string nm,A.v]] (.int .i64 (bitsI A.l)):=by
 intro y0
 have hr:=hA.row.plus y0
 obtain⟨V,hV⟩:∃ V,plus w y0=V:=⟨_,rfl⟩
 rw [hV] at hr ⊢
 clear hV hA
 obtain⟨ap,ac,al⟩:=A
 simp only [Sl.v] at hr hl ⊢
 obtain⟨n,hn⟩:∃ n,al.length=n:=⟨_,rfl⟩
 rw [hn] at hl ⊢
 have hn':=Lib.hid hn
 have hl':=Lib.hid hl
 have hr':=Lib.hid hr
 clear hn hl hr
 go_enter Tryz.func147,Tryz.ntmps147
 go_upto_region 1 with (fail)
 obtain⟨W,yy,hW,⟨z,hz⟩,ca⟩:=box1n V _ 66
 rw [hW]
 have c1:=ca 1 _ rfl
 have hr2:=Lib.hid (fun k x (hx:al[k]?=some x)=>(show ∃ pa,ap=some pa∧CellsAt W (pa.add (k*2)) x.cells by
  obtain⟨pa,e,hc⟩:=hr'.out k x hx
  exact⟨pa,e,cells_up hz hc⟩))
 have hz2:=Lib.hid hz
 clear hW hz ca hr'
 go_upto_region 3 with (fail)
 go_loopw [3,5,9] (fun sv _ iv wr=>∃ k:Nat,k≤n∧iv=.int .i64 (k:Int)∧sv=.int .i64 (bitsI (al.take k))∧∃ y,wr=plus W y) (fun _ _ iv _=>n - (intOf iv).toNat)
 case atStart=>exact⟨0,Nat.zero_le _,rfl,rfl,_,rfl⟩
 case round =>
  obtain⟨k,hk,rfl,rfl,y,rfl⟩:=hrel
  by_cases hlt:k < n
  ·obtain⟨a,ha⟩:∃ s,al[k]?=some s:=⟨al[k]'(by rw [hn'.out];exact hlt),List.getElem?_eq_getElem _⟩
   obtain⟨pa,rfl,hc⟩:=hr2.out k a ha
   have hs:=Lib.hid (bitsI_take al k a ha)
   obtain⟨an,aw⟩:=a
   have d0:=fun y=>(hc.plus y).c0 _ rfl
   have d1:=fun y=>(hc.plus y).cs 0 _ rfl
   simp only at d0 d1
   have a6:=Lib.hid (wr_succ k n hlt hl'.out)
   obtain⟨T,hT⟩:∃ T,bitsI (al.take k)=T:=⟨_,rfl⟩
   rw [hT]
   have hT':=Lib.hid hT
   clear hc ha hT
   go_wp2
   go_roundw
   case rel=>exact⟨k+1,hlt,congrArg (Value.int .i64) a6.out,congrArg (Value.int .i64) (by rw [hs.out,hT'.out]),alloc_in _⟩
   case measure=>exact step_less k n hlt a6.out
  ·obtain rfl:k=n:=by omega
   have e:=Lib.hid (show bitsI (al.take k)=bitsI al by rw [List.take_of_length_le (by rw [hn'.out];exact Nat.le_refl _)])
   clear hlt hk
   go_wp2
   go_ret
   exact⟨congrArg (fun z=>Ending.returned (Value.int .i64 z)) e.out,by rw [hz2.out,plus_plus];exact⟨_,rfl⟩⟩
/-- Is what an expression names itself there? -/
def isB (p:Pr) (act:Int) (e:Ex):Bool:=if e.op=2 then (fieldI p (hdI p.headers.l e.head) e.name != -1) else if e.op=3 then (fdI p.metas.l e.name != -1) else if e.op=4 then (paramI p act e.name != -1) else if e.op=6 then (hdI p.headers.l e.head != -1) else true
set_option maxRecDepth 100000 in
set_option maxHeartbeats 8000000 in
theorem q_isThere (p:Pr) (w:World) (h:p.In w) (hz:p.sz≤1048576) (act:Int) (e:Ex):Kp Tryz.prog w 159 #[.agg #[.slice p.headers.p p.headers.l.length p.headers.cap,.slice p.metas.p p.metas.l.length p.metas.cap,.slice p.states.p p.states.l.length p.states.cap,.slice p.actions.p p.actions.l.length p.actions.cap,.slice p.tables.p p.tables.l.length p.tables.cap,.slice p.control.p p.control.l.length p.control.cap,.slice p.emit.p p.emit.l.length p.emit.cap],.int .i64 act,.agg #[.int .u8 e.op,.int .i64 e.lit.w,.int .u64 e.lit.h,.int .u64 e.lit.l,.string e.head,.string e.name,.int .i64 e.hi,.int .i64 e.lo,.slice e.p e.args.length e.cap]] (.bool (isB p act e)):=by
 intro y0
 have k1:=(q_Header p w h hz e.head).up y0
 have k2:=(q_Field p w h hz (hdI p.headers.l e.head) e.name).up y0
 have k3:=(q_Meta p w h hz e.name).up y0
 have k4:=(q_Param p w h hz act e.name).up y0
 obtain⟨V,hV⟩:∃ V,plus w y0=V:=⟨_,rfl⟩
 rw [hV] at k1 k2 k3 k4 ⊢
 clear hV h hz
 obtain⟨R,hR⟩:∃ R,isB p act e=R:=⟨_,rfl⟩
 rw [hR]
 unfold isB at hR
 generalize fieldI p (hdI p.headers.l e.head) e.name=I2 at hR k2
 generalize hdI p.headers.l e.head=I1 at hR k1 k2
 generalize fdI p.metas.l e.name=I3 at hR k3
 generalize paramI p act e.name=I4 at hR k4
 have g2:=Lib.hid (show e.op=2→(I2 != -1)=R from fun h=>by rw [← hR,if_pos h])
 have g3:=Lib.hid (show e.op=3→(I3 != -1)=R from fun h=>by rw [← hR,if_neg (by omega),if_pos h])
 have g4:=Lib.hid (show e.op=4→(I4 != -1)=R from fun h=>by rw [← hR,if_neg (by omega),if_neg (by omega),if_pos h])
 have g6:=Lib.hid (show e.op=6→(I1 != -1)=R from fun h=>by rw [← hR,if_neg (by omega),if_neg (by omega),if_neg (by omega),if_pos h])
 have g0:=Lib.hid (show e.op≠2→e.op≠3→e.op≠4→e.op≠6→true=R from fun h h1 h2 h3=>by rw [← hR,if_neg h,if_neg h1,if_neg h2,if_neg h3])
 have k1':=Lib.hid k1
 have k2':=Lib.hid k2
 have k3':=Lib.hid k3
 have k4':=Lib.hid k4
 clear hR k1 k2 k3 k4
 obtain⟨op,⟨lw,lh,ll⟩,hd,nm,hi,lo,ep,ec,el⟩:=e
 simp only [Ex.op,Ex.lit,Ex.head,Ex.name,Ex.hi,Ex.lo,Ex.p,Ex.cap,Ex.args] at *
 go_enter Tryz.func159,Tryz.ntmps159
 go_upto_region 1 with (fail)
 obtain⟨W,yy,hW,⟨z,hz⟩,ca,cb⟩:=box2n V _ _ 30 45
 rw [hW]
 have c0:=ca 0 _ rfl
 have c1:=ca 1 _ rfl
 have c2:=ca 2 _ rfl
 have c3:=ca 3 _ rfl
 have c4:=ca 4 _ rfl
 have c5:=ca 5 _ rfl
 have c6:=ca 6 _ rfl
 have b0:=cb 0 _ rfl
 have b1:=cb 1 _ rfl
 have b2:=cb 2 _ rfl
 have b3:=cb 3 _ rfl
 have b4:=cb 4 _ rfl
 have b5:=cb 5 _ rfl
 have b6:=cb 6 _ rfl
 have b7:=cb 7 _ rfl
 have b8:=cb 8 _ rfl
 have q1:=Lib.hid (kp_at hz k1'.out)
 have q2:=Lib.hid (kp_at hz k2'.out)
 have q3:=Lib.hid (kp_at hz k3'.out)
 have q4:=Lib.hid (kp_at hz k4'.out)
 have hz2:=Lib.hid hz
 clear hW hz ca cb k1' k2' k3' k4'
 by_cases o2:op=2
 ·have hR2:=Lib.hid (g2.out o2)
  subst o2
  clear g0 g2 g3 g4 g6 q3 q4
  go_upto_region 3 with (fail)
  refine wp_region_own (by kernel_rfl) (by kernel_rfl) ?_
  repeat (go_big_quiet_step (first|(with_reducible exact q1.out _)|(with_reducible exact q2.out _)))
  refine wpQuiet_nil ?_
  rintro _ ⟨y2,rfl⟩
  go_wp2
  go_ret
  exact⟨congrArg (fun z=>Ending.returned (Value.bool z)) hR2.out,by rw [hz2.out,plus_plus];exact⟨_,rfl⟩⟩
 have n2:(op == 2)=false:=by simpa using o2
 by_cases o3:op=3
 ·have hR2:=Lib.hid (g3.out o3)
  subst o3
  clear g0 g2 g3 g4 g6 q1 q2 q4
  go_wp2_with (first|(go_at_call 84;with_reducible refine (q3.out _).mono ?_;rintro r w' ⟨rfl,x,rfl⟩))
  go_ret
  exact⟨congrArg (fun z=>Ending.returned (Value.bool z)) hR2.out,by rw [hz2.out,plus_plus];exact⟨_,rfl⟩⟩
 have n3:(op == 3)=false:=by simpa using o3
 by_cases o4:op=4
 ·have hR2:=Lib.hid (g4.out o4)
  subst o4
  clear g0 g2 g3 g4 g6 q1 q2 q3
  go_wp2_with (first|(go_at_call 91;with_reducible refine (q4.out _).mono ?_;rintro r w' ⟨rfl,x,rfl⟩))
  go_ret
  exact⟨congrArg (fun z=>Ending.returned (Value.bool z)) hR2.out,by rw [hz2.out,plus_plus];exact⟨_,rfl⟩⟩
 have n4:(op == 4)=false:=by simpa using o4
 by_cases o6:op=6
 ·have hR2:=Lib.hid (g6.out o6)
  subst o6
  clear g0 g2 g3 g4 g6 q2 q3 q4
  go_wp2_with (first|(go_at_call 87;with_reducible refine (q1.out _).mono ?_;rintro r w' ⟨rfl,x,rfl⟩))
  go_ret
  exact⟨congrArg (fun z=>Ending.returned (Value.bool z)) hR2.out,by rw [hz2.out,plus_plus];exact⟨_,rfl⟩⟩
 have n6:(op == 6)=false:=by simpa using o6
 have hR2:=Lib.hid (g0.out o2 o3 o4 o6)
 clear g0 g2 g3 g4 g6 q1 q2 q3 q4 o2 o3 o4 o6
 go_wp2
 go_ret
 exact⟨congrArg (fun z=>Ending.returned (Value.bool z)) hR2.out,by rw [hz2.out,plus_plus];exact⟨_,rfl⟩⟩
mutual
/-- .. and of all in it? -/
def Ex.there (f:Ex→Bool):Ex→Bool
 | .mk op lit hd nm hi lo p c l=>f (.mk op lit hd nm hi lo p c l) && Ex.theres f l
def Ex.theres (f:Ex→Bool):List Ex→Bool
 | []=>true
 | x :: l=>x.there f && Ex.theres f l
end
theorem Ex.theres_all (f:Ex→Bool):∀ l:List Ex,Ex.theres f l=l.all (Ex.there f)
 | []=>by simp [Ex.theres]
 | x :: l=>by simp [Ex.theres,Ex.theres_all f l]
theorem Ex.there_eq (f:Ex→Bool) (e:Ex):e.there f=(f e && e.args.all (Ex.there f)):=by
 cases e;simp [Ex.there,Ex.theres_all,Ex.args]
theorem firstI_none {α:Type} (q:α→Bool):∀ (l:List α) (k:Nat),(firstI (fun x=>!q x) l k == -1)=l.all q
 | [],_=>by simp [firstI]
 | x :: l,k=>by
  unfold firstI
  cases h:q x with
  | true=>simp only [Bool.not_true,Bool.false_eq_true,if_false,List.all_cons,h,Bool.true_and];exact firstI_none q l (k+1)
  | false =>
   simp only [Bool.not_false,if_true,List.all_cons,h,Bool.false_and]
   rw [beq_eq_false_iff_ne]
   omega
set_option maxRecDepth 100000 in
set_option maxHeartbeats 8000000 in
theorem names11 (bt:Nat) (fv:Value) (g:FuncId) (caps:Array Value) (hfv:fv=.func (.func g) #[] caps) (hent:∀ args w,(callFunc g args).run Tryz.prog w=.ok (.enter g args) w) (e:Ex) (b:Bool) (w:World) (hc:w.cell? ⟨bt,0,none⟩=some fv)
  (hX:Kp Tryz.prog w g (#[.agg #[.int .u8 e.op,.int .i64 e.lit.w,.int .u64 e.lit.h,.int .u64 e.lit.l,.string e.head,.string e.name,.int .i64 e.hi,.int .i64 e.lo,.slice e.p e.args.length e.cap]]++caps) (.bool b)):Kp Tryz.prog w 161 #[.agg #[.int .u8 e.op,.int .i64 e.lit.w,.int .u64 e.lit.h,.int .u64 e.lit.l,.string e.head,.string e.name,.int .i64 e.hi,.int .i64 e.lo,.slice e.p e.args.length e.cap],.pointer (some ⟨bt,0,none⟩)] (.bool (!b)):=by
 intro y0
 have hX:=hX.up y0
 have hc:=cell_keep hc y0
 obtain⟨V,hV⟩:∃ V,plus w y0=V:=⟨_,rfl⟩
 rw [hV] at hX hc ⊢
 clear hV
 have hc2:=fun o:Obj=>cell_alloc hc o
 have hX':=Lib.hid hX
 have hc':=Lib.hid hc
 clear hX hc
 obtain⟨op,⟨lw,lh,ll⟩,hd,nm,hi,lo,ep,ec,el⟩:=e
 simp only [Ex.op,Ex.lit,Ex.head,Ex.name,Ex.hi,Ex.lo,Ex.p,Ex.cap,Ex.args] at *
 subst hfv
 go_enter Tryz.func161,Tryz.ntmps161
 go_upto_region 1 with (fail)
 obtain⟨W,yy,hW,⟨z,hz⟩,ca⟩:=box1n V _ 45
 rw [hW]
 have c0:=ca 0 _ rfl
 have c1:=ca 1 _ rfl
 have c2:=ca 2 _ rfl
 have c3:=ca 3 _ rfl
 have c4:=ca 4 _ rfl
 have c5:=ca 5 _ rfl
 have c6:=ca 6 _ rfl
 have c7:=ca 7 _ rfl
 have c8:=ca 8 _ rfl
 have hc3:∀ y,(plus W y).cell? ⟨bt,0,none⟩=some (.func (.func g) #[] caps):=fun y=>cell_keep (by rw [hz];exact cell_keep hc'.out z) y
 have q1:=Lib.hid (kp_at hz hX'.out)
 have hz2:=Lib.hid hz
 clear hW hz ca hX' hc' hc2
 go_wp2_with (first|(refine (q1.out _).mono ?_;rintro r w' ⟨rfl,x,rfl⟩))
 go_ret
 exact⟨rfl,by rw [hz2.out,plus_plus];exact⟨_,rfl⟩⟩
end Go.Proofs.YtobhijbncchpiaaGreat
