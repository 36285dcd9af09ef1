/-
  WHAT IS PROVED HERE: a part of the proof (made narrower and merged by program; the parts: Zb GA Fa Fb Ff).
-/
import Derived.Test.YtobhijbncchpiaaGreatM3
namespace Go.Proofs.YtobhijbncchpiaaGreat
open Go.RowKit
set_option maxHeartbeats 2000000 in
theorem lit_Header (B:Nat) (nm:ByteArray) (a0:ByteArray) (a1p:Option Addr) (a1n:Nat) (a1c:Nat) (w:World) (hb:w.cell? ⟨B,0,none⟩=some (.string nm)):Kp Tryz.prog w 152 #[.agg #[.string a0,.slice a1p a1n a1c],.pointer (some ⟨B,0,none⟩)] (.bool (a0.toList == nm.toList)):=by
 intro y0
 have hb:=cell_keep hb y0
 obtain⟨V,hV⟩:∃ V,plus w y0=V:=⟨_,rfl⟩
 rw [hV] at hb ⊢
 clear hV
 have hl:=World.block_lt_of_cell? V _ hb
 have hb2:=fun X:Obj=>cell_alloc hb X
 clear hb
 go_enter Tryz.func152,Tryz.ntmps152
 go_wp2
 go_ret
 exact⟨rfl,plus_of_below ((Below.refl _ _).alloc (Nat.le_refl _) _)⟩
set_option maxHeartbeats 2000000 in
theorem lit_Field (B:Nat) (nm:ByteArray) (a0:ByteArray) (a1:Int) (w:World) (hb:w.cell? ⟨B,0,none⟩=some (.string nm)):Kp Tryz.prog w 199 #[.agg #[.string a0,.int .i64 a1],.pointer (some ⟨B,0,none⟩)] (.bool (a0.toList == nm.toList)):=by
 intro y0
 have hb:=cell_keep hb y0
 obtain⟨V,hV⟩:∃ V,plus w y0=V:=⟨_,rfl⟩
 rw [hV] at hb ⊢
 clear hV
 have hl:=World.block_lt_of_cell? V _ hb
 have hb2:=fun X:Obj=>cell_alloc hb X
 clear hb
 go_enter Tryz.func199,Tryz.ntmps199
 go_wp2
 go_ret
 exact⟨rfl,plus_of_below ((Below.refl _ _).alloc (Nat.le_refl _) _)⟩
set_option maxHeartbeats 2000000 in
theorem lit_State (B:Nat) (nm:ByteArray) (a0:ByteArray) (a1p:Option Addr) (a1n:Nat) (a1c:Nat) (a2:ByteArray) (a3p:Option Addr) (a3n:Nat) (a3c:Nat) (a4p:Option Addr) (a4n:Nat) (a4c:Nat) (w:World) (hb:w.cell? ⟨B,0,none⟩=some (.string nm)):Kp Tryz.prog w 150 #[.agg #[.string a0,.slice a1p a1n a1c,.string a2,.slice a3p a3n a3c,.slice a4p a4n a4c],.pointer (some ⟨B,0,none⟩)] (.bool (a0.toList == nm.toList)):=by
 intro y0
 have hb:=cell_keep hb y0
 obtain⟨V,hV⟩:∃ V,plus w y0=V:=⟨_,rfl⟩
 rw [hV] at hb ⊢
 clear hV
 have hl:=World.block_lt_of_cell? V _ hb
 have hb2:=fun X:Obj=>cell_alloc hb X
 clear hb
 go_enter Tryz.func150,Tryz.ntmps150
 go_wp2
 go_ret
 exact⟨rfl,plus_of_below ((Below.refl _ _).alloc (Nat.le_refl _) _)⟩
set_option maxHeartbeats 2000000 in
theorem lit_Action (B:Nat) (nm:ByteArray) (a0:ByteArray) (a1p:Option Addr) (a1n:Nat) (a1c:Nat) (a2p:Option Addr) (a2n:Nat) (a2c:Nat) (w:World) (hb:w.cell? ⟨B,0,none⟩=some (.string nm)):Kp Tryz.prog w 154 #[.agg #[.string a0,.slice a1p a1n a1c,.slice a2p a2n a2c],.pointer (some ⟨B,0,none⟩)] (.bool (a0.toList == nm.toList)):=by
 intro y0
 have hb:=cell_keep hb y0
 obtain⟨V,hV⟩:∃ V,plus w y0=V:=⟨_,rfl⟩
 rw [hV] at hb ⊢
 clear hV
 have hl:=World.block_lt_of_cell? V _ hb
 have hb2:=fun X:Obj=>cell_alloc hb X
 clear hb
 go_enter Tryz.func154,Tryz.ntmps154
 go_wp2
 go_ret
 exact⟨rfl,plus_of_below ((Below.refl _ _).alloc (Nat.le_refl _) _)⟩
set_option maxHeartbeats 2000000 in
theorem lit_Table (B:Nat) (nm:ByteArray) (a0:ByteArray) (a1p:Option Addr) (a1n:Nat) (a1c:Nat) (a2p:Option Addr) (a2n:Nat) (a2c:Nat) (a3:ByteArray) (a4p:Option Addr) (a4n:Nat) (a4c:Nat) (w:World) (hb:w.cell? ⟨B,0,none⟩=some (.string nm)):Kp Tryz.prog w 157 #[.agg #[.string a0,.slice a1p a1n a1c,.slice a2p a2n a2c,.string a3,.slice a4p a4n a4c],.pointer (some ⟨B,0,none⟩)] (.bool (a0.toList == nm.toList)):=by
 intro y0
 have hb:=cell_keep hb y0
 obtain⟨V,hV⟩:∃ V,plus w y0=V:=⟨_,rfl⟩
 rw [hV] at hb ⊢
 clear hV
 have hl:=World.block_lt_of_cell? V _ hb
 have hb2:=fun X:Obj=>cell_alloc hb X
 clear hb
 go_enter Tryz.func157,Tryz.ntmps157
 go_wp2
 go_ret
 exact⟨rfl,plus_of_below ((Below.refl _ _).alloc (Nat.le_refl _) _)⟩
set_option maxHeartbeats 2000000 in
theorem lit_string (B:Nat) (nm s:ByteArray) (w:World) (hb:w.cell? ⟨B,0,none⟩=some (.string nm)):Kp Tryz.prog w 201 #[.string s,.pointer (some ⟨B,0,none⟩)] (.bool (s.toList == nm.toList)):=by
 intro y0
 have hb:=cell_keep hb y0
 obtain⟨V,hV⟩:∃ V,plus w y0=V:=⟨_,rfl⟩
 rw [hV] at hb ⊢
 clear hV
 go_enter Tryz.func201,Tryz.ntmps201
 go_wp2
 go_ret
 exact⟨rfl,_,(plus_self _).symm⟩
set_option maxRecDepth 100000 in
set_option maxHeartbeats 8000000 in
theorem expr1_of (a0:Int) (a1:Int) (a2:Int) (a3:Int) (a4:ByteArray) (a5:ByteArray) (a6:Int) (a7:Int) (a8p:Option Addr) (a8n:Nat) (a8c:Nat) (b0:Int) (b1:Int) (b2:Int) (b3:Int) (b4:ByteArray) (b5:ByteArray) (b6:Int) (b7:Int) (b8p:Option Addr) (b8n:Nat) (b8c:Nat) (c:Nat) (s8:Bool) (w:World) (hc:w.cell? ⟨c,0,none⟩=some (.func (.func 217) #[] #[.pointer (some ⟨c,0,none⟩)]))
  (h8:Kp Tryz.prog w 218 #[.slice a8p a8n a8c,.slice b8p b8n b8c,.func (.func 217) #[] #[.pointer (some ⟨c,0,none⟩)]] (.bool s8)) :
  Kp Tryz.prog w 217 #[.agg #[.int .u8 a0,.int .i64 a1,.int .u64 a2,.int .u64 a3,.string a4,.string a5,.int .i64 a6,.int .i64 a7,.slice a8p a8n a8c],.agg #[.int .u8 b0,.int .i64 b1,.int .u64 b2,.int .u64 b3,.string b4,.string b5,.int .i64 b6,.int .i64 b7,.slice b8p b8n b8c],.pointer (some ⟨c,0,none⟩)] (.bool ((a0 == b0) && ((a1 == b1) && ((a2 == b2) && ((a3 == b3) && ((a4.toList == b4.toList) && ((a5.toList == b5.toList) && ((a6 == b6) && ((a7 == b7) && s8))))))))):=by
 intro y0
 have h8:=h8.up y0
 have hc:=cell_keep hc y0
 obtain⟨V,hV⟩:∃ V,plus w y0=V:=⟨_,rfl⟩
 rw [hV] at h8 hc ⊢
 clear hV
 have hc2:=fun a b=>cell_alloc (cell_alloc hc a) b
 by_cases q0:a0=b0
 case neg =>
  have hF:=Lib.hid (show false=((a0 == b0) && ((a1 == b1) && ((a2 == b2) && ((a3 == b3) && ((a4.toList == b4.toList) && ((a5.toList == b5.toList) && ((a6 == b6) && ((a7 == b7) && (s8))))))))) by simp [q0])
  clear h8
  go_enter Tryz.func217,Tryz.ntmps217
  go_wp2_with fail
  go_ret
  exact⟨rb hF.out,alloc2_plus _ _ _⟩
 subst q0
 by_cases q1:a1=b1
 case neg =>
  have hF:=Lib.hid (show false=((a0 == a0) && ((a1 == b1) && ((a2 == b2) && ((a3 == b3) && ((a4.toList == b4.toList) && ((a5.toList == b5.toList) && ((a6 == b6) && ((a7 == b7) && (s8))))))))) by simp [q1])
  clear h8
  go_enter Tryz.func217,Tryz.ntmps217
  go_wp2_with fail
  go_ret
  exact⟨rb hF.out,alloc2_plus _ _ _⟩
 subst q1
 by_cases q2:a2=b2
 case neg =>
  have hF:=Lib.hid (show false=((a0 == a0) && ((a1 == a1) && ((a2 == b2) && ((a3 == b3) && ((a4.toList == b4.toList) && ((a5.toList == b5.toList) && ((a6 == b6) && ((a7 == b7) && (s8))))))))) by simp [q2])
  clear h8
  go_enter Tryz.func217,Tryz.ntmps217
  go_wp2_with fail
  go_ret
  exact⟨rb hF.out,alloc2_plus _ _ _⟩
 subst q2
 by_cases q3:a3=b3
 case neg =>
  have hF:=Lib.hid (show false=((a0 == a0) && ((a1 == a1) && ((a2 == a2) && ((a3 == b3) && ((a4.toList == b4.toList) && ((a5.toList == b5.toList) && ((a6 == b6) && ((a7 == b7) && (s8))))))))) by simp [q3])
  clear h8
  go_enter Tryz.func217,Tryz.ntmps217
  go_wp2_with fail
  go_ret
  exact⟨rb hF.out,alloc2_plus _ _ _⟩
 subst q3
 by_cases q4:(a4.toList == b4.toList)=true
 case neg =>
  have q4:(a4.toList == b4.toList)=false:=by simpa using q4
  have hF:=Lib.hid (show false=((a0 == a0) && ((a1 == a1) && ((a2 == a2) && ((a3 == a3) && ((a4.toList == b4.toList) && ((a5.toList == b5.toList) && ((a6 == b6) && ((a7 == b7) && (s8))))))))) by simp [q4])
  clear h8
  go_enter Tryz.func217,Tryz.ntmps217
  go_wp2_with fail
  go_ret
  exact⟨rb hF.out,alloc2_plus _ _ _⟩
 by_cases q5:(a5.toList == b5.toList)=true
 case neg =>
  have q5:(a5.toList == b5.toList)=false:=by simpa using q5
  have hF:=Lib.hid (show false=((a0 == a0) && ((a1 == a1) && ((a2 == a2) && ((a3 == a3) && ((a4.toList == b4.toList) && ((a5.toList == b5.toList) && ((a6 == b6) && ((a7 == b7) && (s8))))))))) by simp [q5,q4])
  clear h8
  go_enter Tryz.func217,Tryz.ntmps217
  go_wp2_with fail
  go_ret
  exact⟨rb hF.out,alloc2_plus _ _ _⟩
 by_cases q6:a6=b6
 case neg =>
  have hF:=Lib.hid (show false=((a0 == a0) && ((a1 == a1) && ((a2 == a2) && ((a3 == a3) && ((a4.toList == b4.toList) && ((a5.toList == b5.toList) && ((a6 == b6) && ((a7 == b7) && (s8))))))))) by simp [q6,q4,q5])
  clear h8
  go_enter Tryz.func217,Tryz.ntmps217
  go_wp2_with fail
  go_ret
  exact⟨rb hF.out,alloc2_plus _ _ _⟩
 subst q6
 by_cases q7:a7=b7
 case neg =>
  have hF:=Lib.hid (show false=((a0 == a0) && ((a1 == a1) && ((a2 == a2) && ((a3 == a3) && ((a4.toList == b4.toList) && ((a5.toList == b5.toList) && ((a6 == a6) && ((a7 == b7) && (s8))))))))) by simp [q7,q4,q5])
  clear h8
  go_enter Tryz.func217,Tryz.ntmps217
  go_wp2_with fail
  go_ret
  exact⟨rb hF.out,alloc2_plus _ _ _⟩
 subst q7
 cases s8
 case false =>
  have hF:=Lib.hid (show false=((a0 == a0) && ((a1 == a1) && ((a2 == a2) && ((a3 == a3) && ((a4.toList == b4.toList) && ((a5.toList == b5.toList) && ((a6 == a6) && ((a7 == a7) && (false))))))))) by simp [q4,q5])
  have h8:=Lib.hid h8
  go_enter Tryz.func217,Tryz.ntmps217
  go_wp2_with fail
  obtain⟨W,yy,hW,⟨z,hz⟩,cb0,cb1⟩:=box2n V _ _ 45 45
  rw [hW]
  have c0_0:=cb0 0 _ rfl
  have c0_1:=cb0 1 _ rfl
  have c0_2:=cb0 2 _ rfl
  have c0_3:=cb0 3 _ rfl
  have c0_4:=cb0 4 _ rfl
  have c0_5:=cb0 5 _ rfl
  have c0_6:=cb0 6 _ rfl
  have c0_7:=cb0 7 _ rfl
  have c0_8:=cb0 8 _ rfl
  have c1_0:=cb1 0 _ rfl
  have c1_1:=cb1 1 _ rfl
  have c1_2:=cb1 2 _ rfl
  have c1_3:=cb1 3 _ rfl
  have c1_4:=cb1 4 _ rfl
  have c1_5:=cb1 5 _ rfl
  have c1_6:=cb1 6 _ rfl
  have c1_7:=cb1 7 _ rfl
  have c1_8:=cb1 8 _ rfl
  have q8c:=Lib.hid (kp_at hz h8.out)
  have hcW:=fun x=>cell_keep (cell_at hz hc) x
  have hz':=Lib.hid hz
  clear hW hz cb0 cb1
  refine (q8c.out _).mono ?_
  rintro r w' ⟨rfl,x1,rfl⟩
  go_wp2_with fail
  go_ret
  exact⟨rb hF.out,pp hz'.out⟩
 have hF:=Lib.hid (show true=((a0 == a0) && ((a1 == a1) && ((a2 == a2) && ((a3 == a3) && ((a4.toList == b4.toList) && ((a5.toList == b5.toList) && ((a6 == a6) && ((a7 == a7) && (true))))))))) by simp [q4,q5])
 have h8:=Lib.hid h8
 go_enter Tryz.func217,Tryz.ntmps217
 go_wp2_with fail
 obtain⟨W,yy,hW,⟨z,hz⟩,cb0,cb1⟩:=box2n V _ _ 45 45
 rw [hW]
 have c0_0:=cb0 0 _ rfl
 have c0_1:=cb0 1 _ rfl
 have c0_2:=cb0 2 _ rfl
 have c0_3:=cb0 3 _ rfl
 have c0_4:=cb0 4 _ rfl
 have c0_5:=cb0 5 _ rfl
 have c0_6:=cb0 6 _ rfl
 have c0_7:=cb0 7 _ rfl
 have c0_8:=cb0 8 _ rfl
 have c1_0:=cb1 0 _ rfl
 have c1_1:=cb1 1 _ rfl
 have c1_2:=cb1 2 _ rfl
 have c1_3:=cb1 3 _ rfl
 have c1_4:=cb1 4 _ rfl
 have c1_5:=cb1 5 _ rfl
 have c1_6:=cb1 6 _ rfl
 have c1_7:=cb1 7 _ rfl
 have c1_8:=cb1 8 _ rfl
 have q8c:=Lib.hid (kp_at hz h8.out)
 have hcW:=fun x=>cell_keep (cell_at hz hc) x
 have hz':=Lib.hid hz
 clear hW hz cb0 cb1
 refine (q8c.out _).mono ?_
 rintro r w' ⟨rfl,x1,rfl⟩
 go_wp2_with fail
 go_ret
 exact⟨rb hF.out,pp hz'.out⟩
set_option maxHeartbeats 8000000 in
theorem eqf_Expr {α:Type} (cells:α→List Value) (hC:∀ x,shp_Expr (cells x)) (f:α→α→Bool) (g:FuncId) (caps:Array Value) (K:α→Prop) (w:World) (A B:Sl α) (hA:A.In w 9 cells K) (hB:B.In w 9 cells K) (hl:A.l.length≤1048576)
  (hent:∀ args w,(callFunc g args).run Tryz.prog w=.ok (.enter g args) w)
  (hf:∀ x ∈ A.l,∀ y ∈ B.l,Kp Tryz.prog w g (#[.agg (cells x).toArray,.agg (cells y).toArray]++caps) (.bool (f x y))) :
  Kp Tryz.prog w 218 #[A.v,B.v,.func (.func g) #[] caps] (.bool (eqAll f A.l B.l)):=by
 intro y0
 obtain⟨p,cap,l⟩:=A
 obtain⟨q,cbp,r⟩:=B
 simp only [Sl.v] at hl hf ⊢
 obtain⟨n,hn⟩:∃ n,l.length=n:=⟨_,rfl⟩
 obtain⟨m,hm⟩:∃ n,r.length=n:=⟨_,rfl⟩
 have hA:=hA.row.plus y0
 have hB:=hB.row.plus y0
 have hf:=fun x hx y hy=>((hf x hx y hy).up y0).pure
 obtain⟨W,hW⟩:∃ W,plus w y0=W:=⟨_,rfl⟩
 rw [hW] at hA hB ⊢
 simp only [hW] at hf
 rw [hn] at hl
 clear hW
 by_cases hne:n=m
 case neg =>
  have hF:=Lib.hid (show false=eqAll f l r from (eqAll_length f l r (by omega)).symm)
  rw [hn,hm]
  clear hA hB hl hn hm hf
  go_enter Tryz.func218,Tryz.ntmps218
  go_wp2
  go_ret
  exact⟨rb hF.out,_,(plus_self W).symm⟩
 subst hne
 rw [hn,hm]
 obtain⟨R,hR⟩:∃ R,eqAll f l r=R:=⟨_,rfl⟩
 rw [hR]
 have h0:eqAll f (l.drop 0) (r.drop 0)=R:=hR
 have hA':=Lib.hid hA
 have hB':=Lib.hid hB
 have hn':=Lib.hid hn
 have hm':=Lib.hid hm
 have hl':=Lib.hid hl
 have h0':=Lib.hid h0
 have hf':=Lib.hid hf
 have hC':=Lib.hid hC
 clear hA hB hl hn hm hR h0 hf hC
 go_enter Tryz.func218,Tryz.ntmps218
 go_wp2
 go_loopw [7,8,9,17] (fun _ _ _ iv wr=>∃ k:Nat,k≤n∧iv=.int .i64 (k:Int)∧Hid (eqAll f (l.drop k) (r.drop k)=R)∧∃ y,wr=plus W y) (fun _ _ _ iv _=>n - (intOf iv).toNat)
 case atStart=>exact⟨0,Nat.zero_le _,rfl,h0',⟨#[],W.drawn⟩,(plus_self W).symm⟩
 case round =>
  obtain⟨k,hk,rfl,hs,y,rfl⟩:=hrel
  by_cases hlt:k < n
  ·obtain⟨a,ha⟩:∃ s,l[k]?=some s:=⟨l[k]'(by rw [hn'.out];exact hlt),List.getElem?_eq_getElem _⟩
   obtain⟨b,hb⟩:∃ s,r[k]?=some s:=⟨r[k]'(by rw [hm'.out];exact hlt),List.getElem?_eq_getElem _⟩
   obtain⟨pa,rfl,hc⟩:=hA'.out k a ha
   obtain⟨pb,rfl,hd⟩:=hB'.out k b hb
   have q1:=hf'.out a (List.mem_of_getElem? ha) b (List.mem_of_getElem? hb)
   have hs1:(f a b && eqAll f (l.drop (k+1)) (r.drop (k+1)))=R:=by rw [← eqAll_drop f l r k a b ha hb];exact hs.out
   obtain⟨Z,hZ⟩:∃ Z,f a b=Z:=⟨_,rfl⟩
   rw [hZ] at q1 hs1
   obtain⟨c0,c1,c2,c3,c4,c5,c6,c7,c8p,c8n,c8c,ea⟩:=hC'.out a
   obtain⟨e0,e1,e2,e3,e4,e5,e6,e7,e8p,e8n,e8c,eb⟩:=hC'.out b
   rw [ea,eb] at q1
   have d0:=fun y=>(hc.plus y).c0 _ (by rw [ea];rfl)
   have d1:=fun y=>(hc.plus y).cs 0 _ (by rw [ea];rfl)
   have d2:=fun y=>(hc.plus y).cs 1 _ (by rw [ea];rfl)
   have d3:=fun y=>(hc.plus y).cs 2 _ (by rw [ea];rfl)
   have d4:=fun y=>(hc.plus y).cs 3 _ (by rw [ea];rfl)
   have d5:=fun y=>(hc.plus y).cs 4 _ (by rw [ea];rfl)
   have d6:=fun y=>(hc.plus y).cs 5 _ (by rw [ea];rfl)
   have d7:=fun y=>(hc.plus y).cs 6 _ (by rw [ea];rfl)
   have d8:=fun y=>(hc.plus y).cs 7 _ (by rw [ea];rfl)
   have k0:=fun y X=>cell_alloc ((hd.plus y).c0 _ (by rw [eb];rfl)) X
   have k1:=fun y X=>cell_alloc ((hd.plus y).cs 0 _ (by rw [eb];rfl)) X
   have k2:=fun y X=>cell_alloc ((hd.plus y).cs 1 _ (by rw [eb];rfl)) X
   have k3:=fun y X=>cell_alloc ((hd.plus y).cs 2 _ (by rw [eb];rfl)) X
   have k4:=fun y X=>cell_alloc ((hd.plus y).cs 3 _ (by rw [eb];rfl)) X
   have k5:=fun y X=>cell_alloc ((hd.plus y).cs 4 _ (by rw [eb];rfl)) X
   have k6:=fun y X=>cell_alloc ((hd.plus y).cs 5 _ (by rw [eb];rfl)) X
   have k7:=fun y X=>cell_alloc ((hd.plus y).cs 6 _ (by rw [eb];rfl)) X
   have k8:=fun y X=>cell_alloc ((hd.plus y).cs 7 _ (by rw [eb];rfl)) X
   have q1':=Lib.hid q1
   have a6:=Lib.hid (wr_succ k n hlt hl'.out)
   clear q1 hZ hc hd ha hb hs ea eb
   cases Z with
   | true =>
    have hs2:=Lib.hid (show eqAll f (l.drop (k+1)) (r.drop (k+1))=R by rw [← hs1,Bool.true_and])
    clear hs1
    go_wp2_with (refine pure_call2 q1'.out ?_;rintro e w' ⟨rfl,x,rfl⟩)
    go_roundw
    case rel=>exact⟨k+1,hlt,congrArg (Value.int .i64) a6.out,hs2,x,rfl⟩
    case measure=>exact step_less k n hlt a6.out
   | false =>
    have hs2:=Lib.hid (show false=R by rw [← hs1,Bool.false_and])
    clear hs1
    go_wp2_with (refine pure_call2 q1'.out ?_;rintro e w' ⟨rfl,x,rfl⟩)
    go_ret
    exact⟨rb hs2.out,x,rfl⟩
  ·obtain rfl:k=n:=by omega
   have hs2:=Lib.hid (show true=R by
    rw [← hs.out,List.drop_of_length_le (by rw [hn'.out];exact Nat.le_refl _),List.drop_of_length_le (by rw [hm'.out];exact Nat.le_refl _),eqAll])
   clear hs hlt hk
   go_wp2
   go_ret
   exact⟨rb hs2.out,y,rfl⟩
end Go.Proofs.YtobhijbncchpiaaGreat
