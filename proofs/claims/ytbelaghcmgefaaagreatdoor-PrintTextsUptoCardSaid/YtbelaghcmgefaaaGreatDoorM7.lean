/-
  WHAT IS PROVED HERE: a part of the proof (made narrower and merged by program; the parts: Fa Fb Ff GA GE).
-/
import Derived.Test.YtbelaghcmgefaaaGreatDoorRows
import Derived.WalkKit
import Derived.Lib.Hide
import Derived.WalkSpells
import Derived.WalkLawsBesides
import Derived.Laws.EntriesVeiled
import Derived.Shelf.Abstract
import Derived.Test.YtbelaghcmgefaaaGreatDoorM4
import Derived.Test.YtbelaghcmgefaaaGreatDoorM3
namespace Go.Proofs.YtbelaghcmgefaaaGreatDoor
open Go.RowKit
set_option maxHeartbeats 8000000 in
theorem eqf_Expr {α:Type} (cells:α → List Value) (hC:∀ x,shp_Expr (cells x)) (f:α → α → Bool) (g:FuncId) (caps:Array Value) (K:α → Prop) (w:World) (A B:Sl α) (hA:A.In w 9 cells K) (hB:B.In w 9 cells K) (hl:A.l.length ≤ 1048576)
  (hent:∀ args w,(callFunc g args).run Tryz.prog w = .ok (.enter g args) w)
  (hf:∀ x ∈ A.l,∀ y ∈ B.l,Kp Tryz.prog w g (#[.agg (cells x).toArray,.agg (cells y).toArray]++caps) (.bool (f x y))) :
  Kp Tryz.prog w 166 #[A.v,B.v,.func (.func g) #[] caps] (.bool (eqAll f A.l B.l)):=by
 intro y0
 obtain ⟨p,cap,l⟩:=A
 obtain ⟨q,cbp,r⟩:=B
 simp only [Sl.v] at hl hf ⊢
 obtain ⟨n,hn⟩:∃ n,l.length = n:=⟨_,rfl⟩
 obtain ⟨m,hm⟩:∃ n,r.length = n:=⟨_,rfl⟩
 have hA:=hA.row.plus y0
 have hB:=hB.row.plus y0
 have hf:=fun x hx y hy=>((hf x hx y hy).up y0).pure
 obtain ⟨W,hW⟩:∃ W,plus w y0 = W:=⟨_,rfl⟩
 rw [hW] at hA hB ⊢
 simp only [hW] at hf
 rw [hn] at hl
 clear hW
 by_cases hne:n = m
 case neg =>
  have hF:=Lib.hid (show false = eqAll f l r from (eqAll_length f l r (by omega)).symm)
  rw [hn,hm]
  clear hA hB hl hn hm hf
  go_enter Tryz.func166,Tryz.ntmps166
  go_wp2
  go_ret
  exact ⟨rb hF.out,_,(plus_self W).symm⟩
 subst hne
 rw [hn,hm]
 obtain ⟨R,hR⟩:∃ R,eqAll f l r = R:=⟨_,rfl⟩
 rw [hR]
 have h0:eqAll f (l.drop 0) (r.drop 0) = R:=hR
 have hA':=Lib.hid hA
 have hB':=Lib.hid hB
 have hn':=Lib.hid hn
 have hm':=Lib.hid hm
 have hl':=Lib.hid hl
 have h0':=Lib.hid h0
 have hf':=Lib.hid hf
 have hC':=Lib.hid hC
 clear hA hB hl hn hm hR h0 hf hC
 go_enter Tryz.func166,Tryz.ntmps166
 go_wp2
 go_loopw [7,8,9,17] (fun _ _ _ iv wr=>∃ k:Nat,k ≤ n ∧ iv = .int .i64 (k:Int) ∧ Hid (eqAll f (l.drop k) (r.drop k) = R) ∧ ∃ y,wr = plus W y) (fun _ _ _ iv _=>n - (intOf iv).toNat)
 case atStart=>exact ⟨0,Nat.zero_le _,rfl,h0',⟨#[],W.drawn⟩,(plus_self W).symm⟩
 case round =>
  obtain ⟨k,hk,rfl,hs,y,rfl⟩:=hrel
  by_cases hlt:k < n
  ·obtain ⟨a,ha⟩:∃ s,l[k]? = some s:=⟨l[k]'(by rw [hn'.out];exact hlt),List.getElem?_eq_getElem _⟩
   obtain ⟨b,hb⟩:∃ s,r[k]? = some s:=⟨r[k]'(by rw [hm'.out];exact hlt),List.getElem?_eq_getElem _⟩
   obtain ⟨pa,rfl,hc⟩:=hA'.out k a ha
   obtain ⟨pb,rfl,hd⟩:=hB'.out k b hb
   have q1:=hf'.out a (List.mem_of_getElem? ha) b (List.mem_of_getElem? hb)
   have hs1:(f a b && eqAll f (l.drop (k + 1)) (r.drop (k + 1))) = R:=by rw [← eqAll_drop f l r k a b ha hb];exact hs.out
   obtain ⟨Z,hZ⟩:∃ Z,f a b = Z:=⟨_,rfl⟩
   rw [hZ] at q1 hs1
   obtain ⟨c0,c1,c2,c3,c4,c5,c6,c7,c8p,c8n,c8c,ea⟩:=hC'.out a
   obtain ⟨e0,e1,e2,e3,e4,e5,e6,e7,e8p,e8n,e8c,eb⟩:=hC'.out b
   rw [ea,eb] at q1
   have d0:=fun y=>(hc.plus y).c0 _ (by rw [ea];rfl)
   have d1:=fun y=>(hc.plus y).cs 0 _ (by rw [ea];rfl)
   have d2:=fun y=>(hc.plus y).cs 1 _ (by rw [ea];rfl)
   have d3:=fun y=>(hc.plus y).cs 2 _ (by rw [ea];rfl)
   have d4:=fun y=>(hc.plus y).cs 3 _ (by rw [ea];rfl)
   have d5:=fun y=>(hc.plus y).cs 4 _ (by rw [ea];rfl)
   have d6:=fun y=>(hc.plus y).cs 5 _ (by rw [ea];rfl)
   have d7:=fun y=>(hc.plus y).cs 6 _ (by rw [ea];rfl)
   have d8:=fun y=>(hc.plus y).cs 7 _ (by rw [ea];rfl)
   have k0:=fun y X=>cell_alloc ((hd.plus y).c0 _ (by rw [eb];rfl)) X
   have k1:=fun y X=>cell_alloc ((hd.plus y).cs 0 _ (by rw [eb];rfl)) X
   have k2:=fun y X=>cell_alloc ((hd.plus y).cs 1 _ (by rw [eb];rfl)) X
   have k3:=fun y X=>cell_alloc ((hd.plus y).cs 2 _ (by rw [eb];rfl)) X
   have k4:=fun y X=>cell_alloc ((hd.plus y).cs 3 _ (by rw [eb];rfl)) X
   have k5:=fun y X=>cell_alloc ((hd.plus y).cs 4 _ (by rw [eb];rfl)) X
   have k6:=fun y X=>cell_alloc ((hd.plus y).cs 5 _ (by rw [eb];rfl)) X
   have k7:=fun y X=>cell_alloc ((hd.plus y).cs 6 _ (by rw [eb];rfl)) X
   have k8:=fun y X=>cell_alloc ((hd.plus y).cs 7 _ (by rw [eb];rfl)) X
   have q1':=Lib.hid q1
   have a6:=Lib.hid (wr_succ k n hlt hl'.out)
   clear q1 hZ hc hd ha hb hs ea eb
   cases Z with
   | true =>
    have hs2:=Lib.hid (show eqAll f (l.drop (k + 1)) (r.drop (k + 1)) = R by rw [← hs1,Bool.true_and])
    clear hs1
    go_wp2_with (refine pure_call2 q1'.out ?_;rintro e w' ⟨rfl,x,rfl⟩)
    go_roundw
    case rel=>exact ⟨k + 1,hlt,congrArg (Value.int .i64) a6.out,hs2,x,rfl⟩
    case measure=>exact step_less k n hlt a6.out
   | false =>
    have hs2:=Lib.hid (show false = R by rw [← hs1,Bool.false_and])
    clear hs1
    go_wp2_with (refine pure_call2 q1'.out ?_;rintro e w' ⟨rfl,x,rfl⟩)
    go_ret
    exact ⟨rb hs2.out,x,rfl⟩
  ·obtain rfl:k = n:=by omega
   have hs2:=Lib.hid (show true = R by
    rw [← hs.out,List.drop_of_length_le (by rw [hn'.out];exact Nat.le_refl _),List.drop_of_length_le (by rw [hm'.out];exact Nat.le_refl _),eqAll])
   clear hs hlt hk
   go_wp2
   go_ret
   exact ⟨rb hs2.out,y,rfl⟩
set_option maxRecDepth 100000 in
set_option maxHeartbeats 8000000 in
theorem expr1_of (a0:Int) (a1:Int) (a2:Int) (a3:Int) (a4:ByteArray) (a5:ByteArray) (a6:Int) (a7:Int) (a8p:Option Addr) (a8n:Nat) (a8c:Nat) (b0:Int) (b1:Int) (b2:Int) (b3:Int) (b4:ByteArray) (b5:ByteArray) (b6:Int) (b7:Int) (b8p:Option Addr) (b8n:Nat) (b8c:Nat) (c:Nat) (s8:Bool) (w:World) (hc:w.cell? ⟨c,0,none⟩ = some (.func (.func 165) #[] #[.pointer (some ⟨c,0,none⟩)]))
  (h8:Kp Tryz.prog w 166 #[.slice a8p a8n a8c,.slice b8p b8n b8c,.func (.func 165) #[] #[.pointer (some ⟨c,0,none⟩)]] (.bool s8)) :
  Kp Tryz.prog w 165 #[.agg #[.int .u8 a0,.int .i64 a1,.int .u64 a2,.int .u64 a3,.string a4,.string a5,.int .i64 a6,.int .i64 a7,.slice a8p a8n a8c],.agg #[.int .u8 b0,.int .i64 b1,.int .u64 b2,.int .u64 b3,.string b4,.string b5,.int .i64 b6,.int .i64 b7,.slice b8p b8n b8c],.pointer (some ⟨c,0,none⟩)] (.bool ((a0 == b0) && ((a1 == b1) && ((a2 == b2) && ((a3 == b3) && ((a4.toList == b4.toList) && ((a5.toList == b5.toList) && ((a6 == b6) && ((a7 == b7) && s8))))))))):=by
 intro y0
 have h8:=h8.up y0
 have hc:=cell_keep hc y0
 obtain ⟨V,hV⟩:∃ V,plus w y0 = V:=⟨_,rfl⟩
 rw [hV] at h8 hc ⊢
 clear hV
 have hc2:=fun a b=>cell_alloc (cell_alloc hc a) b
 by_cases q0:a0 = b0
 case neg =>
  have hF:=Lib.hid (show false = ((a0 == b0) && ((a1 == b1) && ((a2 == b2) && ((a3 == b3) && ((a4.toList == b4.toList) && ((a5.toList == b5.toList) && ((a6 == b6) && ((a7 == b7) && (s8))))))))) by simp [q0])
  clear h8
  go_enter Tryz.func165,Tryz.ntmps165
  go_wp2_with fail
  go_ret
  exact ⟨rb hF.out,alloc2_plus _ _ _⟩
 subst q0
 by_cases q1:a1 = b1
 case neg =>
  have hF:=Lib.hid (show false = ((a0 == a0) && ((a1 == b1) && ((a2 == b2) && ((a3 == b3) && ((a4.toList == b4.toList) && ((a5.toList == b5.toList) && ((a6 == b6) && ((a7 == b7) && (s8))))))))) by simp [q1])
  clear h8
  go_enter Tryz.func165,Tryz.ntmps165
  go_wp2_with fail
  go_ret
  exact ⟨rb hF.out,alloc2_plus _ _ _⟩
 subst q1
 by_cases q2:a2 = b2
 case neg =>
  have hF:=Lib.hid (show false = ((a0 == a0) && ((a1 == a1) && ((a2 == b2) && ((a3 == b3) && ((a4.toList == b4.toList) && ((a5.toList == b5.toList) && ((a6 == b6) && ((a7 == b7) && (s8))))))))) by simp [q2])
  clear h8
  go_enter Tryz.func165,Tryz.ntmps165
  go_wp2_with fail
  go_ret
  exact ⟨rb hF.out,alloc2_plus _ _ _⟩
 subst q2
 by_cases q3:a3 = b3
 case neg =>
  have hF:=Lib.hid (show false = ((a0 == a0) && ((a1 == a1) && ((a2 == a2) && ((a3 == b3) && ((a4.toList == b4.toList) && ((a5.toList == b5.toList) && ((a6 == b6) && ((a7 == b7) && (s8))))))))) by simp [q3])
  clear h8
  go_enter Tryz.func165,Tryz.ntmps165
  go_wp2_with fail
  go_ret
  exact ⟨rb hF.out,alloc2_plus _ _ _⟩
 subst q3
 by_cases q4:(a4.toList == b4.toList) = true
 case neg =>
  have q4:(a4.toList == b4.toList) = false:=by simpa using q4
  have hF:=Lib.hid (show false = ((a0 == a0) && ((a1 == a1) && ((a2 == a2) && ((a3 == a3) && ((a4.toList == b4.toList) && ((a5.toList == b5.toList) && ((a6 == b6) && ((a7 == b7) && (s8))))))))) by simp [q4])
  clear h8
  go_enter Tryz.func165,Tryz.ntmps165
  go_wp2_with fail
  go_ret
  exact ⟨rb hF.out,alloc2_plus _ _ _⟩
 by_cases q5:(a5.toList == b5.toList) = true
 case neg =>
  have q5:(a5.toList == b5.toList) = false:=by simpa using q5
  have hF:=Lib.hid (show false = ((a0 == a0) && ((a1 == a1) && ((a2 == a2) && ((a3 == a3) && ((a4.toList == b4.toList) && ((a5.toList == b5.toList) && ((a6 == b6) && ((a7 == b7) && (s8))))))))) by simp [q5,q4])
  clear h8
  go_enter Tryz.func165,Tryz.ntmps165
  go_wp2_with fail
  go_ret
  exact ⟨rb hF.out,alloc2_plus _ _ _⟩
 by_cases q6:a6 = b6
 case neg =>
  have hF:=Lib.hid (show false = ((a0 == a0) && ((a1 == a1) && ((a2 == a2) && ((a3 == a3) && ((a4.toList == b4.toList) && ((a5.toList == b5.toList) && ((a6 == b6) && ((a7 == b7) && (s8))))))))) by simp [q6,q4,q5])
  clear h8
  go_enter Tryz.func165,Tryz.ntmps165
  go_wp2_with fail
  go_ret
  exact ⟨rb hF.out,alloc2_plus _ _ _⟩
 subst q6
 by_cases q7:a7 = b7
 case neg =>
  have hF:=Lib.hid (show false = ((a0 == a0) && ((a1 == a1) && ((a2 == a2) && ((a3 == a3) && ((a4.toList == b4.toList) && ((a5.toList == b5.toList) && ((a6 == a6) && ((a7 == b7) && (s8))))))))) by simp [q7,q4,q5])
  clear h8
  go_enter Tryz.func165,Tryz.ntmps165
  go_wp2_with fail
  go_ret
  exact ⟨rb hF.out,alloc2_plus _ _ _⟩
 subst q7
 cases s8
 case false =>
  have hF:=Lib.hid (show false = ((a0 == a0) && ((a1 == a1) && ((a2 == a2) && ((a3 == a3) && ((a4.toList == b4.toList) && ((a5.toList == b5.toList) && ((a6 == a6) && ((a7 == a7) && (false))))))))) by simp [q4,q5])
  have h8:=Lib.hid h8
  go_enter Tryz.func165,Tryz.ntmps165
  go_wp2_with fail
  obtain ⟨W,yy,hW,⟨z,hz⟩,cb0,cb1⟩:=box2n V _ _ 29 29
  rw [hW]
  have c0_0:=cb0 0 _ rfl
  have c0_1:=cb0 1 _ rfl
  have c0_2:=cb0 2 _ rfl
  have c0_3:=cb0 3 _ rfl
  have c0_4:=cb0 4 _ rfl
  have c0_5:=cb0 5 _ rfl
  have c0_6:=cb0 6 _ rfl
  have c0_7:=cb0 7 _ rfl
  have c0_8:=cb0 8 _ rfl
  have c1_0:=cb1 0 _ rfl
  have c1_1:=cb1 1 _ rfl
  have c1_2:=cb1 2 _ rfl
  have c1_3:=cb1 3 _ rfl
  have c1_4:=cb1 4 _ rfl
  have c1_5:=cb1 5 _ rfl
  have c1_6:=cb1 6 _ rfl
  have c1_7:=cb1 7 _ rfl
  have c1_8:=cb1 8 _ rfl
  have q8c:=Lib.hid (kp_at hz h8.out)
  have hcW:=fun x=>cell_keep (cell_at hz hc) x
  have hz':=Lib.hid hz
  clear hW hz cb0 cb1
  refine (q8c.out _).mono ?_
  rintro r w' ⟨rfl,x1,rfl⟩
  go_wp2_with fail
  go_ret
  exact ⟨rb hF.out,pp hz'.out⟩
 have hF:=Lib.hid (show true = ((a0 == a0) && ((a1 == a1) && ((a2 == a2) && ((a3 == a3) && ((a4.toList == b4.toList) && ((a5.toList == b5.toList) && ((a6 == a6) && ((a7 == a7) && (true))))))))) by simp [q4,q5])
 have h8:=Lib.hid h8
 go_enter Tryz.func165,Tryz.ntmps165
 go_wp2_with fail
 obtain ⟨W,yy,hW,⟨z,hz⟩,cb0,cb1⟩:=box2n V _ _ 29 29
 rw [hW]
 have c0_0:=cb0 0 _ rfl
 have c0_1:=cb0 1 _ rfl
 have c0_2:=cb0 2 _ rfl
 have c0_3:=cb0 3 _ rfl
 have c0_4:=cb0 4 _ rfl
 have c0_5:=cb0 5 _ rfl
 have c0_6:=cb0 6 _ rfl
 have c0_7:=cb0 7 _ rfl
 have c0_8:=cb0 8 _ rfl
 have c1_0:=cb1 0 _ rfl
 have c1_1:=cb1 1 _ rfl
 have c1_2:=cb1 2 _ rfl
 have c1_3:=cb1 3 _ rfl
 have c1_4:=cb1 4 _ rfl
 have c1_5:=cb1 5 _ rfl
 have c1_6:=cb1 6 _ rfl
 have c1_7:=cb1 7 _ rfl
 have c1_8:=cb1 8 _ rfl
 have q8c:=Lib.hid (kp_at hz h8.out)
 have hcW:=fun x=>cell_keep (cell_at hz hc) x
 have hz':=Lib.hid hz
 clear hW hz cb0 cb1
 refine (q8c.out _).mono ?_
 rintro r w' ⟨rfl,x1,rfl⟩
 go_wp2_with fail
 go_ret
 exact ⟨rb hF.out,pp hz'.out⟩
theorem clo3 (V:World) (A B:Obj) (v:Value) (t:TypeId):∃ W,((V.alloc A).alloc B).alloc (.cells #[v] t) = W ∧ (∃ z,W = plus V z) ∧ W.cell? ⟨V.heap.size + 1 + 1,0,none⟩ = some v:=by
 refine ⟨_,rfl,?_,cell_new _ _ _ _ _ (by simp)⟩
 obtain ⟨x,hx⟩:=alloc2_plus V A B
 rw [hx]
 exact plus_alloc1 V x _
theorem shp_ex (x:Ex):shp_Expr x.cells:=⟨_,_,_,_,_,_,_,_,_,_,_,rfl⟩
theorem shp_st (x:St):shp_Stmt x.cells:=⟨_,_,_,_,_,_,_,_,_,_,_,_,_,_,_,_,_,_,_,_,rfl⟩
theorem Ex.sames_eq:∀ l r:List Ex,Ex.sames l r = eqAll Ex.same l r
 | [],[]=>by rw [Ex.sames,eqAll]
 | a :: l,b :: r=>by rw [Ex.sames,eqAll,Ex.sames_eq l r]
 | [],_ :: _=>by rw [Ex.sames,eqAll]
 | _ :: _,[]=>by rw [Ex.sames,eqAll]
def fv_expr (c:Nat):Value:=.func (.func 165) #[] #[.pointer (some ⟨c,0,none⟩)]
theorem same1:∀ (a b:Ex) (w:World) (c:Nat),a.In w → b.In w → a.wt ≤ 1048576 → w.cell? ⟨c,0,none⟩ = some (fv_expr c) → Kp Tryz.prog w 165 #[a.val,b.val,.pointer (some ⟨c,0,none⟩)] (.bool (a.same b)):=by
 intro a
 induction a using Ex.ind with
 | _ a ih =>
 intro b w c ha hb wa hc
 have h1:=ha
 have h2:=hb
 obtain ⟨_,_,_,_,_,_,_,l1,c1,r1,k1⟩:=h1
 obtain ⟨_,_,_,_,_,_,_,l2,c2,r2,k2⟩:=h2
 have e1:=Ex.wt_eq a
 have hl:a.args.length ≤ 1048576:=by have:=length_le_sum Ex.wt Ex.wt_pos a.args;omega
 have hE:=eqf_Expr Ex.cells shp_ex Ex.same 165 #[.pointer (some ⟨c,0,none⟩)] (Ex.In w) w ⟨a.p,a.cap,a.args⟩ ⟨b.p,b.cap,b.args⟩ ⟨l1,c1,r1,k1⟩ ⟨l2,c2,r2,k2⟩ hl (enters_of Tryz.func165 (by kernel_rfl) rfl)
  (fun x hx y hy=>ih x hx y w c (k1 x hx) (k2 y hy) (Nat.le_trans (le_sum_of Ex.wt a.args x hx) (by omega)) hc)
 refine (expr1_of a.op a.lit.w a.lit.h a.lit.l a.head a.name a.hi a.lo a.p a.args.length a.cap b.op b.lit.w b.lit.h b.lit.l b.head b.name b.hi b.lo b.p b.args.length b.cap c _ w hc hE).eqv ?_
 simp only [Ex.same_eq,Ex.top,Ex.sames_eq,Bool.and_assoc]
set_option maxRecDepth 100000 in
set_option maxHeartbeats 8000000 in
theorem ast_sameExpr (a b:Ex) (w:World) (ha:a.In w) (hb:b.In w) (wa:a.wt ≤ 1048576):Kp Tryz.prog w 148 #[a.val,b.val] (.bool (a.same b)):=by
 intro y0
 have ha:=ha.plus y0
 have hb:=hb.plus y0
 obtain ⟨V,hV⟩:∃ V,plus w y0 = V:=⟨_,rfl⟩
 rw [hV] at ha hb ⊢
 clear hV
 have hq:=fun (W:World) (c:Nat) (z:Ext) (hz:W = plus V z) (hc:W.cell? ⟨c,0,none⟩ = some (fv_expr c))=>calls_self (same1 a b W c (hz ▸ ha.plus z) (hz ▸ hb.plus z) wa hc)
 obtain ⟨S,hS⟩:∃ S,a.same b = S:=⟨_,rfl⟩
 rw [hS] at hq ⊢
 clear hS ha hb wa
 obtain ⟨op,⟨lw,lh,ll⟩,hd,nm,eh,el,p,cap,args⟩:=a
 obtain ⟨op2,⟨lw2,lh2,ll2⟩,hd2,nm2,eh2,el2,p2,cap2,args2⟩:=b
 have hq:∀ (W:World) (c:Nat) (z:Ext),W = plus V z → W.cell? ⟨c,0,none⟩ = some (fv_expr c) → Calls Tryz.prog 165 #[.agg #[.int .u8 op,.int .i64 lw,.int .u64 lh,.int .u64 ll,.string hd,.string nm,.int .i64 eh,.int .i64 el,.slice p args.length cap],.agg #[.int .u8 op2,.int .i64 lw2,.int .u64 lh2,.int .u64 ll2,.string hd2,.string nm2,.int .i64 eh2,.int .i64 el2,.slice p2 args2.length cap2],.pointer (some ⟨c,0,none⟩)] W fun e w'=>e = .returned (.bool S) ∧ ∃ x,w' = plus W x:=hq
 show Calls Tryz.prog 148 #[.agg #[.int .u8 op,.int .i64 lw,.int .u64 lh,.int .u64 ll,.string hd,.string nm,.int .i64 eh,.int .i64 el,.slice p args.length cap],.agg #[.int .u8 op2,.int .i64 lw2,.int .u64 lh2,.int .u64 ll2,.string hd2,.string nm2,.int .i64 eh2,.int .i64 el2,.slice p2 args2.length cap2]] V _
 generalize args.length = n1 at hq ⊢
 generalize args2.length = n2 at hq ⊢
 have hq':=Lib.hid hq
 clear hq
 have hmf:∀ (fn:Fn) (first cap:Array Value) (w:World),(Instr.makeFunc fn first cap).run Tryz.prog w = .ok (.func fn first cap) w:=fun _ _ _ _=>rfl
 go_enter Tryz.func148,Tryz.ntmps148
 go_wp2_with fail
 obtain ⟨W,hW,⟨z,hz⟩,hc⟩:=clo3 V _ _ _ _
 rw [hW]
 have hz':=Lib.hid hz
 refine (hq'.out W _ z hz hc).mono ?_
 clear hW hz hc
 rintro r w' ⟨rfl,x,rfl⟩
 go_wp2
 go_ret
 exact ⟨rfl,pp hz'.out⟩
theorem St.In.inE {w:World} {s:St} (h:s.In w):s.e.In w:=by obtain ⟨_,_,_,_,e,_,_,_,_,_,_,_,_⟩:=h;exact e
theorem St.In.inThn {w:World} {s:St} (h:s.In w):s.thnS.In w 14 St.cells (St.In w):=by obtain ⟨_,_,_,_,_,l,c,r,k,_,_,_,_⟩:=h;exact ⟨l,c,r,k⟩
theorem St.In.inEls {w:World} {s:St} (h:s.In w):s.elsS.In w 14 St.cells (St.In w):=by obtain ⟨_,_,_,_,_,_,_,_,_,l,c,r,k⟩:=h;exact ⟨l,c,r,k⟩
theorem shp_fd (x:Fd):shp_Field x.cells:=⟨_,_,rfl⟩
theorem shp_hr (x:Hr):shp_Header x.cells:=⟨_,_,_,_,rfl⟩
theorem shp_se (x:Se):shp_Set x.cells:=⟨_,_,_,_,_,_,_,rfl⟩
theorem shp_lt (x:Lt):shp_Lit x.cells:=⟨_,_,_,rfl⟩
theorem shp_ca (x:Ca):shp_Case x.cells:=⟨_,_,_,_,_,rfl⟩
theorem shp_sa (x:Sa):shp_State x.cells:=⟨_,_,_,_,_,_,_,_,_,_,_,rfl⟩
theorem shp_ac (x:Ac):shp_Action x.cells:=⟨_,_,_,_,_,_,_,rfl⟩
theorem shp_ke (x:Ke):shp_Key x.cells:=⟨_,_,_,_,_,_,_,_,_,_,_,_,rfl⟩
theorem shp_ta (x:Ta):shp_Table x.cells:=⟨_,_,_,_,_,_,_,_,_,_,_,rfl⟩
theorem len_le {α:Type} (f:α → Nat) (hf:∀ x,1 ≤ f x) (L:Sl α) {n:Nat} (h:L.size f ≤ n):L.l.length ≤ n:=Nat.le_trans (length_le_sum f hf L.l) h
theorem one_sz {α:Type} {f:α → Nat} {L:Sl α} {n:Nat} {x:α} (h:L.size f ≤ n) (hx:x ∈ L.l):f x ≤ n:=Nat.le_trans (le_sum_of f L.l x hx) h
theorem strSize_le (L:Sl ByteArray) {n:Nat} (h:L.size strSize ≤ n):L.l.length ≤ n:=len_le strSize strSize_pos L h
theorem lt_sz (L:Sl Lt) {n:Nat} (h:L.size (fun _=>1) ≤ n):L.l.length ≤ n:=len_le (fun _=>1) (fun _=>Nat.le_refl _) L h
end Go.Proofs.YtbelaghcmgefaaaGreatDoor
