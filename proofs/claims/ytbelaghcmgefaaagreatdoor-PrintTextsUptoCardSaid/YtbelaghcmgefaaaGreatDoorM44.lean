/-
  WHAT IS PROVED HERE: a part of the proof (made narrower and merged by program; the parts: Yg).
-/
import Derived.Test.YtbelaghcmgefaaaGreatDoorRows
import Derived.WalkKit
import Derived.Lib.Hide
import Derived.WalkSpells
import Derived.WalkLawsBesides
import Derived.Test.YtbelaghcmgefaaaGreatDoorM42
import Derived.Test.YtbelaghcmgefaaaGreatDoorM43
namespace Go.Proofs.YtbelaghcmgefaaaGreatDoor
open Go.RowKit
set_option maxRecDepth 100000 in
set_option maxHeartbeats 32000000 in
theorem rprog_of (H:Sl Hr) (M:Sl Fd) (S:Sl Sa) (A:Sl Ac) (T:Sl Ta) (C:Sl St) (E:Sl ByteArray) (w:World)
  (hm:Kp Tryz.prog w 28 #[.agg #[H.v,M.v,S.v,A.v,T.v,C.v,E.v]] (.bool true))
  (r_n:RowAt w 2 Hr.cells H.p H.l) (r_o:RowAt w 5 Sa.cells S.p S.l) (r_q:RowAt w 3 Ac.cells A.p A.l) (r_r:RowAt w 5 Ta.cells T.p T.l) (r_t:RowAt w 1 strCells E.p E.l)
  (ln_n:H.l.length ≤ 1048576) (ln_o:S.l.length ≤ 1048576) (ln_q:A.l.length ≤ 1048576) (ln_r:T.l.length ≤ 1048576) (ln_t:E.l.length ≤ 1048576)
  (hF:∀ x ∈ H.l,Kp Tryz.prog w 29 #[x.fields.v,.int .i64 1] (.string (bs (flat (Fd.ln 1) x.fields.l))) ∧ x.name.size ≤ 1048576 ∧ (flat (Fd.ln 1) x.fields.l).length ≤ 2000000000)
  (hM:Kp Tryz.prog w 29 #[M.v,.int .i64 1] (.string (bs (flat (Fd.ln 1) M.l))))
  (hS:∀ x ∈ S.l,(Kp Tryz.prog w 30 #[.agg x.cells.toArray] (.string (bs (x.tr 2))) ∧ x.name.size ≤ 1048576 ∧ (x.tr 2).length ≤ 2000000000) ∧ RowAt w 1 strCells x.takes.p x.takes.l ∧ x.takes.l.length ≤ 1048576 ∧ (flat (takeL 2) x.takes.l).length ≤ 2000000000 ∧ ∀ s ∈ x.takes.l,s.size ≤ 1048576)
  (hA:∀ x ∈ A.l,(Kp Tryz.prog w 31 #[x.body.v,.int .i64 1] (.string (bs (flat (St.ln 1) x.body.l))) ∧ x.name.size ≤ 1048576 ∧ (flat (St.ln 1) x.body.l).length ≤ 2000000000) ∧ RowAt w 2 Fd.cells x.params.p x.params.l ∧ x.params.l.length ≤ 1048576 ∧ (rowB Fd.tx x.params.l).length ≤ 2000000000 ∧ ∀ s ∈ x.params.l,s.name.size ≤ 1048576 ∧ (Lit.int .i64 s.w).wf = true)
  (hB:∀ x ∈ T.l,Kp Tryz.prog w 32 #[.agg x.cells.toArray] (.string (bs x.tx)) ∧ x.tx.length ≤ 2000000000)
  (hC:Kp Tryz.prog w 31 #[C.v,.int .i64 1] (.string (bs (flat (St.ln 1) C.l))))
  (hE:∀ s ∈ E.l,s.size ≤ 1048576)
  (t1:(flat Hr.tx H.l).length ≤ 2000000000) (t2:(flat (Fd.ln 1) M.l).length ≤ 2000000000) (t3:(flat (Sa.ln 1) S.l).length ≤ 2000000000) (t4:(flat Ac.tx A.l).length ≤ 2000000000) (t5:(flat Ta.tx T.l).length ≤ 2000000000) (t6:(flat (St.ln 1) C.l).length ≤ 2000000000) (t7:(flat (emitL 1) E.l).length ≤ 2000000000) :
  Kp Tryz.prog w 12 #[.agg #[H.v,M.v,S.v,A.v,T.v,C.v,E.v]] (.string (bs (flat Hr.tx H.l++([109,101,116,97,100,97,116,97]++(blkB Fd.ln 0 M.l++([112,97,114,115,101,114]++(blkB Sa.ln 0 S.l++(flat Ac.tx A.l++(flat Ta.tx T.l++([99,111,110,116,114,111,108]++(blkB St.ln 0 C.l++([100,101,112,97,114,115,101,114]++blkB emitL 0 E.l)))))))))))):=by
 intro y0
 have hm:=hm.up y0
 have r_n:=r_n.plus y0
 have r_o:=r_o.plus y0
 have r_q:=r_q.plus y0
 have r_r:=r_r.plus y0
 have r_t:=r_t.plus y0
 have hF:=fun x hx=>(⟨(hF x hx).1.up y0,(hF x hx).2⟩:_ ∧ _)
 have hM:=hM.up y0
 have hS:=fun x hx=>(⟨⟨(hS x hx).1.1.up y0,(hS x hx).1.2⟩,(hS x hx).2.1.plus y0,(hS x hx).2.2⟩:(_ ∧ _) ∧ _ ∧ _)
 have hA:=fun x hx=>(⟨⟨(hA x hx).1.1.up y0,(hA x hx).1.2⟩,(hA x hx).2.1.plus y0,(hA x hx).2.2⟩:(_ ∧ _) ∧ _ ∧ _)
 have hB:=fun x hx=>(⟨(hB x hx).1.up y0,(hB x hx).2⟩:_ ∧ _)
 have hC:=hC.up y0
 obtain ⟨V,hV⟩:∃ V,plus w y0 = V:=⟨_,rfl⟩
 simp only [hV] at hm r_n r_o r_q r_r r_t hF hM hS hA hB hC ⊢
 clear hV
 obtain ⟨hp,hc,hl⟩:=H
 obtain ⟨mp,mc,ml⟩:=M
 obtain ⟨sp,sc,sl⟩:=S
 obtain ⟨ap,ac,al⟩:=A
 obtain ⟨tp,tc,tl⟩:=T
 obtain ⟨cp,cc,cl⟩:=C
 obtain ⟨ep,ec,el⟩:=E
 simp only [Sl.v] at hm r_n r_o r_q r_r r_t ln_n ln_o ln_q ln_r ln_t hF hM hS hA hB hC hE t1 t2 t3 t4 t5 t6 t7 ⊢
 obtain ⟨n,hn_n⟩:∃ n,hl.length = n:=⟨_,rfl⟩
 obtain ⟨o,hn_o⟩:∃ n,sl.length = n:=⟨_,rfl⟩
 obtain ⟨q,hn_q⟩:∃ n,al.length = n:=⟨_,rfl⟩
 obtain ⟨r,hn_r⟩:∃ n,tl.length = n:=⟨_,rfl⟩
 obtain ⟨t,hn_t⟩:∃ n,el.length = n:=⟨_,rfl⟩
 rw [hn_n,hn_o,hn_q,hn_r,hn_t] at hm ⊢
 rw [hn_n] at ln_n
 rw [hn_o] at ln_o
 rw [hn_q] at ln_q
 rw [hn_r] at ln_r
 rw [hn_t] at ln_t
 obtain ⟨R,hR⟩:∃ R,bs (flat Hr.tx hl++([109,101,116,97,100,97,116,97]++(blkB Fd.ln 0 ml++([112,97,114,115,101,114]++(blkB Sa.ln 0 sl++(flat Ac.tx al++(flat Ta.tx tl++([99,111,110,116,114,111,108]++(blkB St.ln 0 cl++([100,101,112,97,114,115,101,114]++blkB emitL 0 el)))))))))) = R:=⟨_,rfl⟩
 rw [hR]
 unfold blkB at hR
 generalize hFM:flat (Fd.ln (0 + 1)) ml = FM at hR
 generalize hFC:flat (St.ln (0 + 1)) cl = FC at hR
 have hFM':flat (Fd.ln 1) ml = FM:=hFM
 have hFC':flat (St.ln 1) cl = FC:=hFC
 rw [hFM'] at hM t2
 rw [hFC'] at hC t6
 clear hFM hFC hFM' hFC'
 obtain ⟨M',hMM⟩:∃ X,bs FM = X:=⟨_,rfl⟩
 obtain ⟨C',hCC⟩:∃ X,bs FC = X:=⟨_,rfl⟩
 rw [hMM] at hM
 rw [hCC] at hC
 have zM:M'.size ≤ 2000000000:=by rw [← hMM];exact t2
 have zC:C'.size ≤ 2000000000:=by rw [← hCC];exact t6
 obtain ⟨B0,hB0⟩:∃ B,([]:List UInt8) = B:=⟨_,rfl⟩
 obtain ⟨B1,hB1⟩:∃ B,B0++flat Hr.tx hl++[109,101,116,97,100,97,116,97,32,123,10]++FM++[125,10,112,97,114,115,101,114,32,123,10] = B:=⟨_,rfl⟩
 obtain ⟨B2,hB2⟩:∃ B,B1++flat (Sa.ln 1) sl++[125,10] = B:=⟨_,rfl⟩
 obtain ⟨B3,hB3⟩:∃ B,B2++flat Ac.tx al = B:=⟨_,rfl⟩
 obtain ⟨B4,hB4⟩:∃ B,B3++flat Ta.tx tl++[99,111,110,116,114,111,108,32,123,10]++FC++[125,10,100,101,112,97,114,115,101,114,32,123,10] = B:=⟨_,rfl⟩
 have zB0:B0.length ≤ 1:=by rw [← hB0];decide
 have zB1:B1.length ≤ 4000001000:=by rw [← hB1];simp only [List.length_append,List.length_cons,List.length_nil];omega
 have zB2:B2.length ≤ 6000002000:=by rw [← hB2];simp only [List.length_append,List.length_cons,List.length_nil];omega
 have zB3:B3.length ≤ 8000002000:=by rw [← hB3,List.length_append];omega
 have zB4:B4.length ≤ 12000004000:=by rw [← hB4];simp only [List.length_append,List.length_cons,List.length_nil];omega
 obtain ⟨X1,hX1⟩:∃ X,bs (B1++flat (Sa.ln 1) (sl.take 0)) = X:=⟨_,rfl⟩
 obtain ⟨X2,hX2⟩:∃ X,bs (B2++flat Ac.tx (al.take 0)) = X:=⟨_,rfl⟩
 obtain ⟨X4,hX4⟩:∃ X,bs (B4++flat (emitL 1) (el.take 0)) = X:=⟨_,rfl⟩
 have e0:Hid ((⟨#[]⟩:ByteArray) = bs (B0++flat Hr.tx (hl.take 0))):=Lib.hid (by rw [flat_none,← hB0];rfl)
 have e1:Hid (bs (B0++flat Hr.tx hl)++(⟨#[109,101,116,97,100,97,116,97,32,123,10]⟩:ByteArray)++M'++(⟨#[125,10,112,97,114,115,101,114,32,123,10]⟩:ByteArray) = X1):=Lib.hid (by
  rw [← hX1,flat_none,List.append_nil,← hB1,← hMM]
  apply ByteArray.ext
  simp)
 have e2:Hid (bs (B1++flat (Sa.ln 1) sl)++(⟨#[125,10]⟩:ByteArray) = X2):=Lib.hid (by
  rw [← hX2,flat_none,List.append_nil,← hB2]
  exact bs_app _ _)
 have e3:Hid (bs (B2++flat Ac.tx al) = bs (B3++flat Ta.tx (tl.take 0))):=Lib.hid (by
  rw [flat_none,List.append_nil,← hB3])
 have e4:Hid (bs (B3++flat Ta.tx tl)++(⟨#[99,111,110,116,114,111,108,32,123,10]⟩:ByteArray)++C'++(⟨#[125,10,100,101,112,97,114,115,101,114,32,123,10]⟩:ByteArray) = X4):=Lib.hid (by
  rw [← hX4,flat_none,List.append_nil,← hB4,← hCC]
  apply ByteArray.ext
  simp)
 have e5:Hid (bs (B4++flat (emitL 1) el)++(⟨#[125,10]⟩:ByteArray) = R):=Lib.hid (by
  rw [← hR,← hB4,← hB3,← hB2,← hB1,← hB0]
  apply ByteArray.ext
  simp [padB])
 have f0:Hid (∀ k,(bs (B0++flat Hr.tx (hl.take k))).size ≤ 140737488355328):=Lib.hid (fun k=>flatT_size _ hl B0 k 2000000000 1 t1 zB0 (by omega))
 have f1:Hid (∀ k,(bs (B1++flat (Sa.ln 1) (sl.take k))).size ≤ 140737488355328):=Lib.hid (fun k=>flatT_size _ sl B1 k 2000000000 4000001000 t3 zB1 (by omega))
 have f2:Hid (∀ k,(bs (B2++flat Ac.tx (al.take k))).size ≤ 140737488355328):=Lib.hid (fun k=>flatT_size _ al B2 k 2000000000 6000002000 t4 zB2 (by omega))
 have f3:Hid (∀ k,(bs (B3++flat Ta.tx (tl.take k))).size ≤ 140737488355328):=Lib.hid (fun k=>flatT_size _ tl B3 k 2000000000 8000002000 t5 zB3 (by omega))
 have f4:Hid (∀ k,(bs (B4++flat (emitL 1) (el.take k))).size ≤ 140737488355328):=Lib.hid (fun k=>flatT_size _ el B4 k 2000000000 12000004000 t7 zB4 (by omega))
 have g1:Hid (∀ k,(B1++flat (Sa.ln 1) (sl.take k)).length ≤ 10000000000):=Lib.hid (fun k=>by
  have:=flat_take_le (Sa.ln 1) sl k
  rw [List.length_append]
  omega)
 have g2:Hid (∀ k,(B2++flat Ac.tx (al.take k)).length ≤ 10000000000):=Lib.hid (fun k=>by
  have:=flat_take_le Ac.tx al k
  rw [List.length_append]
  omega)
 have hn_n':=Lib.hid hn_n
 have ln_n':=Lib.hid ln_n
 have r_n':=Lib.hid r_n
 have hn_o':=Lib.hid hn_o
 have ln_o':=Lib.hid ln_o
 have r_o':=Lib.hid r_o
 have hn_q':=Lib.hid hn_q
 have ln_q':=Lib.hid ln_q
 have r_q':=Lib.hid r_q
 have hn_r':=Lib.hid hn_r
 have ln_r':=Lib.hid ln_r
 have r_r':=Lib.hid r_r
 have hn_t':=Lib.hid hn_t
 have ln_t':=Lib.hid ln_t
 have r_t':=Lib.hid r_t
 have hm':=Lib.hid hm
 have hF':=Lib.hid hF
 have hM':=Lib.hid hM
 have hS':=Lib.hid hS
 have hA':=Lib.hid hA
 have hB':=Lib.hid hB
 have hC':=Lib.hid hC
 have hE':=Lib.hid hE
 have hX1':=Lib.hid hX1.symm
 have hX2':=Lib.hid hX2.symm
 have hX4':=Lib.hid hX4.symm
 clear hn_n hn_o hn_q hn_r hn_t ln_n ln_o ln_q ln_r ln_t r_n r_o r_q r_r r_t hm hF hM hS hA hB hC hE hX1 hX2 hX4 hB0 hB1 hB2 hB3 hB4 zB0 zB1 zB2 zB3 zB4 t1 t2 t3 t4 t5 t6 t7 hMM hCC hR
 go_enter Tryz.func12,Tryz.ntmps12
 go_upto_region 1 with (fail)
 obtain ⟨W,yy,hW,⟨z,hz⟩,ca⟩:=box1n V _ 38
 rw [hW]
 have c0:=ca 0 _ rfl
 have c1:=ca 1 _ rfl
 have c2:=ca 2 _ rfl
 have c3:=ca 3 _ rfl
 have c4:=ca 4 _ rfl
 have c5:=ca 5 _ rfl
 have c6:=ca 6 _ rfl
 have up:Hid (∀ {f:FuncId} {args:Array Value} {v:Value},Kp Tryz.prog V f args v → Kp Tryz.prog W f args v):=Lib.hid (fun h=>by rw [hz];exact h.up z)
 have cup:Hid (∀ {a:Addr} {cs:List Value},CellsAt V a cs → CellsAt W a cs):=Lib.hid (fun h=>cellsat_at hz h)
 have mc':=Lib.hid (up.out hm'.out).pure
 have Mc:=Lib.hid (up.out hM'.out).pure
 have Cc:=Lib.hid (up.out hC'.out).pure
 have hz2:=Lib.hid hz
 clear hW hz ca hm' hM' hC'
 go_upto_region 5 with (first | (go_at_call 28;with_reducible refine (mc'.out _).mono ?_;rintro r w' ⟨rfl,x,rfl⟩))
 go_loopw [3,4] (fun sv iv wr=>∃ k:Nat,k ≤ n ∧ iv = .int .i64 (k:Int) ∧ sv = .string (bs (B0++flat (Hr.tx) (hl.take k))) ∧ ∃ y,wr = plus W y) (fun _ iv _=>n - (intOf iv).toNat)
 case atStart=>exact ⟨0,Nat.zero_le _,rfl,congrArg Value.string e0.out,_,rfl⟩
 case round =>
  obtain ⟨k,hk,rfl,rfl,y,rfl⟩:=hrel
  by_cases hlt_k:k < n
  ·obtain ⟨a,ha⟩:∃ s,hl[k]? = some s:=⟨hl[k]'(by rw [hn_n'.out];exact hlt_k),List.getElem?_eq_getElem _⟩
   obtain ⟨pa,rfl,hcV⟩:=r_n'.out k a ha
   have hmem:=List.mem_of_getElem? ha
   have a_k:=Lib.hid (wr_succ k n hlt_k ln_n'.out)
   have l0:=f0.out k
   obtain ⟨q1,z1,z2⟩:=hF'.out a hmem
   have q1:=up.out q1
   have hcW:=cup.out hcV
   clear hcV
   have hX:∀ X,X = bs (Hr.tx a) → bs (B0++flat Hr.tx (hl.take k))++X = bs (B0++flat Hr.tx (hl.take (k + 1))):=fun X e=>flat_more ha e
   rw [show Hr.tx a = [104,101,97,100,101,114,32]++(a.name.data.toList++([32,123,10]++(flat (Fd.ln 1) a.fields.l++[125,10]))) from rfl] at hX
   obtain ⟨nm,⟨fp,fc,fl⟩⟩:=a
   simp only [Hr.cells,Sl.v] at hcW q1 hX z1 z2
   generalize flat (Fd.ln 1) fl = F at q1 z2 hX
   have d0:=fun y=>(hcW.plus y).c0 _ rfl
   have d1:=fun y=>(hcW.plus y).cs 0 _ rfl
   obtain ⟨F',hFF⟩:∃ X,bs F = X:=⟨_,rfl⟩
   rw [hFF] at q1
   have z3:F'.size ≤ 2000000000:=by rw [← hFF];exact z2
   obtain ⟨T0,hT0⟩:∃ T,bs (B0++flat Hr.tx (hl.take k)) = T:=⟨_,rfl⟩
   rw [hT0] at l0 hX ⊢
   have hX:Hid (T0++(⟨#[104,101,97,100,101,114,32]⟩:ByteArray)++nm++(⟨#[32,123,10]⟩:ByteArray)++F'++(⟨#[125,10]⟩:ByteArray) = bs (B0++flat Hr.tx (hl.take (k + 1)))):=Lib.hid (by
    rw [← hX _ rfl,← hFF]
    apply ByteArray.ext
    apply Array.ext'
    simp)
   have qc:=Lib.hid q1.pure
   clear q1 hcW hmem ha hT0 hFF z2
   go_upto_region 7 with (fail)
   refine wp_region_own (by kernel_rfl) (by kernel_rfl) ?_
   repeat (go_big_quiet_step (first | (with_reducible exact qc.out _)))
   refine wpQuiet_nil ?_
   rintro _ ⟨y2,rfl⟩
   go_wp2
   go_roundw
   case rel=>exact ⟨k + 1,hlt_k,congrArg (Value.int .i64) a_k.out,congrArg Value.string hX.out,_,rfl⟩
   case measure=>exact step_less k n hlt_k a_k.out
  ·obtain rfl:k = n:=by omega
   rw [all_taken hn_n'.out]
   have l0:=f0.out k
   rw [all_taken hn_n'.out] at l0
   have e1:=Lib.hid e1.out
   obtain ⟨T0,hT0⟩:∃ T,bs (B0++flat Hr.tx hl) = T:=⟨_,rfl⟩
   rw [hT0] at l0 e1 ⊢
   clear hlt_k hk hF' r_n' f0 hT0
   go_upto_region 10 with (first | (go_at_call 29;with_reducible refine (Mc.out _).mono ?_;rintro r w' ⟨rfl,x,rfl⟩))
   rw [e1.out]
   clear e1 l0 Mc
   go_loopw [3,5] (fun sv iv wr=>∃ j:Nat,j ≤ o ∧ iv = .int .i64 (j:Int) ∧ sv = .string (bs (B1++flat (Sa.ln 1) (sl.take j))) ∧ ∃ y,wr = plus W y) (fun _ iv _=>o - (intOf iv).toNat)
   case atStart=>exact ⟨0,Nat.zero_le _,rfl,congrArg Value.string hX1'.out,_,rfl⟩
   case round =>
    obtain ⟨j,hj,rfl,rfl,y,rfl⟩:=hrel
    by_cases hlt_j:j < o
    ·obtain ⟨a,ha⟩:∃ s,sl[j]? = some s:=⟨sl[j]'(by rw [hn_o'.out];exact hlt_j),List.getElem?_eq_getElem _⟩
     obtain ⟨pa,rfl,hcV⟩:=r_o'.out j a ha
     have hmem:=List.mem_of_getElem? ha
     have a_j:=Lib.hid (wr_succ j o hlt_j ln_o'.out)
     have l0:=f1.out j
     have gl:=g1.out j
     obtain ⟨⟨q1,z1,z2⟩,r_u,ln_u,z4,z5⟩:=hS'.out a hmem
     have hX:∀ X,X = bs (Sa.ln 1 a) → bs (B1++flat (Sa.ln 1) (sl.take j))++X = bs (B1++flat (Sa.ln 1) (sl.take (j + 1))):=fun X e=>flat_more ha e
     rw [show Sa.ln 1 a = padB 1++([115,116,97,116,101,32]++(a.name.data.toList++([32,123,10]++(flat (takeL 2) a.takes.l++(a.tr 2++(padB 1++[125,10])))))) from rfl] at hX
     generalize a.tr 2 = F at q1 z2 hX
     obtain ⟨nm,⟨xp,xc,xl⟩,to2,⟨kp,kc,kl⟩,⟨vp,vc,vl⟩⟩:=a
     simp only [Sa.cells,Sl.v] at hcV q1 hX z1 z4 z5 r_u ln_u
     obtain ⟨u,hn_u⟩:∃ u,xl.length = u:=⟨_,rfl⟩
     rw [hn_u] at hcV q1 ln_u
     obtain ⟨F',hFF⟩:∃ X,bs F = X:=⟨_,rfl⟩
     rw [hFF] at q1
     have z3:F'.size ≤ 2000000000:=by rw [← hFF];exact z2
     have hn_u':=Lib.hid hn_u
     have ln_u':=Lib.hid ln_u
     have r_u':=Lib.hid r_u
     have z5':=Lib.hid z5
     have q1':=Lib.hid q1
     obtain ⟨B5,hB5⟩:∃ B,B1++flat (Sa.ln 1) (sl.take j)++[32,32,115,116,97,116,101,32]++nm.data.toList++[32,123,10] = B:=⟨_,rfl⟩
     have zB5:B5.length ≤ 10002000000:=by rw [← hB5];simp only [List.length_append,List.length_cons,List.length_nil,str_len] at gl ⊢;omega
     obtain ⟨X5,hX5⟩:∃ X,bs (B5++flat (takeL 2) (xl.take 0)) = X:=⟨_,rfl⟩
     have h5:Hid (bs (B1++flat (Sa.ln 1) (sl.take j))++(⟨#[32,32,115,116,97,116,101,32]⟩:ByteArray)++nm++(⟨#[32,123,10]⟩:ByteArray) = X5):=Lib.hid (by
      rw [← hX5,flat_none,List.append_nil,← hB5]
      apply ByteArray.ext
      simp)
     have h6:Hid (bs (B5++flat (takeL 2) xl)++F'++(⟨#[32,32,125,10]⟩:ByteArray) = bs (B1++flat (Sa.ln 1) (sl.take (j + 1)))):=Lib.hid (by
      rw [← hX _ rfl,← hB5,← hFF]
      apply ByteArray.ext
      simp [padB])
     have f5:Hid (∀ i,(bs (B5++flat (takeL 2) (xl.take i))).size ≤ 140737488355328):=Lib.hid (fun i=>flatT_size _ xl B5 i 2000000000 10002000000 z4 zB5 (by omega))
     have hX5':=Lib.hid hX5.symm
     obtain ⟨T0,hT0⟩:∃ T,bs (B1++flat (Sa.ln 1) (sl.take j)) = T:=⟨_,rfl⟩
     rw [hT0] at l0 h5 ⊢
     clear hT0 hX hFF hB5 zB5 hX5 hn_u ln_u r_u z5 q1 z2 z4 gl hmem ha
     have hcU:=(cup.out hcV).plus y
     clear hcV
     have upU:Hid (∀ {f:FuncId} {args:Array Value} {v:Value},Kp Tryz.prog V f args v → Kp Tryz.prog (plus W y) f args v):=Lib.hid (fun h=>(up.out h).up y)
     have cupU:Hid (∀ {a:Addr} {cs:List Value},CellsAt V a cs → CellsAt (plus W y) a cs):=Lib.hid (fun h=>(cup.out h).plus y)
     have cU:=c2 y
     obtain ⟨U,hU⟩:∃ U,plus W y = U:=⟨_,rfl⟩
     have back0:=Lib.hid (again_plus hU)
     simp only [hU] at hcU cU upU cupU ⊢
     clear hU
     have d0:=hcU.c0 _ rfl
     have d1:=hcU.cs 0 _ rfl
     have d2:=hcU.cs 1 _ rfl
     have d3:=hcU.cs 2 _ rfl
     have d4:=hcU.cs 3 _ rfl
     go_upto_region 13 with (fail)
     obtain ⟨W2,yy2,hW2,⟨z2',hz3⟩,cb⟩:=box1n U _ 53
     rw [hW2]
     have b0:=cb 0 _ rfl
     have b1:=cb 1 _ rfl
     have b2:=cb 2 _ rfl
     have b3:=cb 3 _ rfl
     have b4:=cb 4 _ rfl
     have upX:Hid (∀ {f:FuncId} {args:Array Value} {v:Value},Kp Tryz.prog V f args v → PureIn Tryz.prog W2 f args v):=Lib.hid (fun h=>kp_at hz3 (upU.out h))
     have cupX:Hid (∀ {a:Addr} {cs:List Value},CellsAt V a cs → CellsAt W2 a cs):=Lib.hid (fun h=>cellsat_at hz3 (cupU.out h))
     have back:Hid (∀ x,∃ x',plus W2 x = plus W x'):=Lib.hid (fun x=>by rw [hz3,plus_plus];exact back0.out _)
     clear hW2 hz3 cb upU cupU back0 cU hcU d0 d1 d2 d3 d4
     have qc:=Lib.hid (upX.out q1'.out)
     go_upto_region 15 with (fail)
     rw [h5.out]
     clear h5 l0 q1'
     go_loopw [3,7] (fun sv iv wr=>∃ i:Nat,i ≤ u ∧ iv = .int .i64 (i:Int) ∧ sv = .string (bs (B5++flat (takeL 2) (xl.take i))) ∧ ∃ y,wr = plus W2 y) (fun _ iv _=>u - (intOf iv).toNat)
     case atStart=>exact ⟨0,Nat.zero_le _,rfl,congrArg Value.string hX5'.out,_,rfl⟩
     case round =>
      obtain ⟨i,hi,rfl,rfl,y,rfl⟩:=hrel
      by_cases hlt_i:i < u
      ·obtain ⟨a,ha⟩:∃ s,xl[i]? = some s:=⟨xl[i]'(by rw [hn_u'.out];exact hlt_i),List.getElem?_eq_getElem _⟩
       obtain ⟨pa,rfl,hcV⟩:=r_u'.out i a ha
       have hmem:=List.mem_of_getElem? ha
       have a_i:=Lib.hid (wr_succ i u hlt_i ln_u'.out)
       have l1:=f5.out i
       have z6:=z5'.out a hmem
       have hcX:=cupX.out hcV
       clear hcV
       have hX:Hid (bs (B5++flat (takeL 2) (xl.take i))++(⟨#[32,32,32,32,101,120,116,114,97,99,116,40]⟩:ByteArray)++a++(⟨#[41,59,10]⟩:ByteArray) = bs (B5++flat (takeL 2) (xl.take (i + 1)))):=Lib.hid (by
        rw [← flat_more ha rfl]
        unfold takeL
        apply ByteArray.ext
        simp [padB])
       have d0:=fun y=>(hcX.plus y).c0 _ rfl
       simp only [Nat.mul_one] at d0
       obtain ⟨T1,hT1⟩:∃ T,bs (B5++flat (takeL 2) (xl.take i)) = T:=⟨_,rfl⟩
       rw [hT1] at l1 hX ⊢
       clear hT1 hcX hmem ha
       go_wp2
       go_roundw
       case rel=>exact ⟨i + 1,hlt_i,congrArg (Value.int .i64) a_i.out,congrArg Value.string hX.out,_,rfl⟩
       case measure=>exact step_less i u hlt_i a_i.out
      ·obtain rfl:i = u:=by omega
       rw [all_taken hn_u'.out]
       have l1:=f5.out i
       rw [all_taken hn_u'.out] at l1
       have h6:=Lib.hid h6.out
       obtain ⟨T1,hT1⟩:∃ T,bs (B5++flat (takeL 2) xl) = T:=⟨_,rfl⟩
       rw [hT1] at l1 h6 ⊢
       clear hlt_i hi z5' r_u' f5 hT1
       go_wp2_with (first | (go_at_call 30;with_reducible refine (qc.out _).mono ?_;rintro r w' ⟨rfl,x,rfl⟩))
       go_roundw
       case rel=>exact ⟨j + 1,hlt_j,congrArg (Value.int .i64) a_j.out,congrArg Value.string h6.out,back.out _⟩
       case measure=>exact step_less j o hlt_j a_j.out
    ·obtain rfl:j = o:=by omega
     rw [all_taken hn_o'.out]
     have l0:=f1.out j
     rw [all_taken hn_o'.out] at l0
     have e2:=Lib.hid e2.out
     obtain ⟨T0,hT0⟩:∃ T,bs (B1++flat (Sa.ln 1) sl) = T:=⟨_,rfl⟩
     rw [hT0] at l0 e2 ⊢
     clear hlt_j hj hS' r_o' f1 g1 hT0
     go_upto_region 21 with (fail)
     rw [e2.out]
     clear e2 l0
     go_loopw [3,8] (fun sv iv wr=>∃ i:Nat,i ≤ q ∧ iv = .int .i64 (i:Int) ∧ sv = .string (bs (B2++flat (Ac.tx) (al.take i))) ∧ ∃ y,wr = plus W y) (fun _ iv _=>q - (intOf iv).toNat)
     case atStart=>exact ⟨0,Nat.zero_le _,rfl,congrArg Value.string hX2'.out,_,rfl⟩
     case round =>
      obtain ⟨i,hi,rfl,rfl,y,rfl⟩:=hrel
      by_cases hlt_i:i < q
      ·obtain ⟨a,ha⟩:∃ s,al[i]? = some s:=⟨al[i]'(by rw [hn_q'.out];exact hlt_i),List.getElem?_eq_getElem _⟩
       obtain ⟨pa,rfl,hcV⟩:=r_q'.out i a ha
       have hmem:=List.mem_of_getElem? ha
       have a_i:=Lib.hid (wr_succ i q hlt_i ln_q'.out)
       have l0:=f2.out i
       have gl:=g2.out i
       obtain ⟨⟨q1,z1,z2⟩,r_u,ln_u,z4,z5⟩:=hA'.out a hmem
       have hX:∀ X,X = bs (Ac.tx a) → bs (B2++flat Ac.tx (al.take i))++X = bs (B2++flat Ac.tx (al.take (i + 1))):=fun X e=>flat_more ha e
       rw [show Ac.tx a = [97,99,116,105,111,110,32]++(a.name.data.toList++([40]++(rowB Fd.tx a.params.l++([41]++([32,123,10]++(flat (St.ln 1) a.body.l++[125,10])))))) from rfl] at hX
       obtain ⟨nm,⟨xp,xc,xl⟩,⟨vp,vc,vl⟩⟩:=a
       simp only [Ac.cells,Sl.v] at hcV q1 hX z1 z2 z4 z5 r_u ln_u
       generalize flat (St.ln 1) vl = F at q1 z2 hX
       obtain ⟨u,hn_u⟩:∃ u,xl.length = u:=⟨_,rfl⟩
       rw [hn_u] at hcV ln_u
       obtain ⟨F',hFF⟩:∃ X,bs F = X:=⟨_,rfl⟩
       rw [hFF] at q1
       have z3:F'.size ≤ 2000000000:=by rw [← hFF];exact z2
       have hn_u':=Lib.hid hn_u
       have ln_u':=Lib.hid ln_u
       have r_u':=Lib.hid r_u
       have z5':=Lib.hid z5
       have q1':=Lib.hid q1
       obtain ⟨B5,hB5⟩:∃ B,B2++flat Ac.tx (al.take i)++[97,99,116,105,111,110,32]++nm.data.toList++[40] = B:=⟨_,rfl⟩
       have zB5:B5.length ≤ 10002000000:=by rw [← hB5];simp only [List.length_append,List.length_cons,List.length_nil,str_len] at gl ⊢;omega
       obtain ⟨X5,hX5⟩:∃ X,bs (B5++rowB Fd.tx (xl.take 0)) = X:=⟨_,rfl⟩
       have h5:Hid (bs (B2++flat Ac.tx (al.take i))++(⟨#[97,99,116,105,111,110,32]⟩:ByteArray)++nm++(⟨#[40]⟩:ByteArray) = X5):=Lib.hid (by
        rw [← hX5,row_none,List.append_nil,← hB5]
        apply ByteArray.ext
        simp)
       have h6:Hid (bs (B5++rowB Fd.tx xl)++(⟨#[41,32,123,10]⟩:ByteArray)++F'++(⟨#[125,10]⟩:ByteArray) = bs (B2++flat Ac.tx (al.take (i + 1)))):=Lib.hid (by
        rw [← hX _ rfl,← hB5,← hFF]
        apply ByteArray.ext
        simp)
       have f5:Hid (∀ m,(bs (B5++rowB Fd.tx (xl.take m))).size ≤ 140737488355328):=Lib.hid (fun m=>rowT_size _ xl B5 m 2000000000 10002000000 z4 zB5 (by omega))
       have hX5':=Lib.hid hX5.symm
       obtain ⟨T0,hT0⟩:∃ T,bs (B2++flat Ac.tx (al.take i)) = T:=⟨_,rfl⟩
       rw [hT0] at l0 h5 ⊢
       clear hT0 hX hFF hB5 zB5 hX5 hn_u ln_u r_u z5 q1 z2 z4 gl hmem ha
       have hcU:=(cup.out hcV).plus y
       clear hcV
       have upU:Hid (∀ {f:FuncId} {args:Array Value} {v:Value},Kp Tryz.prog V f args v → Kp Tryz.prog (plus W y) f args v):=Lib.hid (fun h=>(up.out h).up y)
       have cupU:Hid (∀ {a:Addr} {cs:List Value},CellsAt V a cs → CellsAt (plus W y) a cs):=Lib.hid (fun h=>(cup.out h).plus y)
       have cU:=c3 y
       obtain ⟨U,hU⟩:∃ U,plus W y = U:=⟨_,rfl⟩
       have back0:=Lib.hid (again_plus hU)
       simp only [hU] at hcU cU upU cupU ⊢
       clear hU
       have d0:=hcU.c0 _ rfl
       have d1:=hcU.cs 0 _ rfl
       have d2:=hcU.cs 1 _ rfl
       go_upto_region 24 with (fail)
       obtain ⟨W2,yy2,hW2,⟨z2',hz3⟩,cb⟩:=box1n U _ 59
       rw [hW2]
       have b0:=cb 0 _ rfl
       have b1:=cb 1 _ rfl
       have b2:=cb 2 _ rfl
       have upX:Hid (∀ {f:FuncId} {args:Array Value} {v:Value},Kp Tryz.prog V f args v → PureIn Tryz.prog W2 f args v):=Lib.hid (fun h=>kp_at hz3 (upU.out h))
       have cupX:Hid (∀ {a:Addr} {cs:List Value},CellsAt V a cs → CellsAt W2 a cs):=Lib.hid (fun h=>cellsat_at hz3 (cupU.out h))
       have back:Hid (∀ x,∃ x',plus W2 x = plus W x'):=Lib.hid (fun x=>by rw [hz3,plus_plus];exact back0.out _)
       clear hW2 hz3 cb upU cupU back0 cU hcU d0 d1 d2
       have qc:=Lib.hid (upX.out q1'.out)
       go_upto_region 26 with (fail)
       rw [h5.out]
       clear h5 l0 q1'
       go_loopw [3,10] (fun sv iv wr=>∃ m:Nat,m ≤ u ∧ iv = .int .i64 (m:Int) ∧ sv = .string (bs (B5++rowB (Fd.tx) (xl.take m))) ∧ ∃ y,wr = plus W2 y) (fun _ iv _=>u - (intOf iv).toNat)
       case atStart=>exact ⟨0,Nat.zero_le _,rfl,congrArg Value.string hX5'.out,_,rfl⟩
       case round =>
        obtain ⟨m,hm,rfl,rfl,y,rfl⟩:=hrel
        by_cases hlt_m:m < u
        ·obtain ⟨a,ha⟩:∃ s,xl[m]? = some s:=⟨xl[m]'(by rw [hn_u'.out];exact hlt_m),List.getElem?_eq_getElem _⟩
         obtain ⟨pa,rfl,hcV⟩:=r_u'.out m a ha
         have hmem:=List.mem_of_getElem? ha
         have a_m:=Lib.hid (wr_succ m u hlt_m ln_u'.out)
         have l1:=f5.out m
         obtain ⟨z6,wf⟩:=z5'.out a hmem
         have hcX:=cupX.out hcV
         clear hcV
         have s0:=fun h=>row_more0 (f:=Fd.tx) (l:=xl) (B:=B5) (x:=a) h rfl
         have s1:=fun hk=>row_morek (f:=Fd.tx) (l:=xl) (B:=B5) (k:=m) hk ha rfl
         rw [show Fd.tx a = [98,105,116,60]++(Lib.itoa a.w++([62,32]++a.name.data.toList)) from rfl] at s0 s1
         obtain ⟨an,aw⟩:=a
         simp only [Fd.cells] at hcX z6 wf s0 s1
         have hI:=itoa_le wf
         have hD:=(Kp.all (w:=W2) (ref_dec aw (bounds_i64 wf).1 (bounds_i64 wf).2)).pure
         have e1:itoaB aw = bs (Lib.itoa aw):=rfl
         rw [e1] at hD
         generalize Lib.itoa aw = I at hD hI s0 s1
         obtain ⟨I',hII⟩:∃ X,bs I = X:=⟨_,rfl⟩
         rw [hII] at hD
         have l2:I'.size ≤ 21:=by rw [← hII];exact hI
         have dc:=Lib.hid hD
         have hc':=Lib.hid hcX
         have s0':=Lib.hid s0
         have s1':=Lib.hid s1
         have hII':=Lib.hid hII
         clear hD hcX e1 hI hmem wf hII s0 s1
         by_cases h0:m = 0
         ·subst h0
          have hc0:=hc'.out
          rw [add_zero_mul] at hc0
          have d0:=fun y=>(hc0.plus y).c0 _ rfl
          have d1:=fun y=>(hc0.plus y).cs 0 _ rfl
          have hX:Hid (bs (B5++rowB Fd.tx (xl.take 0))++(⟨#[98,105,116,60]⟩:ByteArray)++I'++(⟨#[62,32]⟩:ByteArray)++an = bs (B5++rowB Fd.tx (xl.take (0 + 1)))):=Lib.hid (by
           rw [← s0'.out ha,← hII'.out]
           apply ByteArray.ext
           simp)
          obtain ⟨T1,hT1⟩:∃ T,bs (B5++rowB Fd.tx (xl.take 0)) = T:=⟨_,rfl⟩
          rw [hT1] at l1 hX ⊢
          clear hT1 hc0 hc' ha hII' s0' s1'
          go_upto_region 30 with (fail)
          refine wp_region_own (by kernel_rfl) (by kernel_rfl) ?_
          repeat (go_big_quiet_step (first | (with_reducible exact dc.out _)))
          refine wpQuiet_nil ?_
          rintro _ ⟨y2,rfl⟩
          go_wp2
          go_roundw
          case rel=>exact ⟨0 + 1,hlt_m,rfl,congrArg Value.string hX.out,_,rfl⟩
          case measure=>first | exact step_less 0 u hlt_m a_m.out | (show u - 1 < u - 0;omega)
         ·have h1:0 < m:=Nat.pos_of_ne_zero h0
          have hc0:=hc'.out
          have d0:=fun y=>(hc0.plus y).c0 _ rfl
          have d1:=fun y=>(hc0.plus y).cs 0 _ rfl
          have hX:Hid (bs (B5++rowB Fd.tx (xl.take m))++(⟨#[44,32]⟩:ByteArray)++(⟨#[98,105,116,60]⟩:ByteArray)++I'++(⟨#[62,32]⟩:ByteArray)++an = bs (B5++rowB Fd.tx (xl.take (m + 1)))):=Lib.hid (by
           rw [← s1'.out h1,← hII'.out]
           apply ByteArray.ext
           simp)
          obtain ⟨T1,hT1⟩:∃ T,bs (B5++rowB Fd.tx (xl.take m)) = T:=⟨_,rfl⟩
          rw [hT1] at l1 hX ⊢
          clear hT1 hc0 hc' ha hII' s0' s1' h0
          go_upto_region 30 with (fail)
          refine wp_region_own (by kernel_rfl) (by kernel_rfl) ?_
          repeat (go_big_quiet_step (first | (with_reducible exact dc.out _)))
          refine wpQuiet_nil ?_
          rintro _ ⟨y2,rfl⟩
          go_wp2
          go_roundw
          case rel=>exact ⟨m + 1,hlt_m,congrArg (Value.int .i64) a_m.out,congrArg Value.string hX.out,_,rfl⟩
          case measure=>exact step_less m u hlt_m a_m.out
        ·obtain rfl:m = u:=by omega
         rw [all_taken hn_u'.out]
         have l1:=f5.out m
         rw [all_taken hn_u'.out] at l1
         have h6:=Lib.hid h6.out
         obtain ⟨T1,hT1⟩:∃ T,bs (B5++rowB Fd.tx xl) = T:=⟨_,rfl⟩
         rw [hT1] at l1 h6 ⊢
         clear hlt_m hm z5' r_u' f5 hT1
         go_wp2_with (first | (go_at_call 31;with_reducible refine (qc.out _).mono ?_;rintro r w' ⟨rfl,x,rfl⟩))
         go_roundw
         case rel=>exact ⟨i + 1,hlt_i,congrArg (Value.int .i64) a_i.out,congrArg Value.string h6.out,back.out _⟩
         case measure=>exact step_less i q hlt_i a_i.out
      ·obtain rfl:i = q:=by omega
       rw [all_taken hn_q'.out]
       have l0:=f2.out i
       rw [all_taken hn_q'.out] at l0
       have e3:=Lib.hid e3.out
       obtain ⟨T0,hT0⟩:∃ T,bs (B2++flat Ac.tx al) = T:=⟨_,rfl⟩
       rw [hT0] at l0 e3 ⊢
       clear hlt_i hi hA' r_q' f2 g2 hT0
       go_upto_region 33 with (fail)
       go_loopw [3,11] (fun sv iv wr=>∃ h:Nat,h ≤ r ∧ iv = .int .i64 (h:Int) ∧ sv = .string (bs (B3++flat (Ta.tx) (tl.take h))) ∧ ∃ y,wr = plus W y) (fun _ iv _=>r - (intOf iv).toNat)
       case atStart=>exact ⟨0,Nat.zero_le _,rfl,congrArg Value.string e3.out,_,rfl⟩
       case round =>
        obtain ⟨h,hh,rfl,rfl,y,rfl⟩:=hrel
        by_cases hlt_h:h < r
        ·obtain ⟨a,ha⟩:∃ s,tl[h]? = some s:=⟨tl[h]'(by rw [hn_r'.out];exact hlt_h),List.getElem?_eq_getElem _⟩
         obtain ⟨pa,rfl,hcV⟩:=r_r'.out h a ha
         have hmem:=List.mem_of_getElem? ha
         have a_h:=Lib.hid (wr_succ h r hlt_h ln_r'.out)
         have l0:=f3.out h
         obtain ⟨q1,z1⟩:=hB'.out a hmem
         have q1:=up.out q1
         have hcW:=cup.out hcV
         clear hcV
         have hX:=flat_more (f:=Ta.tx) (l:=tl) (B:=B3) (X:=bs (Ta.tx a)) ha rfl
         generalize a.tx = F at q1 z1 hX
         obtain ⟨nm,⟨kp,kc,kl⟩,⟨xp,xc,xl⟩,⟨dn,⟨gp,gc,gl⟩⟩⟩:=a
         simp only [Ta.cells,Sl.v] at hcW q1
         have d0:=fun y=>(hcW.plus y).c0 _ rfl
         have d1:=fun y=>(hcW.plus y).cs 0 _ rfl
         have d2:=fun y=>(hcW.plus y).cs 1 _ rfl
         have d3:=fun y=>(hcW.plus y).cs 2 _ rfl
         have d4:=fun y=>(hcW.plus y).cs 3 _ rfl
         obtain ⟨F',hFF⟩:∃ X,bs F = X:=⟨_,rfl⟩
         rw [hFF] at q1 hX
         have z3:F'.size ≤ 2000000000:=by rw [← hFF];exact z1
         have qc:=Lib.hid q1.pure
         obtain ⟨T0,hT0⟩:∃ T,bs (B3++flat Ta.tx (tl.take h)) = T:=⟨_,rfl⟩
         rw [hT0] at l0 hX ⊢
         have hY:=Lib.hid hX
         clear hX q1 hcW hmem ha hT0 hFF z1
         go_wp2_with (first | (go_at_call 32;with_reducible refine (qc.out _).mono ?_;rintro r w' ⟨rfl,x,rfl⟩))
         go_roundw
         case rel=>exact ⟨h + 1,hlt_h,congrArg (Value.int .i64) a_h.out,congrArg Value.string hY.out,_,rfl⟩
         case measure=>exact step_less h r hlt_h a_h.out
        ·obtain rfl:h = r:=by omega
         rw [all_taken hn_r'.out]
         have l0:=f3.out h
         rw [all_taken hn_r'.out] at l0
         have e4:=Lib.hid e4.out
         obtain ⟨T0,hT0⟩:∃ T,bs (B3++flat Ta.tx tl) = T:=⟨_,rfl⟩
         rw [hT0] at l0 e4 ⊢
         clear hlt_h hh hB' r_r' f3 hT0
         go_upto_region 38 with (first | (go_at_call 31;with_reducible refine (Cc.out _).mono ?_;rintro r w' ⟨rfl,x,rfl⟩))
         rw [e4.out]
         clear e4 l0 Cc
         go_loopw [3,12] (fun sv iv wr=>∃ g:Nat,g ≤ t ∧ iv = .int .i64 (g:Int) ∧ sv = .string (bs (B4++flat (emitL 1) (el.take g))) ∧ ∃ y,wr = plus W y) (fun _ iv _=>t - (intOf iv).toNat)
         case atStart=>exact ⟨0,Nat.zero_le _,rfl,congrArg Value.string hX4'.out,_,rfl⟩
         case round =>
          obtain ⟨g,hg,rfl,rfl,y,rfl⟩:=hrel
          by_cases hlt_g:g < t
          ·obtain ⟨a,ha⟩:∃ s,el[g]? = some s:=⟨el[g]'(by rw [hn_t'.out];exact hlt_g),List.getElem?_eq_getElem _⟩
           obtain ⟨pa,rfl,hcV⟩:=r_t'.out g a ha
           have hmem:=List.mem_of_getElem? ha
           have a_g:=Lib.hid (wr_succ g t hlt_g ln_t'.out)
           have l0:=f4.out g
           have z1:=hE'.out a hmem
           have hcW:=cup.out hcV
           clear hcV
           have hX:Hid (bs (B4++flat (emitL 1) (el.take g))++(⟨#[32,32,101,109,105,116,40]⟩:ByteArray)++a++(⟨#[41,59,10]⟩:ByteArray) = bs (B4++flat (emitL 1) (el.take (g + 1)))):=Lib.hid (by
            rw [← flat_more ha rfl]
            unfold emitL
            apply ByteArray.ext
            simp [padB])
           have d0:=fun y=>(hcW.plus y).c0 _ rfl
           simp only [Nat.mul_one] at d0
           obtain ⟨T0,hT0⟩:∃ T,bs (B4++flat (emitL 1) (el.take g)) = T:=⟨_,rfl⟩
           rw [hT0] at l0 hX ⊢
           clear hT0 hcW hmem ha
           go_wp2
           go_roundw
           case rel=>exact ⟨g + 1,hlt_g,congrArg (Value.int .i64) a_g.out,congrArg Value.string hX.out,_,rfl⟩
           case measure=>exact step_less g t hlt_g a_g.out
          ·obtain rfl:g = t:=by omega
           rw [all_taken hn_t'.out]
           have l0:=f4.out g
           rw [all_taken hn_t'.out] at l0
           have e5:=Lib.hid e5.out
           obtain ⟨T0,hT0⟩:∃ T,bs (B4++flat (emitL 1) el) = T:=⟨_,rfl⟩
           rw [hT0] at l0 e5 ⊢
           clear hlt_g hg hE' r_t' f4 hT0
           go_wp2
           go_ret
           exact ⟨congrArg (fun q=>Ending.returned (Value.string q)) e5.out,by rw [hz2.out,plus_plus];exact ⟨_,rfl⟩⟩
end Go.Proofs.YtbelaghcmgefaaaGreatDoor
