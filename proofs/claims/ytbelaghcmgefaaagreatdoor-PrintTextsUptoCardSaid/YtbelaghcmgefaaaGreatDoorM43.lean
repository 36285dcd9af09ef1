/-
  WHAT IS PROVED HERE: a part of the proof (made narrower and merged by program; the parts: Ye Yf).
-/
import Derived.Test.YtbelaghcmgefaaaGreatDoorRows
import Derived.WalkKit
import Derived.Lib.Hide
import Derived.WalkSpells
import Derived.WalkLawsBesides
import Derived.Test.YtbelaghcmgefaaaGreatDoorM42
import Derived.Test.YtbelaghcmgefaaaGreatDoorM36
namespace Go.Proofs.YtbelaghcmgefaaaGreatDoor
open Go.RowKit
theorem row_none {α:Type} (f:α → List UInt8) (l:List α):rowB f (l.take 0) = []:=by simp [rowB]
theorem flat_none {α:Type} (f:α → List UInt8) (l:List α):flat f (l.take 0) = []:=by simp [flat]
theorem row_bs0 {α:Type} (f:α → List UInt8) (l:List α) (B:List UInt8) (x:α) (h:l[0]? = some x):bs (B++rowB f (l.take 0))++bs (f x) = bs (B++rowB f (l.take (0 + 1))):=by
 rw [rowB_first f l x h,row_none,bs_app,List.append_nil]
theorem row_bsk {α:Type} (f:α → List UInt8) (l:List α) (B:List UInt8) (k:Nat) (hk:0 < k) (x:α) (h:l[k]? = some x):bs (B++rowB f (l.take k))++(⟨#[44,32]⟩:ByteArray)++bs (f x) = bs (B++rowB f (l.take (k + 1))):=by
 rw [rowB_take f l k hk x h]
 show bs (B++rowB f (l.take k))++bs [44,32]++bs (f x) = _
 rw [bs_app,bs_app,List.append_assoc,List.append_assoc]
theorem rowT_size {α:Type} (f:α → List UInt8) (l:List α) (B:List UInt8) (k n m:Nat) (h:(rowB f l).length ≤ n) (hB:B.length ≤ m) (hm:n + m ≤ 140737488355328):(bs (B++rowB f (l.take k))).size ≤ 140737488355328:=by
 have:=rowB_take_le f l k
 show (B++rowB f (l.take k)).length ≤ _
 rw [List.length_append]
 omega
theorem flatT_size {α:Type} (f:α → List UInt8) (l:List α) (B:List UInt8) (k n m:Nat) (h:(flat f l).length ≤ n) (hB:B.length ≤ m) (hm:n + m ≤ 140737488355328):(bs (B++flat f (l.take k))).size ≤ 140737488355328:=by
 have:=flat_take_le f l k
 show (B++flat f (l.take k)).length ≤ _
 rw [List.length_append]
 omega
theorem set3 (T:ByteArray) (v m:List UInt8):T++bs (v++([32,38,38,38,32]++m)) = T++bs v++(⟨#[32,38,38,38,32]⟩:ByteArray)++bs m:=by
 rw [← bs_app,← bs_app,ByteArray.append_assoc,ByteArray.append_assoc]
theorem add_zero_mul (a:Addr) (C:Nat):a.add (0 * C) = a:=by cases a;simp [Addr.add]
theorem all_taken {α:Type} {l:List α} {k:Nat} (h:l.length = k):l.take k = l:=List.take_of_length_le (by omega)
/-- The set's numbers are written as they are. -/
theorem rlit_t (hT:∀ (n:Nat),n < B128 → Pure Tryz.prog 19 #[nv n] (.string (numS n))) (t:Lt) (w:World) (h:t.Ok) (hb:ltB t = true):Kp Tryz.prog w 8 #[.agg #[.int .i64 t.w,.int .u64 t.h,.int .u64 t.l]] (.string (bs t.tx)) :=
 (rlit5_of t w h (Kp.all (by rw [Lt.nv_eq h];exact hT t.n (Lt.n_lt h)))).eqv (congrArg Value.string (lit_tx_or t hb))
theorem rpad2 (w:World):Kp Tryz.prog w 83 #[.int .i64 2] (.string (bs (padB 2))):=rpad 2 (by omega) w
theorem rpad3 (w:World):Kp Tryz.prog w 83 #[.int .i64 3] (.string (bs (padB 3))):=rpad 3 (by omega) w
set_option maxRecDepth 100000 in
set_option maxHeartbeats 16000000 in
theorem rcases_to (nm dst:ByteArray) (tp kp cp:Option Addr) (tn tc kn kc cn cc:Nat) (w:World) (ht:dst.data.toList ≠ []) (hz:dst.size ≤ 1048576):Kp Tryz.prog w 30 #[.agg #[.string nm,.slice tp tn tc,.string dst,.slice kp kn kc,.slice cp cn cc]] (.string (bs (padB 2++([116,114,97,110,115,105,116,105,111,110,32]++(dst.data.toList++[59,10]))))):=by
 intro y0
 have hp:=(rpad2 w).up y0
 obtain ⟨V,hV⟩:∃ V,plus w y0 = V:=⟨_,rfl⟩
 rw [hV] at hp ⊢
 clear hV
 have hn1:dst.toList.isEmpty = false:=by rw [Lib.toList_data];simpa using ht
 obtain ⟨P,hP⟩:∃ P,bs (padB 2) = P:=⟨_,rfl⟩
 have hpl:P.size ≤ 100:=by rw [← hP];show (padB 2).length ≤ 100;rw [padB_length];omega
 rw [hP] at hp
 have hX:Hid (P++(⟨#[116,114,97,110,115,105,116,105,111,110,32]⟩:ByteArray)++dst++(⟨#[59,10]⟩:ByteArray) = bs (padB 2++([116,114,97,110,115,105,116,105,111,110,32]++(dst.data.toList++[59,10])))):=Lib.hid (by
  rw [← hP]
  apply ByteArray.ext
  simp)
 have hp':=Lib.hid hp
 clear hp hP ht
 go_enter Tryz.func30,Tryz.ntmps30
 go_upto_region 1 with (fail)
 obtain ⟨W,yy,hW,⟨z,hz'⟩,ca⟩:=box1n V _ 53
 rw [hW]
 have c2:=ca 2 _ rfl
 have qc:=Lib.hid (kp_at hz' hp'.out)
 have hz2:=Lib.hid hz'
 clear hW hz' ca hp'
 go_upto_region 2 with (fail)
 refine wp_region_own (by kernel_rfl) (by kernel_rfl) ?_
 repeat (go_big_quiet_step (first | (with_reducible exact qc.out _)))
 refine wpQuiet_nil ?_
 rintro _ ⟨y2,rfl⟩
 go_wp2
 go_ret
 exact ⟨congrArg (fun q=>Ending.returned (Value.string q)) hX.out,by rw [hz2.out,plus_plus];exact ⟨_,rfl⟩⟩
set_option maxRecDepth 100000 in
set_option maxHeartbeats 16000000 in
theorem rcases_sel (hT:∀ (n:Nat),n < B128 → Pure Tryz.prog 19 #[nv n] (.string (numS n))) (nm dst:ByteArray) (tp:Option Addr) (tn tc:Nat) (K:Sl Ex) (C:Sl Ca) (w:World) (ht:dst.data.toList = [])
  (hK:K.In w 9 Ex.cells (Ex.In w)) (hC:C.In w 3 Ca.cells (Ca.In w)) (zK:K.size Ex.wt ≤ 1048576) (zC:C.size Ca.sz ≤ 1048576) (bK:∀ x ∈ K.l,Ex.may 16 x = true) (m:Int) (bC:∀ c ∈ C.l,caB m c = true) :
  Kp Tryz.prog w 30 #[.agg #[.string nm,.slice tp tn tc,.string dst,K.v,C.v]] (.string (bs (padB 2++([116,114,97,110,115,105,116,105,111,110,32,115,101,108,101,99,116,40]++(rowB Ex.tx K.l++([41]++blkB Ca.ln 2 C.l)))))):=by
 intro y0
 have lK:=len_le Ex.wt (fun y=>by rw [Ex.wt_eq];omega) K (n:=1048576) zK
 have lC:=len_le Ca.sz (fun y=>by unfold Ca.sz;omega) C (n:=1048576) zC
 have tK:=rowB_len (f:=Ex.tx) (g:=Ex.wt) (C:=1000) K.l (fun y hy=>by
  have:=ex_len y (hK.kids y hy)
  omega)
 have tC:=flat_len (f:=Ca.ln 3) (g:=Ca.sz) (C:=1000) C.l (fun y hy=>ca_len (by omega) (hC.kids y hy))
 have hE:∀ x ∈ K.l,Kp Tryz.prog w 25 #[.agg x.cells.toArray] (.string (bs x.tx)) ∧ x.tx.length ≤ 140737488355328:=fun x hx=>by
  have h1:=ex_len x (hK.kids x hx)
  have h2:Ex.wt x ≤ 1048576:=Nat.le_trans (le_sum_of Ex.wt K.l x hx) zK
  exact ⟨(rt_ex hT x 16 w (bK x hx) (hK.kids x hx) h2).1,by omega⟩
 have hS:∀ c ∈ C.l,c.to.size ≤ 1048576 ∧ c.sets.l.length ≤ 1048576 ∧ (rowB Se.tx c.sets.l).length ≤ 1048576000:=fun c hc=>by
  have h1:Ca.sz c ≤ 1048576:=Nat.le_trans (le_sum_of Ca.sz C.l c hc) zC
  have h2:Ca.sz c = 1 + c.sets.size Se.sz + c.to.size:=rfl
  have h3:=len_le Se.sz (fun _=>Nat.le_refl _) c.sets (n:=1048576) (by omega)
  have h4:=rowB_len (f:=Se.tx) (g:=Se.sz) (C:=1000) c.sets.l (fun y hy=>se_len ((hC.kids c hc).sets.kids y hy))
  have h5:(c.sets.l.map Se.sz).sum = c.sets.size Se.sz:=rfl
  exact ⟨by omega,h3,by omega⟩
 have hC:=hC.plus (fun _ a=>a.plus y0) y0
 have rK:=hK.row.plus y0
 have hp2:=(rpad2 w).up y0
 have hp3:=(rpad3 w).up y0
 have hE:=fun x hx=>(⟨(hE x hx).1.up y0,(hE x hx).2⟩:_ ∧ _)
 obtain ⟨V,hV⟩:∃ V,plus w y0 = V:=⟨_,rfl⟩
 simp only [hV] at hp2 hp3 hE rK hC ⊢
 clear hV hK
 obtain ⟨kp,kc,kl⟩:=K
 obtain ⟨cp,cc,cl⟩:=C
 obtain ⟨_,_,rC,kC⟩:=hC
 simp only [Sl.v,Sl.size] at lK lC zK zC tK tC hE hS rK rC kC bK bC ⊢
 obtain ⟨n,hn⟩:∃ n,kl.length = n:=⟨_,rfl⟩
 obtain ⟨o,ho⟩:∃ o,cl.length = o:=⟨_,rfl⟩
 rw [hn] at lK ⊢
 rw [ho] at lC ⊢
 have hn1:dst.toList.isEmpty = true:=by rw [Lib.toList_data,ht];rfl
 obtain ⟨P,hP⟩:∃ P,bs (padB 2) = P:=⟨_,rfl⟩
 obtain ⟨Q,hQ⟩:∃ Q,bs (padB 3) = Q:=⟨_,rfl⟩
 have hpl:P.size ≤ 100:=by rw [← hP];show (padB 2).length ≤ 100;rw [padB_length];omega
 have hql:Q.size ≤ 100:=by rw [← hQ];show (padB 3).length ≤ 100;rw [padB_length];omega
 rw [hP] at hp2
 rw [hQ] at hp3
 obtain ⟨B0,hB0⟩:∃ B0,padB 2++[116,114,97,110,115,105,116,105,111,110,32,115,101,108,101,99,116,40] = B0:=⟨_,rfl⟩
 obtain ⟨B2,hB2⟩:∃ B2,B0++rowB Ex.tx kl++[41,32,123,10] = B2:=⟨_,rfl⟩
 have zB0:B0.length ≤ 1000:=by rw [← hB0,List.length_append,padB_length];decide
 have zB2:B2.length ≤ 2000000000:=by rw [← hB2,List.length_append,List.length_append];simp only [List.length_cons,List.length_nil];omega
 obtain ⟨X0,hX0⟩:∃ X,bs (B0++rowB Ex.tx (kl.take 0)) = X:=⟨_,rfl⟩
 have e0:Hid (P++(⟨#[116,114,97,110,115,105,116,105,111,110,32,115,101,108,101,99,116,40]⟩:ByteArray) = X0):=Lib.hid (by
  rw [← hX0,row_none,List.append_nil,← hB0,← hP]
  exact bs_app _ _)
 obtain ⟨X1,hX1⟩:∃ X,bs (B2++flat (Ca.ln 3) (cl.take 0)) = X:=⟨_,rfl⟩
 have e1:Hid (bs (B0++rowB Ex.tx kl)++(⟨#[41,32,123,10]⟩:ByteArray) = X1):=Lib.hid (by
  rw [← hX1,flat_none,List.append_nil,← hB2]
  exact bs_app _ _)
 have e2:Hid (bs (B2++flat (Ca.ln 3) cl)++P++(⟨#[125,10]⟩:ByteArray) = bs (padB 2++([116,114,97,110,115,105,116,105,111,110,32,115,101,108,101,99,116,40]++(rowB Ex.tx kl++([41]++blkB Ca.ln 2 cl))))):=Lib.hid (by
  rw [← hB2,← hB0,← hP]
  unfold blkB
  apply ByteArray.ext
  simp)
 have f1:Hid (∀ k,(bs (B0++rowB Ex.tx (kl.take k))).size ≤ 140737488355328):=Lib.hid (fun k=>rowT_size Ex.tx kl B0 k 1048576000 1000 (by omega) zB0 (by omega))
 have f2:Hid (∀ k,(bs (B2++flat (Ca.ln 3) (cl.take k))).size ≤ 140737488355328):=Lib.hid (fun k=>flatT_size (Ca.ln 3) cl B2 k 1048576000 2000000000 (by omega) zB2 (by omega))
 have f3:Hid ((bs (B0++rowB Ex.tx kl)).size ≤ 140737488355328):=Lib.hid (by have:=f1.out n;rwa [all_taken hn] at this)
 have f4:Hid ((bs (B2++flat (Ca.ln 3) cl)).size ≤ 140737488355328):=Lib.hid (by have:=f2.out o;rwa [all_taken ho] at this)
 obtain ⟨R,hR⟩:∃ R,bs (padB 2++([116,114,97,110,115,105,116,105,111,110,32,115,101,108,101,99,116,40]++(rowB Ex.tx kl++([41]++blkB Ca.ln 2 cl)))) = R:=⟨_,rfl⟩
 rw [hR] at e2 ⊢
 have zQ:Hid (∀ j,(B2++flat (Ca.ln 3) (cl.take j)++padB 3).length ≤ 4000000000):=Lib.hid (fun j=>by
  have:=flat_take_le (Ca.ln 3) cl j
  rw [List.length_append,List.length_append,padB_length]
  omega)
 have hX0':=Lib.hid hX0.symm
 have hX1':=Lib.hid hX1.symm
 have hn':=Lib.hid hn
 have ho':=Lib.hid ho
 have lK':=Lib.hid lK
 have lC':=Lib.hid lC
 have hE':=Lib.hid hE
 have hS':=Lib.hid hS
 have rK':=Lib.hid rK
 have rC':=Lib.hid rC
 have kC':=Lib.hid kC
 have bC':=Lib.hid bC
 have hp2':=Lib.hid hp2
 have hp3':=Lib.hid hp3
 have hT':=Lib.hid hT
 have hQ':=Lib.hid hQ
 clear hX0 hX1 hn ho lK lC hE hS rK rC kC bC hp2 hp3 hT hQ hP hR hB0 hB2 zB0 zB2 tK tC zK zC bK ht
 go_enter Tryz.func30,Tryz.ntmps30
 go_upto_region 1 with (fail)
 obtain ⟨W,yy,hW,⟨z,hz⟩,ca⟩:=box1n V _ 53
 rw [hW]
 have c2:=ca 2 _ rfl
 have c3:=ca 3 _ rfl
 have c4:=ca 4 _ rfl
 have q2:=Lib.hid (kp_at hz hp2'.out)
 have up:Hid (∀ {f:FuncId} {args:Array Value} {v:Value},Kp Tryz.prog V f args v → Kp Tryz.prog W f args v):=Lib.hid (fun h=>by rw [hz];exact h.up z)
 have cup:Hid (∀ {a:Addr} {cs:List Value},CellsAt V a cs → CellsAt W a cs):=Lib.hid (fun h=>cellsat_at hz h)
 have hz2:=Lib.hid hz
 clear hW hz ca hp2'
 go_upto_region 5 with (first | (go_at_call 83;with_reducible refine (q2.out _).mono ?_;rintro r w' ⟨rfl,x,rfl⟩))
 rw [e0.out]
 go_loopw [3,4] (fun sv iv wr=>∃ k:Nat,k ≤ n ∧ iv = .int .i64 (k:Int) ∧ sv = .string (bs (B0++rowB Ex.tx (kl.take k))) ∧ ∃ y,wr = plus W y) (fun _ iv _=>n - (intOf iv).toNat)
 case atStart=>exact ⟨0,Nat.zero_le _,rfl,congrArg Value.string hX0'.out,_,rfl⟩
 case round =>
  obtain ⟨k,hk,rfl,rfl,y,rfl⟩:=hrel
  by_cases hlt:k < n
  ·obtain ⟨a,ha⟩:∃ s,kl[k]? = some s:=⟨kl[k]'(by rw [hn'.out];exact hlt),List.getElem?_eq_getElem _⟩
   obtain ⟨pa,rfl,hc⟩:=rK'.out k a ha
   have hmem:=List.mem_of_getElem? ha
   have a6:=Lib.hid (wr_succ k n hlt lK'.out)
   obtain ⟨hE1,hE2⟩:=hE'.out a hmem
   have hE3:=(up.out hE1).pure
   replace hc:=cup.out hc
   have s0:=row_bs0 Ex.tx kl B0 a
   have s1:=fun hk=>row_bsk Ex.tx kl B0 k hk a ha
   have l0:=f1.out k
   obtain ⟨aop,⟨alw,alh,all⟩,ahd,anm,ahi,alo,ap,acap,aargs⟩:=a
   simp only [Ex.cells,Ex.op,Ex.lit,Ex.head,Ex.name,Ex.hi,Ex.lo,Ex.p,Ex.cap,Ex.args] at hE3 hc
   generalize (Ex.mk aop ⟨alw,alh,all⟩ ahd anm ahi alo ap acap aargs).tx = E at hE2 hE3 s0 s1
   have hc':=Lib.hid hc
   obtain ⟨E',hEE⟩:∃ E',bs E = E':=⟨_,rfl⟩
   rw [hEE] at hE3
   simp only [hEE] at s0 s1
   have l1:E'.size ≤ 140737488355328:=by rw [← hEE];exact hE2
   have ec:=Lib.hid hE3
   have s0':=Lib.hid s0
   have s1':=Lib.hid s1
   clear hE1 hE2 hE3 hc hEE hmem s0 s1
   by_cases h0:k = 0
   ·subst h0
    have hc0:=hc'.out
    rw [add_zero_mul] at hc0
    have d0:=fun y=>(hc0.plus y).c0 _ rfl
    have d1:=fun y=>(hc0.plus y).cs 0 _ rfl
    have d2:=fun y=>(hc0.plus y).cs 1 _ rfl
    have d3:=fun y=>(hc0.plus y).cs 2 _ rfl
    have d4:=fun y=>(hc0.plus y).cs 3 _ rfl
    have d5:=fun y=>(hc0.plus y).cs 4 _ rfl
    have d6:=fun y=>(hc0.plus y).cs 5 _ rfl
    have d7:=fun y=>(hc0.plus y).cs 6 _ rfl
    have d8:=fun y=>(hc0.plus y).cs 7 _ rfl
    have hX:=Lib.hid (s0'.out ha)
    obtain ⟨T0,hT0⟩:∃ T,bs (B0++rowB Ex.tx (kl.take 0)) = T:=⟨_,rfl⟩
    rw [hT0] at l0 hX ⊢
    clear ha hT0 s0' s1' hc0 hc'
    go_wp2_with (first | (go_at_call 25;with_reducible refine (ec.out _).mono ?_;rintro r w' ⟨rfl,x,rfl⟩))
    go_roundw
    case rel=>exact ⟨0 + 1,hlt,rfl,congrArg Value.string hX.out,_,rfl⟩
    case measure=>first | exact step_less 0 n hlt a6.out | (show n - 1 < n - 0;omega)
   ·have h1:0 < k:=Nat.pos_of_ne_zero h0
    have hc0:=hc'.out
    have d0:=fun y=>(hc0.plus y).c0 _ rfl
    have d1:=fun y=>(hc0.plus y).cs 0 _ rfl
    have d2:=fun y=>(hc0.plus y).cs 1 _ rfl
    have d3:=fun y=>(hc0.plus y).cs 2 _ rfl
    have d4:=fun y=>(hc0.plus y).cs 3 _ rfl
    have d5:=fun y=>(hc0.plus y).cs 4 _ rfl
    have d6:=fun y=>(hc0.plus y).cs 5 _ rfl
    have d7:=fun y=>(hc0.plus y).cs 6 _ rfl
    have d8:=fun y=>(hc0.plus y).cs 7 _ rfl
    have hX:=Lib.hid (s1'.out h1)
    obtain ⟨T0,hT0⟩:∃ T,bs (B0++rowB Ex.tx (kl.take k)) = T:=⟨_,rfl⟩
    rw [hT0] at l0 hX ⊢
    clear ha hT0 s0' s1' h0 hc0 hc'
    go_wp2_with (first | (go_at_call 25;with_reducible refine (ec.out _).mono ?_;rintro r w' ⟨rfl,x,rfl⟩))
    go_roundw
    case rel=>exact ⟨k + 1,hlt,congrArg (Value.int .i64) a6.out,congrArg Value.string hX.out,_,rfl⟩
    case measure=>exact step_less k n hlt a6.out
  ·obtain rfl:k = n:=by omega
   rw [all_taken hn'.out]
   have l0:=f3.out
   have e1:=Lib.hid e1.out
   obtain ⟨T0,hT0⟩:∃ T,bs (B0++rowB Ex.tx kl) = T:=⟨_,rfl⟩
   rw [hT0] at l0 e1 ⊢
   clear hlt hk hE' rK' f1 f3 hT0
   go_upto_region 12 with (fail)
   rw [e1.out]
   clear e1 l0
   go_loopw [3,5] (fun sv iv wr=>∃ j:Nat,j ≤ o ∧ iv = .int .i64 (j:Int) ∧ sv = .string (bs (B2++flat (Ca.ln 3) (cl.take j))) ∧ ∃ y,wr = plus W y) (fun _ iv _=>o - (intOf iv).toNat)
   case atStart=>exact ⟨0,Nat.zero_le _,rfl,congrArg Value.string hX1'.out,_,rfl⟩
   case round =>
    obtain ⟨j,hj,rfl,rfl,y,rfl⟩:=hrel
    by_cases hlt:j < o
    ·obtain ⟨a,ha⟩:∃ s,cl[j]? = some s:=⟨cl[j]'(by rw [ho'.out];exact hlt),List.getElem?_eq_getElem _⟩
     obtain ⟨pa,rfl,hcV⟩:=rC'.out j a ha
     have hmem:=List.mem_of_getElem? ha
     have a6:=Lib.hid (wr_succ j o hlt lC'.out)
     obtain ⟨zt,lS,zS⟩:=hS'.out a hmem
     have hin:=kC'.out a hmem
     have hb:=bC'.out a hmem
     unfold caB at hb
     rw [Bool.and_eq_true] at hb
     have hsets:=each_all hb.2
     have hlen:=each_pos hb.2
     have hd0:a.dflt = true → a.sets.l = []:=fun hd=>by
      unfold caK at hlen
      rw [if_pos hd] at hlen
      exact List.eq_nil_of_length_eq_zero (by omega)
     have hLv:∀ s ∈ a.sets.l,(s.kind = 1 ∨ (s.kind = 2 ∧ Kp Tryz.prog V 8 #[.agg #[.int .i64 s.v.w,.int .u64 s.v.h,.int .u64 s.v.l]] (.string (bs s.v.tx))) ∨ (s.kind = 3 ∧ Kp Tryz.prog V 8 #[.agg #[.int .i64 s.v.w,.int .u64 s.v.h,.int .u64 s.v.l]] (.string (bs s.v.tx)) ∧ Kp Tryz.prog V 8 #[.agg #[.int .i64 s.m.w,.int .u64 s.m.h,.int .u64 s.m.l]] (.string (bs s.m.tx)))) ∧ s.v.tx.length ≤ 61 ∧ s.m.tx.length ≤ 61:=fun s hs=>by
      have h0:=hin.sets.kids s hs
      refine ⟨?_,lt_len h0.v,lt_len h0.m⟩
      rcases se_parts (hsets s hs) with ⟨k1,_⟩ | ⟨k1,k2,_⟩ | ⟨k1,k2,k3⟩
      ·exact .inl k1
      ·exact .inr (.inl ⟨k1,rlit_t hT'.out s.v V h0.v k2⟩)
      ·exact .inr (.inr ⟨k1,rlit_t hT'.out s.v V h0.v k2,rlit_t hT'.out s.m V h0.m k3⟩)
     have rS:=hin.sets.row
     have hs:=flat_take (Ca.ln 3) cl j a ha
     rw [show Ca.ln 3 a = padB 3++((if a.dflt then [100,101,102,97,117,108,116] else rowB Se.tx a.sets.l)++([58,32]++(a.to.data.toList++[59,10]))) from rfl] at hs
     have l0:=f2.out j
     have zQ1:=zQ.out j
     obtain ⟨dflt,⟨sp,sc,sl⟩,to2⟩:=a
     simp only [Ca.cells,Sl.v] at hcV hd0 hLv rS hs zt lS zS
     have hc:=(cup.out hcV).plus y
     clear hcV
     have hp3:=(up.out hp3'.out).up y
     have upU:Hid (∀ {f:FuncId} {args:Array Value} {v:Value},Kp Tryz.prog V f args v → Kp Tryz.prog (plus W y) f args v):=Lib.hid (fun h=>(up.out h).up y)
     have cupU:Hid (∀ {a:Addr} {cs:List Value},CellsAt V a cs → CellsAt (plus W y) a cs):=Lib.hid (fun h=>(cup.out h).plus y)
     have cU4:=c4 y
     obtain ⟨U,hU⟩:∃ U,plus W y = U:=⟨_,rfl⟩
     have back0:=again_plus hU
     simp only [hU] at hc cU4 upU cupU ⊢
     clear hU hin hb hsets hlen hmem
     have d0:=hc.c0 _ rfl
     have d1:=hc.cs 0 _ rfl
     have d2:=hc.cs 1 _ rfl
     obtain ⟨q,hq⟩:∃ q,sl.length = q:=⟨_,rfl⟩
     rw [hq] at d1 lS
     have hLv':=Lib.hid hLv
     have rS':=Lib.hid rS
     have hs':=Lib.hid hs
     have hd0':=Lib.hid hd0
     have hq':=Lib.hid hq
     have lS':=Lib.hid lS
     have zS':=Lib.hid zS
     have zQ1':=Lib.hid zQ1
     have back0':=Lib.hid back0
     clear hLv rS hs hd0 hc hq lS zS zQ1 back0
     go_upto_region 15 with (fail)
     obtain ⟨W2,yy2,hW2,⟨z2,hz3⟩,cb⟩:=box1n U _ 57
     rw [hW2]
     have b0:=cb 0 _ rfl
     have b1:=cb 1 _ rfl
     have b2:=cb 2 _ rfl
     have upX:Hid (∀ {f:FuncId} {args:Array Value} {v:Value},Kp Tryz.prog V f args v → PureIn Tryz.prog W2 f args v):=Lib.hid (fun h=>kp_at hz3 (upU.out h))
     have cupX:Hid (∀ {a:Addr} {cs:List Value},CellsAt V a cs → CellsAt W2 a cs):=Lib.hid (fun h=>cellsat_at hz3 (cupU.out h))
     have q3:=Lib.hid (upX.out hp3'.out)
     have back:Hid (∀ x,∃ x',plus W2 x = plus W x'):=Lib.hid (fun x=>by rw [hz3,plus_plus];exact back0'.out _)
     clear hW2 hz3 cb upU cupU back0' cU4 d0 d1 d2
     obtain ⟨T0,hT0⟩:∃ T,bs (B2++flat (Ca.ln 3) (cl.take j)) = T:=⟨_,rfl⟩
     rw [hT0] at l0 ⊢
     have hT0':=Lib.hid hT0
     clear hT0
     cases dflt with
     | false =>
      obtain ⟨B3,hB3⟩:∃ B,B2++flat (Ca.ln 3) (cl.take j)++padB 3 = B:=⟨_,rfl⟩
      have zB3:B3.length ≤ 4000000100:=by rw [← hB3];have:=zQ1'.out;omega
      obtain ⟨X3,hX3⟩:∃ X,bs (B3++rowB Se.tx (sl.take 0)) = X:=⟨_,rfl⟩
      have g0:Hid (T0++Q = X3):=Lib.hid (by
       rw [← hX3,row_none,List.append_nil,← hB3,← hT0'.out,← hQ'.out]
       exact bs_app _ _)
      have f5:Hid (∀ i,(bs (B3++rowB Se.tx (sl.take i))).size ≤ 140737488355328):=Lib.hid (fun i=>rowT_size Se.tx sl B3 i 1048576000 4000000100 zS'.out zB3 (by omega))
      have g1:Hid (bs (B3++rowB Se.tx sl)++(⟨#[58,32]⟩:ByteArray)++to2++(⟨#[59,10]⟩:ByteArray) = bs (B2++flat (Ca.ln 3) (cl.take (j + 1)))):=Lib.hid (by
       rw [hs'.out,← hB3]
       rw [if_neg (by decide)]
       apply ByteArray.ext
       simp)
      have hX3':=Lib.hid hX3.symm
      clear hX3 hB3 hs' zB3 hT0' zQ1' hd0'
      go_upto_region 19 with (first | (go_at_call 83;with_reducible refine (q3.out _).mono ?_;rintro r w' ⟨rfl,x,rfl⟩))
      rw [g0.out]
      clear g0 q3
      go_loopw [3,7] (fun sv iv wr=>∃ i:Nat,i ≤ q ∧ iv = .int .i64 (i:Int) ∧ sv = .string (bs (B3++rowB Se.tx (sl.take i))) ∧ ∃ y,wr = plus W2 y) (fun _ iv _=>q - (intOf iv).toNat)
      case atStart=>exact ⟨0,Nat.zero_le _,rfl,congrArg Value.string hX3'.out,_,rfl⟩
      case round =>
       obtain ⟨i,hi,rfl,rfl,y,rfl⟩:=hrel
       by_cases hlt2:i < q
       ·obtain ⟨b,hb⟩:∃ s,sl[i]? = some s:=⟨sl[i]'(by rw [hq'.out];exact hlt2),List.getElem?_eq_getElem _⟩
        obtain ⟨pb,rfl,hcW⟩:=rS'.out i b hb
        have a7:=Lib.hid (wr_succ i q hlt2 lS'.out)
        have l1:=f5.out i
        have s0:=row_bs0 Se.tx sl B3 b
        have s1:=fun hk=>row_bsk Se.tx sl B3 i hk b hb
        obtain ⟨hkd,hv,hm⟩:=hLv'.out b (List.mem_of_getElem? hb)
        have hc:=cupX.out hcW
        clear hcW
        have t1:=fun h=>se_tx1 (x:=b) h
        have t2:=fun h=>se_tx2 (x:=b) h
        have t3:=fun h=>se_tx3 (x:=b) h
        generalize b.tx = E at s0 s1 t1 t2 t3
        obtain ⟨kd,⟨vw,vh,vl⟩,⟨mw,mh,ml⟩⟩:=b
        simp only [Se.cells] at hc hkd hv hm t1 t2 t3
        generalize (Lt.mk vw vh vl).tx = Ev at hkd hv t2 t3
        generalize (Lt.mk mw mh ml).tx = Em at hkd hm t3
        obtain ⟨Sv,hSv⟩:∃ S,bs Ev = S:=⟨_,rfl⟩
        obtain ⟨Sm,hSm⟩:∃ S,bs Em = S:=⟨_,rfl⟩
        have l2:Sv.size ≤ 61:=by rw [← hSv];exact hv
        have l3:Sm.size ≤ 61:=by rw [← hSm];exact hm
        rw [hSv,hSm] at hkd
        have hc':=Lib.hid hc
        clear hc hv hm
        obtain ⟨T1,hT1⟩:∃ T,bs (B3++rowB Se.tx (sl.take i)) = T:=⟨_,rfl⟩
        have hT1':=Lib.hid hT1
        rw [hT1] at l1 ⊢
        clear hT1
        rcases hkd with rfl | ⟨rfl,v1⟩ | ⟨rfl,v1,v2⟩
        ·have hE:=t1 rfl
         subst hE
         by_cases h0:i = 0
         ·subst h0
          have hc0:=hc'.out
          rw [add_zero_mul] at hc0
          have d0:=fun y=>(hc0.plus y).c0 _ rfl
          have d1:=fun y=>(hc0.plus y).cs 0 _ rfl
          have d2:=fun y=>(hc0.plus y).cs 1 _ rfl
          have d3:=fun y=>(hc0.plus y).cs 2 _ rfl
          have d4:=fun y=>(hc0.plus y).cs 3 _ rfl
          have d5:=fun y=>(hc0.plus y).cs 4 _ rfl
          have d6:=fun y=>(hc0.plus y).cs 5 _ rfl
          have hX:Hid (T1++(⟨#[95]⟩:ByteArray) = bs (B3++rowB Se.tx (sl.take (0 + 1)))):=Lib.hid (by rw [← hT1'.out];exact s0 hb)
          clear hc0 hc' s0 s1 t1 t2 t3 hT1' hSv hSm hb
          go_wp2_with (fail)
          go_roundw
          case rel=>exact ⟨0 + 1,hlt2,rfl,congrArg Value.string hX.out,_,rfl⟩
          case measure=>first | exact step_less 0 q hlt2 a7.out | (show q - 1 < q - 0;omega)
         ·have h1:0 < i:=Nat.pos_of_ne_zero h0
          have hc0:=hc'.out
          have d0:=fun y=>(hc0.plus y).c0 _ rfl
          have d1:=fun y=>(hc0.plus y).cs 0 _ rfl
          have d2:=fun y=>(hc0.plus y).cs 1 _ rfl
          have d3:=fun y=>(hc0.plus y).cs 2 _ rfl
          have d4:=fun y=>(hc0.plus y).cs 3 _ rfl
          have d5:=fun y=>(hc0.plus y).cs 4 _ rfl
          have d6:=fun y=>(hc0.plus y).cs 5 _ rfl
          have hX:Hid (T1++(⟨#[44,32]⟩:ByteArray)++(⟨#[95]⟩:ByteArray) = bs (B3++rowB Se.tx (sl.take (i + 1)))):=Lib.hid (by rw [← hT1'.out];exact s1 h1)
          clear hc0 hc' s0 s1 t1 t2 t3 hT1' hSv hSm hb h0
          go_wp2_with (fail)
          go_roundw
          case rel=>exact ⟨i + 1,hlt2,congrArg (Value.int .i64) a7.out,congrArg Value.string hX.out,_,rfl⟩
          case measure=>exact step_less i q hlt2 a7.out
        ·have hE:=t2 rfl
         have v1':=Lib.hid (upX.out v1)
         subst hE
         by_cases h0:i = 0
         ·subst h0
          have hc0:=hc'.out
          rw [add_zero_mul] at hc0
          have d0:=fun y=>(hc0.plus y).c0 _ rfl
          have d1:=fun y=>(hc0.plus y).cs 0 _ rfl
          have d2:=fun y=>(hc0.plus y).cs 1 _ rfl
          have d3:=fun y=>(hc0.plus y).cs 2 _ rfl
          have d4:=fun y=>(hc0.plus y).cs 3 _ rfl
          have d5:=fun y=>(hc0.plus y).cs 4 _ rfl
          have d6:=fun y=>(hc0.plus y).cs 5 _ rfl
          have hX:Hid (T1++Sv = bs (B3++rowB Se.tx (sl.take (0 + 1)))):=Lib.hid (by rw [← hT1'.out,← hSv];exact s0 hb)
          clear hc0 hc' s0 s1 t1 t2 t3 hT1' hSv hSm hb v1
          go_wp2_with (first | (go_at_call 8;with_reducible refine (v1'.out _).mono ?_;rintro r w' ⟨rfl,x,rfl⟩))
          go_roundw
          case rel=>exact ⟨0 + 1,hlt2,rfl,congrArg Value.string hX.out,_,rfl⟩
          case measure=>first | exact step_less 0 q hlt2 a7.out | (show q - 1 < q - 0;omega)
         ·have h1:0 < i:=Nat.pos_of_ne_zero h0
          have hc0:=hc'.out
          have d0:=fun y=>(hc0.plus y).c0 _ rfl
          have d1:=fun y=>(hc0.plus y).cs 0 _ rfl
          have d2:=fun y=>(hc0.plus y).cs 1 _ rfl
          have d3:=fun y=>(hc0.plus y).cs 2 _ rfl
          have d4:=fun y=>(hc0.plus y).cs 3 _ rfl
          have d5:=fun y=>(hc0.plus y).cs 4 _ rfl
          have d6:=fun y=>(hc0.plus y).cs 5 _ rfl
          have hX:Hid (T1++(⟨#[44,32]⟩:ByteArray)++Sv = bs (B3++rowB Se.tx (sl.take (i + 1)))):=Lib.hid (by rw [← hT1'.out,← hSv];exact s1 h1)
          clear hc0 hc' s0 s1 t1 t2 t3 hT1' hSv hSm hb v1 h0
          go_wp2_with (first | (go_at_call 8;with_reducible refine (v1'.out _).mono ?_;rintro r w' ⟨rfl,x,rfl⟩))
          go_roundw
          case rel=>exact ⟨i + 1,hlt2,congrArg (Value.int .i64) a7.out,congrArg Value.string hX.out,_,rfl⟩
          case measure=>exact step_less i q hlt2 a7.out
        ·have hE:=t3 rfl
         have v1':=Lib.hid (upX.out v1)
         have v2':=Lib.hid (upX.out v2)
         subst hE
         by_cases h0:i = 0
         ·subst h0
          have hc0:=hc'.out
          rw [add_zero_mul] at hc0
          have d0:=fun y=>(hc0.plus y).c0 _ rfl
          have d1:=fun y=>(hc0.plus y).cs 0 _ rfl
          have d2:=fun y=>(hc0.plus y).cs 1 _ rfl
          have d3:=fun y=>(hc0.plus y).cs 2 _ rfl
          have d4:=fun y=>(hc0.plus y).cs 3 _ rfl
          have d5:=fun y=>(hc0.plus y).cs 4 _ rfl
          have d6:=fun y=>(hc0.plus y).cs 5 _ rfl
          have hX:Hid (T1++Sv++(⟨#[32,38,38,38,32]⟩:ByteArray)++Sm = bs (B3++rowB Se.tx (sl.take (0 + 1)))):=Lib.hid (by rw [← hT1'.out,← hSv,← hSm,← set3];exact s0 hb)
          clear hc0 hc' s0 s1 t1 t2 t3 hT1' hSv hSm hb v1 v2
          go_upto_region 29 with (fail)
          refine wp_region_own (by kernel_rfl) (by kernel_rfl) ?_
          repeat (go_big_quiet_step (first | (with_reducible exact v1'.out _) | (with_reducible exact v2'.out _)))
          refine wpQuiet_nil ?_
          rintro _ ⟨y2,rfl⟩
          go_wp2
          go_roundw
          case rel=>exact ⟨0 + 1,hlt2,rfl,congrArg Value.string hX.out,_,rfl⟩
          case measure=>first | exact step_less 0 q hlt2 a7.out | (show q - 1 < q - 0;omega)
         ·have h1:0 < i:=Nat.pos_of_ne_zero h0
          have hc0:=hc'.out
          have d0:=fun y=>(hc0.plus y).c0 _ rfl
          have d1:=fun y=>(hc0.plus y).cs 0 _ rfl
          have d2:=fun y=>(hc0.plus y).cs 1 _ rfl
          have d3:=fun y=>(hc0.plus y).cs 2 _ rfl
          have d4:=fun y=>(hc0.plus y).cs 3 _ rfl
          have d5:=fun y=>(hc0.plus y).cs 4 _ rfl
          have d6:=fun y=>(hc0.plus y).cs 5 _ rfl
          have hX:Hid (T1++(⟨#[44,32]⟩:ByteArray)++Sv++(⟨#[32,38,38,38,32]⟩:ByteArray)++Sm = bs (B3++rowB Se.tx (sl.take (i + 1)))):=Lib.hid (by rw [← hT1'.out,← hSv,← hSm,← set3];exact s1 h1)
          clear hc0 hc' s0 s1 t1 t2 t3 hT1' hSv hSm hb v1 v2 h0
          go_upto_region 29 with (fail)
          refine wp_region_own (by kernel_rfl) (by kernel_rfl) ?_
          repeat (go_big_quiet_step (first | (with_reducible exact v1'.out _) | (with_reducible exact v2'.out _)))
          refine wpQuiet_nil ?_
          rintro _ ⟨y2,rfl⟩
          go_wp2
          go_roundw
          case rel=>exact ⟨i + 1,hlt2,congrArg (Value.int .i64) a7.out,congrArg Value.string hX.out,_,rfl⟩
          case measure=>exact step_less i q hlt2 a7.out
       ·obtain rfl:i = q:=by omega
        rw [all_taken hq'.out]
        have l1:=f5.out i
        rw [all_taken hq'.out] at l1
        have g1:=Lib.hid g1.out
        obtain ⟨T1,hT1⟩:∃ T,bs (B3++rowB Se.tx sl) = T:=⟨_,rfl⟩
        rw [hT1] at l1 g1 ⊢
        clear hlt2 hi hT1 f5 hLv' rS'
        go_wp2
        go_roundw
        case rel=>exact ⟨j + 1,hlt,congrArg (Value.int .i64) a6.out,congrArg Value.string g1.out,back.out _⟩
        case measure=>exact step_less j o hlt a6.out
     | true =>
      obtain ⟨B3,hB3⟩:∃ B,B2++flat (Ca.ln 3) (cl.take j)++padB 3++[100,101,102,97,117,108,116] = B:=⟨_,rfl⟩
      have zB3:B3.length ≤ 4000000100:=by rw [← hB3,List.length_append];have:=zQ1'.out;have e:[(100:UInt8),101,102,97,117,108,116].length = 7:=rfl;omega
      obtain ⟨X3,hX3⟩:∃ X,bs (B3++rowB Se.tx (sl.take 0)) = X:=⟨_,rfl⟩
      have g0:Hid (T0++Q++(⟨#[100,101,102,97,117,108,116]⟩:ByteArray) = X3):=Lib.hid (by
       rw [← hX3,row_none,List.append_nil,← hB3,← hT0'.out,← hQ'.out]
       rw [bs_app]
       exact bs_app _ _)
      have f5:Hid (∀ i,(bs (B3++rowB Se.tx (sl.take i))).size ≤ 140737488355328):=Lib.hid (fun i=>rowT_size Se.tx sl B3 i 1048576000 4000000100 zS'.out zB3 (by omega))
      have g1:Hid (bs (B3++rowB Se.tx sl)++(⟨#[58,32]⟩:ByteArray)++to2++(⟨#[59,10]⟩:ByteArray) = bs (B2++flat (Ca.ln 3) (cl.take (j + 1)))):=Lib.hid (by
       rw [hs'.out,← hB3]
       rw [hd0'.out (by trivial),if_pos rfl]
       apply ByteArray.ext
       simp [rowB])
      have hX3':=Lib.hid hX3.symm
      clear hX3 hB3 hs' zB3 hT0' zQ1' 
      go_upto_region 19 with (first | (go_at_call 83;with_reducible refine (q3.out _).mono ?_;rintro r w' ⟨rfl,x,rfl⟩))
      rw [g0.out]
      clear g0 q3
      go_loopw [3,7] (fun sv iv wr=>∃ i:Nat,i ≤ q ∧ iv = .int .i64 (i:Int) ∧ sv = .string (bs (B3++rowB Se.tx (sl.take i))) ∧ ∃ y,wr = plus W2 y) (fun _ iv _=>q - (intOf iv).toNat)
      case atStart=>exact ⟨0,Nat.zero_le _,rfl,congrArg Value.string hX3'.out,_,rfl⟩
      case round =>
       obtain ⟨i,hi,rfl,rfl,y,rfl⟩:=hrel
       by_cases hlt2:i < q
       ·obtain ⟨b,hb⟩:∃ s,sl[i]? = some s:=⟨sl[i]'(by rw [hq'.out];exact hlt2),List.getElem?_eq_getElem _⟩
        exact absurd hb (by rw [hd0'.out (by trivial)];simp)
       ·obtain rfl:i = q:=by omega
        rw [all_taken hq'.out]
        have l1:=f5.out i
        rw [all_taken hq'.out] at l1
        have g1:=Lib.hid g1.out
        obtain ⟨T1,hT1⟩:∃ T,bs (B3++rowB Se.tx sl) = T:=⟨_,rfl⟩
        rw [hT1] at l1 g1 ⊢
        clear hlt2 hi hT1 f5 hLv' rS'
        go_wp2
        go_roundw
        case rel=>exact ⟨j + 1,hlt,congrArg (Value.int .i64) a6.out,congrArg Value.string g1.out,back.out _⟩
        case measure=>exact step_less j o hlt a6.out
    ·obtain rfl:j = o:=by omega
     rw [all_taken ho'.out]
     have l0:=f4.out
     have e2:=Lib.hid e2.out
     obtain ⟨T0,hT0⟩:∃ T,bs (B2++flat (Ca.ln 3) cl) = T:=⟨_,rfl⟩
     rw [hT0] at l0 e2 ⊢
     clear hlt hj hT0
     go_wp2_with (first | (go_at_call 83;with_reducible refine (q2.out _).mono ?_;rintro r w' ⟨rfl,x,rfl⟩))
     go_ret
     exact ⟨congrArg (fun q=>Ending.returned (Value.string q)) e2.out,by rw [hz2.out,plus_plus];exact ⟨_,rfl⟩⟩
theorem flat_more {α:Type} {f:α → List UInt8} {l:List α} {B:List UInt8} {k:Nat} {x:α} {X:ByteArray} (h:l[k]? = some x) (e:X = bs (f x)):bs (B++flat f (l.take k))++X = bs (B++flat f (l.take (k + 1))):=by
 rw [flat_take f l k x h,e,bs_app,List.append_assoc]
theorem row_more0 {α:Type} {f:α → List UInt8} {l:List α} {B:List UInt8} {x:α} {X:ByteArray} (h:l[0]? = some x) (e:X = bs (f x)):bs (B++rowB f (l.take 0))++X = bs (B++rowB f (l.take (0 + 1))):=by
 rw [e];exact row_bs0 f l B x h
theorem row_morek {α:Type} {f:α → List UInt8} {l:List α} {B:List UInt8} {k:Nat} (hk:0 < k) {x:α} {X:ByteArray} (h:l[k]? = some x) (e:X = bs (f x)):bs (B++rowB f (l.take k))++(⟨#[44,32]⟩:ByteArray)++X = bs (B++rowB f (l.take (k + 1))):=by
 rw [e];exact row_bsk f l B k hk x h
set_option maxRecDepth 100000 in
set_option maxHeartbeats 32000000 in
theorem rtable_of (hT:∀ (n:Nat),n < B128 → Pure Tryz.prog 19 #[nv n] (.string (numS n))) (nm dn:ByteArray) (K:Sl Ke) (A:Sl ByteArray) (G:Sl Lt) (w:World) (zn:nm.size ≤ 1048576) (zd:dn.size ≤ 1048576)
  (hK:K.In w 10 Ke.cells (Ke.In w)) (hA:A.In w 1 strCells strOk) (hG:G.In w 3 Lt.cells Lt.Ok) (zK:K.size Ke.sz ≤ 1048576) (zA:A.size strSize ≤ 1048576) (zG:G.size (fun _=>1) ≤ 1048576) (bK:∀ x ∈ K.l,keB x = true) (bG:∀ x ∈ G.l,ltB x = true) :
  Kp Tryz.prog w 32 #[.agg #[.string nm,K.v,A.v,.string dn,G.v]] (.string (bs ([116,97,98,108,101,32]++(nm.data.toList++([32,123,10]++([32,32]++([107,101,121]++(blkB Ke.ln 1 K.l++([32,32]++([97,99,116,105,111,110,115]++(blkB listL 1 A.l++([32,32]++([100,101,102,97,117,108,116,32]++(dn.data.toList++([40]++(rowB Lt.tx G.l++([41,59,10]++[125,10]))))))))))))))))):=by
 intro y0
 have ln_n:=len_le Ke.sz (fun y=>by unfold Ke.sz;omega) K (n:=1048576) zK
 have ln_o:=len_le strSize strSize_pos A (n:=1048576) zA
 have ln_q:=len_le (fun _=>1) (fun _=>Nat.le_refl _) G (n:=1048576) zG
 have tK:=flat_len (f:=Ke.ln 2) (g:=Ke.sz) (C:=1000) K.l (fun y hy=>ke_len (by omega) (hK.kids y hy))
 have tA:=names_len (listL 2) A.l (fun s=>by
  have:=str_len s
  unfold listL
  simp only [List.length_append,List.length_cons,List.length_nil,padB_length]
  omega)
 have tG:=rowB_len (f:=Lt.tx) (g:=fun _=>1) (C:=1000) G.l (fun y hy=>by
  have:=lt_len (hG.kids y hy)
  omega)
 have hE:∀ x ∈ K.l,Kp Tryz.prog w 25 #[.agg x.e.cells.toArray] (.string (bs x.e.tx)) ∧ x.e.tx.length ≤ 140737488355328 ∧ (x.kind = 1 ∨ x.kind = 2 ∨ x.kind = 3):=fun x hx=>by
  have h1:=ex_len x.e (hK.kids x hx).e
  have h2:Ke.sz x ≤ 1048576:=Nat.le_trans (le_sum_of Ke.sz K.l x hx) zK
  have h3:Ke.sz x = 1 + Ex.wt x.e:=rfl
  have h4:=bK x hx
  unfold keB at h4
  simp only [Bool.and_eq_true,decide_eq_true_eq] at h4
  exact ⟨(rt_ex hT x.e 16 w h4.2.2 (hK.kids x hx).e (by omega)).1,by omega,by omega⟩
 have hS:∀ s ∈ A.l,s.size ≤ 1048576:=fun s hs=>by
  have h2:strSize s ≤ 1048576:=Nat.le_trans (le_sum_of strSize A.l s hs) zA
  unfold strSize at h2
  omega
 have hL:∀ t ∈ G.l,Kp Tryz.prog w 8 #[.agg #[.int .i64 t.w,.int .u64 t.h,.int .u64 t.l]] (.string (bs t.tx)) ∧ t.tx.length ≤ 61:=fun t ht=>⟨rlit_t hT t w (hG.kids t ht) (bG t ht),lt_len (hG.kids t ht)⟩
 have r_n:=hK.row.plus y0
 have r_o:=hA.row.plus y0
 have r_q:=hG.row.plus y0
 have hE:=fun x hx=>(⟨(hE x hx).1.up y0,(hE x hx).2⟩:_ ∧ _)
 have hL:=fun x hx=>(⟨(hL x hx).1.up y0,(hL x hx).2⟩:_ ∧ _)
 obtain ⟨V,hV⟩:∃ V,plus w y0 = V:=⟨_,rfl⟩
 simp only [hV] at r_n r_o r_q hE hL ⊢
 clear hV hK hA hG
 obtain ⟨kp,kc,kl⟩:=K
 obtain ⟨ap,ac,al⟩:=A
 obtain ⟨gp,gc,gl⟩:=G
 simp only [Sl.v,Sl.size] at ln_n ln_o ln_q zK zA zG tK tA tG hE hS hL r_n r_o r_q bK bG ⊢
 obtain ⟨n,hn_n⟩:∃ n,kl.length = n:=⟨_,rfl⟩
 obtain ⟨o,hn_o⟩:∃ o,al.length = o:=⟨_,rfl⟩
 obtain ⟨q,hn_q⟩:∃ q,gl.length = q:=⟨_,rfl⟩
 rw [hn_n] at ln_n ⊢
 rw [hn_o] at ln_o ⊢
 rw [hn_q] at ln_q ⊢
 obtain ⟨B0,hB0⟩:∃ B,[116,97,98,108,101,32]++nm.data.toList++[32,123,10,32,32,107,101,121,32,123,10] = B:=⟨_,rfl⟩
 obtain ⟨B1,hB1⟩:∃ B,B0++flat (Ke.ln 2) kl++[32,32,125,10,32,32,97,99,116,105,111,110,115,32,123,10] = B:=⟨_,rfl⟩
 obtain ⟨B2,hB2⟩:∃ B,B1++flat (listL 2) al++[32,32,125,10,32,32,100,101,102,97,117,108,116,32]++dn.data.toList++[40] = B:=⟨_,rfl⟩
 have zB0:B0.length ≤ 2000000:=by rw [← hB0];simp only [List.length_append,List.length_cons,List.length_nil,str_len];omega
 have zB1:B1.length ≤ 2000000000:=by rw [← hB1];simp only [List.length_append,List.length_cons,List.length_nil];omega
 have zB2:B2.length ≤ 4000000000:=by rw [← hB2];simp only [List.length_append,List.length_cons,List.length_nil,str_len];omega
 obtain ⟨X0,hX0⟩:∃ X,bs (B0++flat (Ke.ln 2) (kl.take 0)) = X:=⟨_,rfl⟩
 have e0:Hid ((⟨#[116,97,98,108,101,32]⟩:ByteArray)++nm++(⟨#[32,123,10,32,32,107,101,121,32,123,10]⟩:ByteArray) = X0):=Lib.hid (by
  rw [← hX0,flat_none,List.append_nil,← hB0]
  apply ByteArray.ext
  simp)
 obtain ⟨X1,hX1⟩:∃ X,bs (B1++flat (listL 2) (al.take 0)) = X:=⟨_,rfl⟩
 have e1:Hid (bs (B0++flat (Ke.ln 2) kl)++(⟨#[32,32,125,10,32,32,97,99,116,105,111,110,115,32,123,10]⟩:ByteArray) = X1):=Lib.hid (by
  rw [← hX1,flat_none,List.append_nil,← hB1]
  exact bs_app _ _)
 obtain ⟨X2,hX2⟩:∃ X,bs (B2++rowB Lt.tx (gl.take 0)) = X:=⟨_,rfl⟩
 have e2:Hid (bs (B1++flat (listL 2) al)++(⟨#[32,32,125,10,32,32,100,101,102,97,117,108,116,32]⟩:ByteArray)++dn++(⟨#[40]⟩:ByteArray) = X2):=Lib.hid (by
  rw [← hX2,row_none,List.append_nil,← hB2]
  apply ByteArray.ext
  simp)
 have e3:Hid (bs (B2++rowB Lt.tx gl)++(⟨#[41,59,10,125,10]⟩:ByteArray) = bs ([116,97,98,108,101,32]++(nm.data.toList++([32,123,10]++([32,32]++([107,101,121]++(blkB Ke.ln 1 kl++([32,32]++([97,99,116,105,111,110,115]++(blkB listL 1 al++([32,32]++([100,101,102,97,117,108,116,32]++(dn.data.toList++([40]++(rowB Lt.tx gl++([41,59,10]++[125,10])))))))))))))))):=Lib.hid (by
  rw [← hB2,← hB1,← hB0]
  unfold blkB
  apply ByteArray.ext
  simp [padB])
 have f0:Hid (∀ k,(bs (B0++flat (Ke.ln 2) (kl.take k))).size ≤ 140737488355328):=Lib.hid (fun k=>flatT_size _ kl B0 k 1048576000 2000000 (by omega) zB0 (by omega))
 have f1:Hid (∀ k,(bs (B1++flat (listL 2) (al.take k))).size ≤ 140737488355328):=Lib.hid (fun k=>flatT_size _ al B1 k 1048576000 2000000000 (by omega) zB1 (by omega))
 have f2:Hid (∀ k,(bs (B2++rowB Lt.tx (gl.take k))).size ≤ 140737488355328):=Lib.hid (fun k=>rowT_size _ gl B2 k 1048576000 4000000000 (by omega) zB2 (by omega))
 obtain ⟨R,hR⟩:∃ R,bs ([116,97,98,108,101,32]++(nm.data.toList++([32,123,10]++([32,32]++([107,101,121]++(blkB Ke.ln 1 kl++([32,32]++([97,99,116,105,111,110,115]++(blkB listL 1 al++([32,32]++([100,101,102,97,117,108,116,32]++(dn.data.toList++([40]++(rowB Lt.tx gl++([41,59,10]++[125,10]))))))))))))))) = R:=⟨_,rfl⟩
 rw [hR] at e3 ⊢
 have hn_n':=Lib.hid hn_n
 have ln_n':=Lib.hid ln_n
 have r_n':=Lib.hid r_n
 have hn_o':=Lib.hid hn_o
 have ln_o':=Lib.hid ln_o
 have r_o':=Lib.hid r_o
 have hn_q':=Lib.hid hn_q
 have ln_q':=Lib.hid ln_q
 have r_q':=Lib.hid r_q
 have hX0':=Lib.hid hX0.symm
 have hX1':=Lib.hid hX1.symm
 have hX2':=Lib.hid hX2.symm
 have hE':=Lib.hid hE
 have hS':=Lib.hid hS
 have hL':=Lib.hid hL
 clear hX0 hX1 hX2 hn_n hn_o hn_q ln_n ln_o ln_q r_n r_o r_q hE hS hL hR hB0 hB1 hB2 zB0 zB1 zB2 tK tA tG zK zA zG bK bG hT
 go_enter Tryz.func32,Tryz.ntmps32
 go_upto_region 2 with (fail)
 obtain ⟨W,yy,hW,⟨z,hz⟩,ca,cb⟩:=box2n V _ _ 65 9
 rw [hW]
 have c0:=ca 0 _ rfl
 have c1:=ca 1 _ rfl
 have c2:=ca 2 _ rfl
 have c3:=ca 3 _ rfl
 have c4:=ca 4 _ rfl
 have b1:=cb 1 _ rfl
 have b2:=cb 2 _ rfl
 have b3:=cb 3 _ rfl
 have up:Hid (∀ {f:FuncId} {args:Array Value} {v:Value},Kp Tryz.prog V f args v → PureIn Tryz.prog W f args v):=Lib.hid (fun h=>kp_at hz h)
 have cup:Hid (∀ {a:Addr} {cs:List Value},CellsAt V a cs → CellsAt W a cs):=Lib.hid (fun h=>cellsat_at hz h)
 have hz2:=Lib.hid hz
 clear hW hz ca cb
 go_upto_region 4 with (fail)
 rw [e0.out]
 clear e0
 go_loopw [4,5] (fun sv iv wr=>∃ k:Nat,k ≤ n ∧ iv = .int .i64 (k:Int) ∧ sv = .string (bs (B0++flat (Ke.ln 2) (kl.take k))) ∧ ∃ y,wr = plus W y) (fun _ iv _=>n - (intOf iv).toNat)
 case atStart=>exact ⟨0,Nat.zero_le _,rfl,congrArg Value.string hX0'.out,_,rfl⟩
 case round =>
  obtain ⟨k,hk,rfl,rfl,y,rfl⟩:=hrel
  by_cases hlt_k:k < n
  ·obtain ⟨a,ha⟩:∃ s,kl[k]? = some s:=⟨kl[k]'(by rw [hn_n'.out];exact hlt_k),List.getElem?_eq_getElem _⟩
   obtain ⟨pa,rfl,hc⟩:=r_n'.out k a ha
   have hmem:=List.mem_of_getElem? ha
   have a_k:=Lib.hid (wr_succ k n hlt_k ln_n'.out)
   have l0:=f0.out k
   obtain ⟨hE1,hE2,hkd⟩:=hE'.out a hmem
   have hE3:=up.out hE1
   replace hc:=cup.out hc
   have hX:∀ X,X = bs (Ke.ln 2 a) → bs (B0++flat (Ke.ln 2) (kl.take k))++X = bs (B0++flat (Ke.ln 2) (kl.take (k + 1))):=fun X e=>flat_more ha e
   rw [show Ke.ln 2 a = padB 2++(a.e.tx++([58,32]++(kwL a.kind++[59,10]))) from rfl] at hX
   obtain ⟨⟨aop,⟨alw,alh,all⟩,ahd,anm,ahi,alo,ap',acap,aargs⟩,kd⟩:=a
   simp only [Ke.cells,Ex.cells,Ex.op,Ex.lit,Ex.head,Ex.name,Ex.hi,Ex.lo,Ex.p,Ex.cap,Ex.args] at hE3 hc hkd
   simp only at hX hE2
   generalize (Ex.mk aop ⟨alw,alh,all⟩ ahd anm ahi alo ap' acap aargs).tx = E at hE2 hE3 hX
   have d0:=fun y=>(hc.plus y).c0 _ rfl
   have d1:=fun y=>(hc.plus y).cs 0 _ rfl
   have d2:=fun y=>(hc.plus y).cs 1 _ rfl
   have d3:=fun y=>(hc.plus y).cs 2 _ rfl
   have d4:=fun y=>(hc.plus y).cs 3 _ rfl
   have d5:=fun y=>(hc.plus y).cs 4 _ rfl
   have d6:=fun y=>(hc.plus y).cs 5 _ rfl
   have d7:=fun y=>(hc.plus y).cs 6 _ rfl
   have d8:=fun y=>(hc.plus y).cs 7 _ rfl
   have d9:=fun y=>(hc.plus y).cs 8 _ rfl
   obtain ⟨E',hEE⟩:∃ E',bs E = E':=⟨_,rfl⟩
   rw [hEE] at hE3
   have l1:E'.size ≤ 140737488355328:=by rw [← hEE];exact hE2
   have ec:=Lib.hid hE3
   have hEE':=Lib.hid hEE
   obtain ⟨T0,hT0⟩:∃ T,bs (B0++flat (Ke.ln 2) (kl.take k)) = T:=⟨_,rfl⟩
   rw [hT0] at l0 hX ⊢
   have hX':=Lib.hid hX
   clear hE1 hE2 hE3 hc hEE hmem hX hT0 ha
   rcases hkd with rfl | rfl | rfl
   ·have hX:Hid (T0++(⟨#[32,32,32,32]⟩:ByteArray)++E'++(⟨#[58,32]⟩:ByteArray)++(⟨#[101,120,97,99,116]⟩:ByteArray)++(⟨#[59,10]⟩:ByteArray) = bs (B0++flat (Ke.ln 2) (kl.take (k + 1)))):=Lib.hid (by
     rw [← hX'.out _ rfl,← hEE'.out]
     apply ByteArray.ext
     simp [padB,kwL])
    clear hX' hEE'
    go_upto_region 6 with (fail)
    refine wp_region_own (by kernel_rfl) (by kernel_rfl) ?_
    repeat (go_big_quiet_step (first | (with_reducible exact ec.out _)))
    refine wpQuiet_nil ?_
    rintro _ ⟨y2,rfl⟩
    go_wp2
    go_roundw
    case rel=>exact ⟨k + 1,hlt_k,congrArg (Value.int .i64) a_k.out,congrArg Value.string hX.out,_,rfl⟩
    case measure=>exact step_less k n hlt_k a_k.out
   ·have hX:Hid (T0++(⟨#[32,32,32,32]⟩:ByteArray)++E'++(⟨#[58,32]⟩:ByteArray)++(⟨#[108,112,109]⟩:ByteArray)++(⟨#[59,10]⟩:ByteArray) = bs (B0++flat (Ke.ln 2) (kl.take (k + 1)))):=Lib.hid (by
     rw [← hX'.out _ rfl,← hEE'.out]
     apply ByteArray.ext
     simp [padB,kwL])
    clear hX' hEE'
    go_upto_region 6 with (fail)
    refine wp_region_own (by kernel_rfl) (by kernel_rfl) ?_
    repeat (go_big_quiet_step (first | (with_reducible exact ec.out _)))
    refine wpQuiet_nil ?_
    rintro _ ⟨y2,rfl⟩
    go_wp2
    go_roundw
    case rel=>exact ⟨k + 1,hlt_k,congrArg (Value.int .i64) a_k.out,congrArg Value.string hX.out,_,rfl⟩
    case measure=>exact step_less k n hlt_k a_k.out
   ·have hX:Hid (T0++(⟨#[32,32,32,32]⟩:ByteArray)++E'++(⟨#[58,32]⟩:ByteArray)++(⟨#[116,101,114,110,97,114,121]⟩:ByteArray)++(⟨#[59,10]⟩:ByteArray) = bs (B0++flat (Ke.ln 2) (kl.take (k + 1)))):=Lib.hid (by
     rw [← hX'.out _ rfl,← hEE'.out]
     apply ByteArray.ext
     simp [padB,kwL])
    clear hX' hEE'
    go_upto_region 6 with (fail)
    refine wp_region_own (by kernel_rfl) (by kernel_rfl) ?_
    repeat (go_big_quiet_step (first | (with_reducible exact ec.out _)))
    refine wpQuiet_nil ?_
    rintro _ ⟨y2,rfl⟩
    go_wp2
    go_roundw
    case rel=>exact ⟨k + 1,hlt_k,congrArg (Value.int .i64) a_k.out,congrArg Value.string hX.out,_,rfl⟩
    case measure=>exact step_less k n hlt_k a_k.out
  ·obtain rfl:k = n:=by omega
   rw [all_taken hn_n'.out]
   have l0:=f0.out k
   rw [all_taken hn_n'.out] at l0
   have e1:=Lib.hid e1.out
   obtain ⟨T0,hT0⟩:∃ T,bs (B0++flat (Ke.ln 2) kl) = T:=⟨_,rfl⟩
   rw [hT0] at l0 e1 ⊢
   clear hlt_k hk hE' r_n' f0 hT0 b1 b2 b3
   go_upto_region 9 with (fail)
   rw [e1.out]
   clear e1 l0
   go_loopw [4,6] (fun sv iv wr=>∃ j:Nat,j ≤ o ∧ iv = .int .i64 (j:Int) ∧ sv = .string (bs (B1++flat (listL 2) (al.take j))) ∧ ∃ y,wr = plus W y) (fun _ iv _=>o - (intOf iv).toNat)
   case atStart=>exact ⟨0,Nat.zero_le _,rfl,congrArg Value.string hX1'.out,_,rfl⟩
   case round =>
    obtain ⟨j,hj,rfl,rfl,y,rfl⟩:=hrel
    by_cases hlt_j:j < o
    ·obtain ⟨a,ha⟩:∃ s,al[j]? = some s:=⟨al[j]'(by rw [hn_o'.out];exact hlt_j),List.getElem?_eq_getElem _⟩
     obtain ⟨pa,rfl,hc⟩:=r_o'.out j a ha
     have hmem:=List.mem_of_getElem? ha
     have a_j:=Lib.hid (wr_succ j o hlt_j ln_o'.out)
     have l0:=f1.out j
     have z1:=hS'.out a hmem
     replace hc:=cup.out hc
     have hX:Hid (bs (B1++flat (listL 2) (al.take j))++(⟨#[32,32,32,32]⟩:ByteArray)++a++(⟨#[59,10]⟩:ByteArray) = bs (B1++flat (listL 2) (al.take (j + 1)))):=Lib.hid (by
      rw [← flat_more ha rfl]
      unfold listL
      apply ByteArray.ext
      simp [padB])
     have d0:=fun y=>(hc.plus y).c0 _ rfl
     simp only [Nat.mul_one] at d0
     obtain ⟨T0,hT0⟩:∃ T,bs (B1++flat (listL 2) (al.take j)) = T:=⟨_,rfl⟩
     rw [hT0] at l0 hX ⊢
     clear hT0 hc hmem ha
     go_wp2
     go_roundw
     case rel=>exact ⟨j + 1,hlt_j,congrArg (Value.int .i64) a_j.out,congrArg Value.string hX.out,_,rfl⟩
     case measure=>exact step_less j o hlt_j a_j.out
    ·obtain rfl:j = o:=by omega
     rw [all_taken hn_o'.out]
     have l0:=f1.out j
     rw [all_taken hn_o'.out] at l0
     have e2:=Lib.hid e2.out
     obtain ⟨T0,hT0⟩:∃ T,bs (B1++flat (listL 2) al) = T:=⟨_,rfl⟩
     rw [hT0] at l0 e2 ⊢
     clear hlt_j hj hS' r_o' f1 hT0
     go_upto_region 14 with (fail)
     rw [e2.out]
     clear e2 l0
     go_loopw [4,7] (fun sv iv wr=>∃ i:Nat,i ≤ q ∧ iv = .int .i64 (i:Int) ∧ sv = .string (bs (B2++rowB (Lt.tx) (gl.take i))) ∧ ∃ y,wr = plus W y) (fun _ iv _=>q - (intOf iv).toNat)
     case atStart=>exact ⟨0,Nat.zero_le _,rfl,congrArg Value.string hX2'.out,_,rfl⟩
     case round =>
      obtain ⟨i,hi,rfl,rfl,y,rfl⟩:=hrel
      by_cases hlt_i:i < q
      ·obtain ⟨a,ha⟩:∃ s,gl[i]? = some s:=⟨gl[i]'(by rw [hn_q'.out];exact hlt_i),List.getElem?_eq_getElem _⟩
       obtain ⟨pa,rfl,hc⟩:=r_q'.out i a ha
       have hmem:=List.mem_of_getElem? ha
       have a_i:=Lib.hid (wr_succ i q hlt_i ln_q'.out)
       have l0:=f2.out i
       obtain ⟨hL1,hL2⟩:=hL'.out a hmem
       have hL3:=up.out hL1
       replace hc:=cup.out hc
       have s0:=fun h=>row_more0 (f:=Lt.tx) (l:=gl) (B:=B2) (x:=a) h rfl
       have s1:=fun hk=>row_morek (f:=Lt.tx) (l:=gl) (B:=B2) (k:=i) hk ha rfl
       obtain ⟨aw,ah,al'⟩:=a
       simp only [Lt.cells] at hc hL3
       generalize (Lt.mk aw ah al').tx = E at hL2 hL3 s0 s1
       have hc':=Lib.hid hc
       obtain ⟨E',hEE⟩:∃ E',bs E = E':=⟨_,rfl⟩
       rw [hEE] at hL3
       simp only [hEE] at s0 s1
       have l1:E'.size ≤ 61:=by rw [← hEE];exact hL2
       have ec:=Lib.hid hL3
       have s0':=Lib.hid s0
       have s1':=Lib.hid s1
       clear hL1 hL2 hL3 hc hEE hmem s0 s1
       by_cases h0:i = 0
       ·subst h0
        have hc0:=hc'.out
        rw [add_zero_mul] at hc0
        have d0:=fun y=>(hc0.plus y).c0 _ rfl
        have d1:=fun y=>(hc0.plus y).cs 0 _ rfl
        have d2:=fun y=>(hc0.plus y).cs 1 _ rfl
        have hX:=Lib.hid (s0'.out ha)
        obtain ⟨T0,hT0⟩:∃ T,bs (B2++rowB Lt.tx (gl.take 0)) = T:=⟨_,rfl⟩
        rw [hT0] at l0 hX ⊢
        clear hc0 hc' ha hT0 s0' s1'
        go_wp2_with (first | (go_at_call 8;with_reducible refine (ec.out _).mono ?_;rintro r w' ⟨rfl,x,rfl⟩))
        go_roundw
        case rel=>exact ⟨0 + 1,hlt_i,rfl,congrArg Value.string hX.out,_,rfl⟩
        case measure=>first | exact step_less 0 q hlt_i a_i.out | (show q - 1 < q - 0;omega)
       ·have h1:0 < i:=Nat.pos_of_ne_zero h0
        have hc0:=hc'.out
        have d0:=fun y=>(hc0.plus y).c0 _ rfl
        have d1:=fun y=>(hc0.plus y).cs 0 _ rfl
        have d2:=fun y=>(hc0.plus y).cs 1 _ rfl
        have hX:=Lib.hid (s1'.out h1)
        obtain ⟨T0,hT0⟩:∃ T,bs (B2++rowB Lt.tx (gl.take i)) = T:=⟨_,rfl⟩
        rw [hT0] at l0 hX ⊢
        clear hc0 hc' ha hT0 s0' s1' h0
        go_wp2_with (first | (go_at_call 8;with_reducible refine (ec.out _).mono ?_;rintro r w' ⟨rfl,x,rfl⟩))
        go_roundw
        case rel=>exact ⟨i + 1,hlt_i,congrArg (Value.int .i64) a_i.out,congrArg Value.string hX.out,_,rfl⟩
        case measure=>exact step_less i q hlt_i a_i.out
      ·obtain rfl:i = q:=by omega
       rw [all_taken hn_q'.out]
       have l0:=f2.out i
       rw [all_taken hn_q'.out] at l0
       have e3:=Lib.hid e3.out
       obtain ⟨T0,hT0⟩:∃ T,bs (B2++rowB Lt.tx gl) = T:=⟨_,rfl⟩
       rw [hT0] at l0 e3 ⊢
       clear hlt_i hi hL' r_q' f2 hT0
       go_wp2
       go_ret
       exact ⟨congrArg (fun q=>Ending.returned (Value.string q)) e3.out,by rw [hz2.out,plus_plus];exact ⟨_,rfl⟩⟩
end Go.Proofs.YtbelaghcmgefaaaGreatDoor
