/-
  WHAT IS PROVED HERE: a part of the proof (made narrower and merged by program; the parts: HF).
-/
import Derived.Deep.RegionWith
import Derived.Test.YtobhijbncchpiaaGreatM11
namespace Go.Proofs.YtobhijbncchpiaaGreat
open Go.RowKit
def fv_may (fb c:Nat):Value:=.func (.func 186) #[] #[.pointer (some ⟨fb,0,none⟩),.pointer (some ⟨c,0,none⟩)]
set_option maxRecDepth 100000 in
set_option maxHeartbeats 8000000 in
theorem inner_of (a0:Int) (a1:Int) (a2:Int) (a3:Int) (a4:ByteArray) (a5:ByteArray) (a6:Int) (a7:Int) (a8p:Option Addr) (a8n:Nat) (a8c:Nat) (c rc fb:Nat) (k r:Int) (s0:Bool) (w:World) (hc:w.cell? ⟨c,0,none⟩=some (.func (.func 186) #[] #[.pointer (some ⟨fb,0,none⟩),.pointer (some ⟨c,0,none⟩)])) (hr:w.cell? ⟨rc,0,none⟩=some (.int .i64 k)) (hk:wrap64 (k - 1)=r)
  (h0:Kp Tryz.prog w 186 #[.agg #[.int .u8 a0,.int .i64 a1,.int .u64 a2,.int .u64 a3,.string a4,.string a5,.int .i64 a6,.int .i64 a7,.slice a8p a8n a8c],.int .i64 r,.pointer (some ⟨fb,0,none⟩),.pointer (some ⟨c,0,none⟩)] (.bool s0)) :
  Kp Tryz.prog w 189 #[.agg #[.int .u8 a0,.int .i64 a1,.int .u64 a2,.int .u64 a3,.string a4,.string a5,.int .i64 a6,.int .i64 a7,.slice a8p a8n a8c],.pointer (some ⟨c,0,none⟩),.pointer (some ⟨rc,0,none⟩)] (.bool (s0)):=by
 intro y0
 have h0:=h0.up y0
 have hc:=cell_keep hc y0
 have hr:=cell_keep hr y0
 obtain⟨V,hV⟩:∃ V,plus w y0=V:=⟨_,rfl⟩
 rw [hV] at h0 hc hr ⊢
 clear hV
 have hc2:=fun a=>cell_alloc hc a
 have hr2:=fun a=>cell_alloc hr a
 obtain⟨R,hR⟩:∃ R,(s0)=R:=⟨_,rfl⟩
 rw [hR]
 have hF:=Lib.hid (show (s0)=R by first | exact hR|(rw [← hR];simp))
 clear hR
 have h0:=Lib.hid h0
 go_enter Tryz.func189,Tryz.ntmps189
 go_wp2_with fail
 obtain⟨W,yy,hW,⟨z,hz⟩,cb0⟩:=box1n V _ 45
 rw [hW]
 have c0_0:=cb0 0 _ rfl
 have c0_1:=cb0 1 _ rfl
 have c0_2:=cb0 2 _ rfl
 have c0_3:=cb0 3 _ rfl
 have c0_4:=cb0 4 _ rfl
 have c0_5:=cb0 5 _ rfl
 have c0_6:=cb0 6 _ rfl
 have c0_7:=cb0 7 _ rfl
 have c0_8:=cb0 8 _ rfl
 have q0c:=Lib.hid (kp_at hz h0.out)
 have hz':=Lib.hid hz
 clear hW hz cb0
 refine (q0c.out _).mono ?_
 rintro r w' ⟨rfl,x1,rfl⟩
 go_wp2_with fail
 go_ret
 exact⟨rb hF.out,pp hz'.out⟩
theorem alloc3_plus (V:World) (a b d:Obj):∃ x,((V.alloc a).alloc b).alloc d=plus V x:=by
 obtain⟨x,hx⟩:=alloc2_plus V a b
 rw [hx]
 exact plus_alloc1 V x d
theorem box3n (V:World) (c d e:Array Value) (t u s:TypeId):∃ W y,((V.alloc (.cells c t)).alloc (.cells d u)).alloc (.cells e s)=plus W y∧(∃ z,W=plus V z)∧(∀ o v,c[o]?=v→∀ y,(plus W y).cell? ⟨V.heap.size,o,none⟩=v)∧(∀ o v,d[o]?=v→∀ y,(plus W y).cell? ⟨V.heap.size+1,o,none⟩=v)∧(∀ o v,e[o]?=v→∀ y,(plus W y).cell? ⟨V.heap.size+1+1,o,none⟩=v):=by
 obtain⟨W,hW,hB,hs,ca,cb,cc,_,_,_⟩:=box3 V c d e t u s
 exact⟨W,⟨#[],W.drawn⟩,by rw [plus_self,hW],plus_of_below hB,ca,cb,cc⟩
set_option maxRecDepth 100000 in
set_option maxHeartbeats 8000000 in
theorem may_none (a0:Int) (a1:Int) (a2:Int) (a3:Int) (a4:ByteArray) (a5:ByteArray) (a6:Int) (a7:Int) (a8p:Option Addr) (a8n:Nat) (a8c:Nat) (fl fs fx is:Bool) (fh fn fa k:Int) (fb c m:Nat) (w:World) (hf:w.cell? ⟨fb,0,none⟩=some (.map (some m))) (hL:∀ W z,W=plus w z→(Instr.lookup 113 (.map (some m)) (.int .u8 a0) true).run Tryz.prog W=.ok (.tuple #[.agg #[.bool fl,.bool fs,.int .u8 fh,.int .u8 fn,.int .i64 fa,.bool fx],.bool is]) W) (hk:¬ 0 < k) :
  Kp Tryz.prog w 186 #[.agg #[.int .u8 a0,.int .i64 a1,.int .u64 a2,.int .u64 a3,.string a4,.string a5,.int .i64 a6,.int .i64 a7,.slice a8p a8n a8c],.int .i64 k,.pointer (some ⟨fb,0,none⟩),.pointer (some ⟨c,0,none⟩)] (.bool (false)):=by
 intro y0
 have hf:=cell_keep hf y0
 have hL:∀ W z,W=plus (plus w y0) z→(Instr.lookup 113 (.map (some m)) (.int .u8 a0) true).run Tryz.prog W=.ok (.tuple #[.agg #[.bool fl,.bool fs,.int .u8 fh,.int .u8 fn,.int .i64 fa,.bool fx],.bool is]) W:=fun W z hW=>hL W _ (hW.trans (plus_plus _ _ _))
 obtain⟨V,hV⟩:∃ V,plus w y0=V:=⟨_,rfl⟩
 rw [hV] at hf hL ⊢
 clear hV
 have hf2:=fun a b=>cell_alloc (cell_alloc hf a) b
 have hL2:∀ a b,(Instr.lookup 113 (.map (some m)) (.int .u8 a0) true).run Tryz.prog ((V.alloc a).alloc b)=.ok (.tuple #[.agg #[.bool fl,.bool fs,.int .u8 fh,.int .u8 fn,.int .i64 fa,.bool fx],.bool is]) ((V.alloc a).alloc b):=fun a b=>by
  obtain⟨x,hx⟩:=alloc2_plus V a b
  exact hL _ x hx
 have hmf:∀ (fn:Fn) (first cap:Array Value) (w:World),(Instr.makeFunc fn first cap).run Tryz.prog w=.ok (.func fn first cap) w:=fun _ _ _ _=>rfl
 clear hL hf
 cases is
 case false =>
  go_enter Tryz.func186,Tryz.ntmps186
  go_wp2_with fail
  go_ret
  exact⟨rfl,alloc3_plus _ _ _ _⟩
 case true =>
  go_enter Tryz.func186,Tryz.ntmps186
  go_wp2_with fail
  go_ret
  exact⟨rfl,alloc3_plus _ _ _ _⟩
set_option maxRecDepth 100000 in
set_option maxHeartbeats 8000000 in
theorem may_some (a0:Int) (a1:Int) (a2:Int) (a3:Int) (a4:ByteArray) (a5:ByteArray) (a6:Int) (a7:Int) (a8p:Option Addr) (a8n:Nat) (a8c:Nat) (fl fs fx is:Bool) (fh fn fa k:Int) (fb c m:Nat) (s0 s1:Bool) (w:World) (hf:w.cell? ⟨fb,0,none⟩=some (.map (some m))) (hL:∀ W z,W=plus w z→(Instr.lookup 113 (.map (some m)) (.int .u8 a0) true).run Tryz.prog W=.ok (.tuple #[.agg #[.bool fl,.bool fs,.int .u8 fh,.int .u8 fn,.int .i64 fa,.bool fx],.bool is]) W) (hk:0 < k)
  (h0:Kp Tryz.prog w 187 #[.agg #[.bool fl,.bool fs,.int .u8 fh,.int .u8 fn,.int .i64 fa,.bool fx],.agg #[.int .u8 a0,.int .i64 a1,.int .u64 a2,.int .u64 a3,.string a4,.string a5,.int .i64 a6,.int .i64 a7,.slice a8p a8n a8c]] (.bool s0))
  (hE:∀ W z rc,W=plus w z→W.cell? ⟨rc,0,none⟩=some (.int .i64 k)→Kp Tryz.prog W 188 #[.slice a8p a8n a8c,.int .i64 fa,.int .i64 fa,.func (.func 189) #[] #[.pointer (some ⟨c,0,none⟩),.pointer (some ⟨rc,0,none⟩)]] (.bool s1)) :
  Kp Tryz.prog w 186 #[.agg #[.int .u8 a0,.int .i64 a1,.int .u64 a2,.int .u64 a3,.string a4,.string a5,.int .i64 a6,.int .i64 a7,.slice a8p a8n a8c],.int .i64 k,.pointer (some ⟨fb,0,none⟩),.pointer (some ⟨c,0,none⟩)] (.bool (is && (s0 && s1))):=by
 intro y0
 have h0:=h0.up y0
 have hE:∀ W z rc,W=plus (plus w y0) z→W.cell? ⟨rc,0,none⟩=some (.int .i64 k)→Kp Tryz.prog W 188 #[.slice a8p a8n a8c,.int .i64 fa,.int .i64 fa,.func (.func 189) #[] #[.pointer (some ⟨c,0,none⟩),.pointer (some ⟨rc,0,none⟩)]] (.bool s1):=fun W z rc hW=>hE W _ rc (hW.trans (plus_plus _ _ _))
 have hf:=cell_keep hf y0
 have hL:∀ W z,W=plus (plus w y0) z→(Instr.lookup 113 (.map (some m)) (.int .u8 a0) true).run Tryz.prog W=.ok (.tuple #[.agg #[.bool fl,.bool fs,.int .u8 fh,.int .u8 fn,.int .i64 fa,.bool fx],.bool is]) W:=fun W z hW=>hL W _ (hW.trans (plus_plus _ _ _))
 obtain⟨V,hV⟩:∃ V,plus w y0=V:=⟨_,rfl⟩
 rw [hV] at h0 hE hf hL ⊢
 clear hV
 have hf2:=fun a b=>cell_alloc (cell_alloc hf a) b
 have hL2:∀ a b,(Instr.lookup 113 (.map (some m)) (.int .u8 a0) true).run Tryz.prog ((V.alloc a).alloc b)=.ok (.tuple #[.agg #[.bool fl,.bool fs,.int .u8 fh,.int .u8 fn,.int .i64 fa,.bool fx],.bool is]) ((V.alloc a).alloc b):=fun a b=>by
  obtain⟨x,hx⟩:=alloc2_plus V a b
  exact hL _ x hx
 have hmf:∀ (fn:Fn) (first cap:Array Value) (w:World),(Instr.makeFunc fn first cap).run Tryz.prog w=.ok (.func fn first cap) w:=fun _ _ _ _=>rfl
 clear hL hf
 cases is
 case false =>
  clear h0 hE
  go_enter Tryz.func186,Tryz.ntmps186
  go_wp2_with fail
  go_ret
  exact⟨rfl,alloc3_plus _ _ _ _⟩
 case true =>
  cases s0
  case false =>
   have h0:=Lib.hid h0
   have hE:=Lib.hid hE
   go_enter Tryz.func186,Tryz.ntmps186
   go_wp2_with fail
   obtain⟨W,yy,hW,⟨z,hz⟩,ca,cb,cc⟩:=box3n V _ _ _ 45 3 215
   rw [hW]
   have ca0:=ca 0 _ rfl
   have ca1:=ca 1 _ rfl
   have ca2:=ca 2 _ rfl
   have ca3:=ca 3 _ rfl
   have ca4:=ca 4 _ rfl
   have ca5:=ca 5 _ rfl
   have ca6:=ca 6 _ rfl
   have ca7:=ca 7 _ rfl
   have ca8:=ca 8 _ rfl
   have cb0:=cb 0 _ rfl
   have cc0:=cc 0 _ rfl
   have cc1:=cc 1 _ rfl
   have cc2:=cc 2 _ rfl
   have cc3:=cc 3 _ rfl
   have cc4:=cc 4 _ rfl
   have cc5:=cc 5 _ rfl
   have q0:=Lib.hid (kp_at hz h0.out)
   have cbW:=cb0 ⟨#[],W.drawn⟩
   rw [plus_self] at cbW
   have q1:=Lib.hid (hE.out W z _ hz cbW).pure
   have hz':=Lib.hid hz
   clear hW hz ca cb cc cbW h0 hE
   refine (q0.out _).mono ?_
   rintro r w' ⟨rfl,x1,rfl⟩
   go_wp2_with fail
   go_ret
   exact⟨rfl,pp hz'.out⟩
  case true =>
   have h0:=Lib.hid h0
   have hE:=Lib.hid hE
   go_enter Tryz.func186,Tryz.ntmps186
   go_wp2_with fail
   obtain⟨W,yy,hW,⟨z,hz⟩,ca,cb,cc⟩:=box3n V _ _ _ 45 3 215
   rw [hW]
   have ca0:=ca 0 _ rfl
   have ca1:=ca 1 _ rfl
   have ca2:=ca 2 _ rfl
   have ca3:=ca 3 _ rfl
   have ca4:=ca 4 _ rfl
   have ca5:=ca 5 _ rfl
   have ca6:=ca 6 _ rfl
   have ca7:=ca 7 _ rfl
   have ca8:=ca 8 _ rfl
   have cb0:=cb 0 _ rfl
   have cc0:=cc 0 _ rfl
   have cc1:=cc 1 _ rfl
   have cc2:=cc 2 _ rfl
   have cc3:=cc 3 _ rfl
   have cc4:=cc 4 _ rfl
   have cc5:=cc 5 _ rfl
   have q0:=Lib.hid (kp_at hz h0.out)
   have cbW:=cb0 ⟨#[],W.drawn⟩
   rw [plus_self] at cbW
   have q1:=Lib.hid (hE.out W z _ hz cbW).pure
   have hz':=Lib.hid hz
   clear hW hz ca cb cc cbW h0 hE
   refine (q0.out _).mono ?_
   rintro r w' ⟨rfl,x1,rfl⟩
   go_wp2_with (go_at_call 188;with_reducible refine (q1.out _).mono ?_;rintro r w' ⟨rfl,x,rfl⟩)
   go_ret
   exact⟨rfl,pp hz'.out⟩
theorem getIn_range (z:Value) (f:Int→Value) (i:Int):∀ (n s:Nat),getIn z i ((List.range' s n).map fun (j:Nat)=>(⟨.int .u8 ((j:Int)+1),f ((j:Int)+1),j⟩:MapEntry))=if (s:Int)+1≤i∧i≤(s:Int)+n then (f i,true) else (z,false)
 | 0,s=>by rw [if_neg (by omega)];rfl
 | n+1,s=>by
  rw [List.range'_succ,List.map_cons,getIn]
  simp only
  cases hi:(i == (s:Int)+1) with
  | true =>
   rw [beq_iff_eq] at hi
   rw [if_pos rfl,if_pos (by omega),hi]
  | false =>
   have hi:¬ i=(s:Int)+1:=by simpa using hi
   rw [if_neg (by simp),getIn_range z f i n (s+1)]
   by_cases h:(s:Int)+1≤i∧i≤(s:Int)+(n+1:Nat)
   ·rw [if_pos h,if_pos (by omega)]
   ·rw [if_neg h,if_neg (by omega)]
theorem keys_range (f:Int→Value) (n:Nat):u8Keys (((List.range n).map fun (j:Nat)=>(⟨.int .u8 ((j:Int)+1),f ((j:Int)+1),j⟩:MapEntry)).toArray).toList:=by
 intro e he
 simp only [List.mem_map] at he
 obtain⟨j,_,rfl⟩:=he
 exact⟨_,rfl⟩
theorem getIn_upto (z:Value) (f:Int→Value) (i:Int) (n:Nat):getIn z i (((List.range n).map fun (j:Nat)=>(⟨.int .u8 ((j:Int)+1),f ((j:Int)+1),j⟩:MapEntry)).toArray).toList=if 1≤i∧i≤n then (f i,true) else (z,false):=by
 have:=getIn_range z f i n 0
 rw [← List.range_eq_range'] at this
 simpa using this
theorem xVal_none {op:Int} (h:¬ (1≤op∧op≤26)):xVal op=.agg #[.bool false,.bool false,.int .u8 0,.int .u8 0,.int .i64 0,.bool false]:=by
 have e1:xLit op=false:=by unfold xLit;simp;omega
 have e2:xSlice op=false:=by unfold xSlice;simp;omega
 have e3:xHead op=0:=by unfold xHead;rw [if_neg (by omega)]
 have e4:xName op=0:=by unfold xName;rw [if_neg (by omega)]
 have e5:xArgs op=0:=by unfold xArgs;rw [if_neg (by omega),if_neg (by omega)]
 have e6:xShift op=false:=by unfold xShift;simp;omega
 unfold xVal
 rw [e1,e2,e3,e4,e5,e6]
theorem sVal_none {k:Int} (h:¬ (1≤k∧k≤3)):sVal k=.agg #[.bool false,.bool false]:=by
 have e1:sV k=false:=by unfold sV;simp;omega
 have e2:sM k=false:=by unfold sM;simp;omega
 unfold sVal
 rw [e1,e2]
theorem tVal_none {k:Int} (h:¬ (1≤k∧k≤7)):tVal k=.agg #[.int .u8 0,.int .u8 0,.bool false,.bool false]:=by
 have e1:tHead k=0:=by unfold tHead;rw [if_neg (by omega),if_neg (by omega)]
 have e2:tName k=0:=by unfold tName;rw [if_neg (by omega)]
 have e3:tExpr k=false:=by unfold tExpr;simp;omega
 have e4:tBlocks k=false:=by unfold tBlocks;simp;omega
 unfold tVal
 rw [e1,e2,e3,e4]
theorem look_x (w:World) (m:Nat) (h:MapAt w m (esX 26)) (op:Int):(Instr.lookup 113 (.map (some m)) (.int .u8 op) true).run Tryz.prog w=.ok (.tuple #[xVal op,.bool (xIs op)]) w:=by
 have hz:(zeroValue 215).run Tryz.prog w=.ok (.agg #[.bool false,.bool false,.int .u8 0,.int .u8 0,.int .i64 0,.bool false]) w:=by kernel_rfl
 have:=look_u8 Tryz.underlying113 Tryz.underlying5 hz h (keys_range xVal 26) op
 rw [this]
 unfold esX xIs
 rw [getIn_upto]
 by_cases h1:1≤op∧op≤((26:Nat):Int)
 ·rw [if_pos h1,decide_eq_true (by omega)]
 ·rw [if_neg h1,decide_eq_false (by omega),xVal_none (by omega)]
theorem look_s (w:World) (m:Nat) (h:MapAt w m (esS 3)) (k:Int):(Instr.lookup 114 (.map (some m)) (.int .u8 k) true).run Tryz.prog w=.ok (.tuple #[sVal k,.bool (sIs k)]) w:=by
 have hz:(zeroValue 219).run Tryz.prog w=.ok (.agg #[.bool false,.bool false]) w:=by kernel_rfl
 have:=look_u8 Tryz.underlying114 Tryz.underlying5 hz h (keys_range sVal 3) k
 rw [this]
 unfold esS sIs
 rw [getIn_upto]
 by_cases h1:1≤k∧k≤((3:Nat):Int)
 ·rw [if_pos h1,decide_eq_true (by omega)]
 ·rw [if_neg h1,decide_eq_false (by omega),sVal_none (by omega)]
theorem look_t (w:World) (m:Nat) (h:MapAt w m (esT 7)) (k:Int):(Instr.lookup 115 (.map (some m)) (.int .u8 k) true).run Tryz.prog w=.ok (.tuple #[tVal k,.bool (tIs k)]) w:=by
 have hz:(zeroValue 221).run Tryz.prog w=.ok (.agg #[.int .u8 0,.int .u8 0,.bool false,.bool false]) w:=by kernel_rfl
 have:=look_u8 Tryz.underlying115 Tryz.underlying5 hz h (keys_range tVal 7) k
 rw [this]
 unfold esT tIs
 rw [getIn_upto]
 by_cases h1:1≤k∧k≤((7:Nat):Int)
 ·rw [if_pos h1,decide_eq_true (by omega)]
 ·rw [if_neg h1,decide_eq_false (by omega),tVal_none (by omega)]
theorem may1:∀ (n:Nat),n≤16→∀ (e:Ex) (w:World) (fb c m:Nat),e.In w→e.wt≤1048576→w.cell? ⟨fb,0,none⟩=some (.map (some m))→MapAt w m (esX 26)→w.cell? ⟨c,0,none⟩=some (fv_may fb c) →
  Kp Tryz.prog w 186 #[e.val,.int .i64 (n:Int),.pointer (some ⟨fb,0,none⟩),.pointer (some ⟨c,0,none⟩)] (.bool (Ex.may n e))
 | 0,_,e,w,fb,c,m,hin,hz,hf,hm,hc =>
  may_none e.op e.lit.w e.lit.h e.lit.l e.head e.name e.hi e.lo e.p e.args.length e.cap _ _ _ _ _ _ _ 0 fb c m w hf (fun W z hW=>look_x W m (hW ▸ hm.plus z) e.op) (by omega)
 | n+1,hn,e,w,fb,c,m,hin,hz,hf,hm,hc=>by
  have hin':=hin
  obtain⟨_,_,_,_,_,_,_,len,cap,row,kids⟩:=hin'
  have e1:=Ex.wt_eq e
  refine may_some e.op e.lit.w e.lit.h e.lit.l e.head e.name e.hi e.lo e.p e.args.length e.cap _ _ _ _ _ _ _ ((n+1:Nat):Int) fb c m _ _ w hf (fun W z hW=>look_x W m (hW ▸ hm.plus z) e.op) (by omega) (fits_in e w hin hz) ?_
  intro W z rc hW hr
  have hl:e.args.length≤1048576:=by have:=length_le_sum Ex.wt Ex.wt_pos e.args;omega
  have hA:Sl.In W 9 Ex.cells (Ex.In W) ⟨e.p,e.cap,e.args⟩:=hW ▸ Sl.In.plus (s:=⟨e.p,e.cap,e.args⟩) ⟨len,cap,row,kids⟩ (fun _ a=>a.plus z) z
  have hc':W.cell? ⟨c,0,none⟩=some (fv_may fb c):=hW ▸ cell_keep hc z
  have hf':W.cell? ⟨fb,0,none⟩=some (.map (some m)):=hW ▸ cell_keep hf z
  have hm':MapAt W m (esX 26):=hW ▸ hm.plus z
  exact each_Expr Ex.cells shp_ex (Ex.may n) 189 #[] #[.pointer (some ⟨c,0,none⟩),.pointer (some ⟨rc,0,none⟩)] (Ex.In W) W ⟨e.p,e.cap,e.args⟩ _ _ hA hl (enters_of Tryz.func189 (by kernel_rfl) rfl)
   (fun x hx=>inner_of x.op x.lit.w x.lit.h x.lit.l x.head x.name x.hi x.lo x.p x.args.length x.cap c rc fb ((n+1:Nat):Int) (n:Int) _ W hc' hr (by rw [wr_in _ (by omega)];omega)
    (may1 n (by omega) x W fb c m (hA.kids x hx) (Nat.le_trans (le_sum_of Ex.wt e.args x hx) (by omega)) hf' hm' hc'))
theorem clo3f (V:World) (c d:Array Value) (v:Value) (t u s:TypeId):∃ W,((V.alloc (.cells c t)).alloc (.cells d u)).alloc (.cells #[v] s)=W∧(∃ z,W=plus V z)∧(∀ x,c[0]?=some x→W.cell? ⟨V.heap.size,0,none⟩=some x)∧W.cell? ⟨V.heap.size+1+1,0,none⟩=some v:=by
 obtain⟨W,y,hW,⟨z,hz⟩,ca,cb,cc⟩:=box3n V c d #[v] t u s
 refine⟨_,hW,⟨_,by rw [hz,plus_plus]⟩,fun x hx=>ca 0 _ hx y,cc 0 _ rfl y⟩
set_option maxRecDepth 100000 in
set_option maxHeartbeats 8000000 in
theorem ast_expr (e:Ex) (m:Nat) (o2 o3:Option Nat) (w:World) (he:e.In w) (hz:e.wt≤1048576) (hm:MapAt w m (esX 26)):Kp Tryz.prog w 124 #[.agg #[.map (some m),.map o2,.map o3],.agg e.cells.toArray] (.bool (Ex.may 16 e)):=by
 intro y0
 have he:=he.plus y0
 have hm:=hm.plus y0
 obtain⟨V,hV⟩:∃ V,plus w y0=V:=⟨_,rfl⟩
 rw [hV] at he hm ⊢
 clear hV
 have hq:=fun (W:World) (fb c:Nat) (z:Ext) (h:W=plus V z) (hf:W.cell? ⟨fb,0,none⟩=some (.map (some m))) (hc:W.cell? ⟨c,0,none⟩=some (fv_may fb c))=>calls_self (may1 16 (Nat.le_refl _) e W fb c m (h ▸ he.plus z) hz hf (h ▸ hm.plus z) hc)
 obtain⟨S,hS⟩:∃ S,Ex.may 16 e=S:=⟨_,rfl⟩
 rw [hS] at hq ⊢
 clear hS he hm hz
 obtain⟨op,⟨lw,lh,ll⟩,hd,nm,eh,el,p,cap,args⟩:=e
 have hq:∀ (W:World) (fb c:Nat) (z:Ext),W=plus V z→W.cell? ⟨fb,0,none⟩=some (.map (some m))→W.cell? ⟨c,0,none⟩=some (fv_may fb c)→Calls Tryz.prog 186 #[.agg #[.int .u8 op,.int .i64 lw,.int .u64 lh,.int .u64 ll,.string hd,.string nm,.int .i64 eh,.int .i64 el,.slice p args.length cap],.int .i64 16,.pointer (some ⟨fb,0,none⟩),.pointer (some ⟨c,0,none⟩)] W fun e w'=>e=.returned (.bool S)∧∃ x,w'=plus W x:=hq
 show Calls Tryz.prog 124 #[.agg #[.map (some m),.map o2,.map o3],.agg #[.int .u8 op,.int .i64 lw,.int .u64 lh,.int .u64 ll,.string hd,.string nm,.int .i64 eh,.int .i64 el,.slice p args.length cap]] V _
 generalize args.length=n1 at hq ⊢
 have hq':=Lib.hid hq
 clear hq
 have hmf:∀ (fn:Fn) (first cap:Array Value) (w:World),(Instr.makeFunc fn first cap).run Tryz.prog w=.ok (.func fn first cap) w:=fun _ _ _ _=>rfl
 go_enter Tryz.func124,Tryz.ntmps124
 go_wp2_with fail
 obtain⟨W,hW,⟨z,hz⟩,hf,hc⟩:=clo3f V _ _ _ _ _ _
 rw [hW]
 have hz':=Lib.hid hz
 refine (hq'.out W _ _ z hz (hf _ rfl) hc).mono ?_
 clear hW hz hc hf
 rintro r w' ⟨rfl,x,rfl⟩
 go_wp2
 go_ret
 exact⟨rfl,pp hz'.out⟩
theorem wX_plus (V:World):∃ x,wX V 26=plus V x:=alloc1_plus V _
theorem wX_map (V:World):MapAt (wX V 26) V.heap.size (esX 26):=⟨26,by show (V.heap.push _)[V.heap.size]?=_;simp⟩
theorem X_after {W w1 w':World} (h:∃ y,w1=plus W y) (hw:w'=wX w1 26):∃ x,w'=plus W x∧MapAt w' w1.heap.size (esX 26):=by
 obtain⟨y,rfl⟩:=h
 subst hw
 obtain⟨x,hx⟩:=wX_plus (plus W y)
 exact⟨_,hx.trans (plus_plus _ _ _),wX_map _⟩
theorem drew_plus (W:World) (y:Ext):∃ z,(plus W y).drew=plus W z:=⟨⟨y.blocks,y.draws+1⟩,rfl⟩
set_option maxRecDepth 100000 in
set_option maxHeartbeats 8000000 in
theorem ast_mayExpr (e:Ex) (w:World) (he:e.In w) (hz:e.wt≤1048576):Kp Tryz.prog w 46 #[.agg e.cells.toArray] (.bool (Ex.may 16 e)):=by
 intro y0
 have he:=he.plus y0
 obtain⟨V,hV⟩:∃ V,plus w y0=V:=⟨_,rfl⟩
 rw [hV] at he ⊢
 clear hV
 have hin:=fun (W:World) (h:∃ z,W=plus V z)=>show e.In W by
  obtain⟨z,hz⟩:=h
  exact hz ▸ he.plus z
 have hq:=fun (W:World) (m:Nat) (h:∃ z,W=plus V z) (hm:MapAt W m (esX 26))=>calls_self (ast_expr e m none none W (hin W h) hz hm)
 obtain⟨S,hS⟩:∃ S,Ex.may 16 e=S:=⟨_,rfl⟩
 rw [hS] at hq ⊢
 clear hS he hz hin
 obtain⟨op,⟨lw,lh,ll⟩,hd,nm,eh,el,p,cap,args⟩:=e
 have hq:∀ (W:World) (m:Nat),(∃ z,W=plus V z)→MapAt W m (esX 26)→Calls Tryz.prog 124 #[.agg #[.map (some m),.map none,.map none],.agg #[.int .u8 op,.int .i64 lw,.int .u64 lh,.int .u64 ll,.string hd,.string nm,.int .i64 eh,.int .i64 el,.slice p args.length cap]] W fun e w'=>e=.returned (.bool S)∧∃ x,w'=plus W x:=hq
 show Calls Tryz.prog 46 #[.agg #[.int .u8 op,.int .i64 lw,.int .u64 lh,.int .u64 ll,.string hd,.string nm,.int .i64 eh,.int .i64 el,.slice p args.length cap]] V _
 generalize args.length=n1 at hq ⊢
 have hq':=Lib.hid hq
 clear hq
 go_enter Tryz.func46,Tryz.ntmps46
 go_wp2
 obtain⟨W,yy,hW,⟨z,hz⟩,ca⟩:=box1n V _ 45
 rw [hW]
 have ca0:=ca 0 _ rfl
 have ca1:=ca 1 _ rfl
 have ca2:=ca 2 _ rfl
 have ca3:=ca 3 _ rfl
 have ca4:=ca 4 _ rfl
 have ca5:=ca 5 _ rfl
 have ca6:=ca 6 _ rfl
 have ca7:=ca 7 _ rfl
 have ca8:=ca 8 _ rfl
 clear hW ca
 have hz':=Lib.hid hz
 clear hz
 go_region_with (first|(go_at_call 123;refine (forms_X _).mono ?_;rintro r w' ⟨rfl,hw⟩;obtain⟨x,rfl,hm⟩:=X_after (drew_plus W yy) hw;clear hw)|(go_at_call 124;refine (hq'.out _ _ ⟨_,by rw [hz'.out,plus_plus]⟩ (by assumption)).mono ?_;rintro r w' ⟨rfl,x2,rfl⟩))
 all_goals
  go_wp2
  go_ret
  exact⟨rfl,by rw [hz'.out,plus_plus,plus_plus];exact⟨_,rfl⟩⟩
end Go.Proofs.YtobhijbncchpiaaGreat
