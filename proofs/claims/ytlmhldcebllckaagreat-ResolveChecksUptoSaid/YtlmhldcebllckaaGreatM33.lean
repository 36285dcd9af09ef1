/-
  WHAT IS PROVED HERE: a part of the proof (made narrower and merged by program; the parts: He HF).
-/
import Derived.Test.YtlmhldcebllckaaGreatRows
import Derived.WalkKit
import Derived.Lib.Hide
import Derived.WalkSpells
import Derived.WalkLawsBesides
import Derived.Laws.EntriesVeiled
import Derived.Shelf.Abstract
import Derived.Deep.RegionWith
import Derived.Test.YtlmhldcebllckaaGreatM30
import Derived.Test.YtlmhldcebllckaaGreatM31
import Derived.Test.YtlmhldcebllckaaGreatM32
import Derived.Test.YtlmhldcebllckaaGreatM6
namespace Go.Proofs.YtlmhldcebllckaaGreat
open Go.RowKit
theorem Kp.all {P:Program} {w:World} {f:FuncId} {args:Array Value} {v:Value} (h:Pure P f args v):Kp P w f args v:=fun _=>h _
def Lt.n (t:Lt):Nat:=t.h.toNat * 18446744073709551616 + t.l.toNat
theorem wf_u64 {h:Int} (k:(Lit.int .u64 h).wf = true):0 ≤ h ∧ h < 18446744073709551616:=by
 simp [Lit.wf,IntKind.min,IntKind.max,IntKind.signed,IntKind.bits] at k
 omega
theorem Lt.nv_eq {t:Lt} (h:t.Ok):Value.agg #[.int .u64 t.h,.int .u64 t.l] = nv t.n:=by
 have h1:=wf_u64 h.h
 have h2:=wf_u64 h.l
 have e1:hi t.n = t.h:=by unfold hi Lt.n;omega
 have e2:lo t.n = t.l:=by unfold lo Lt.n;omega
 unfold nv
 rw [e1,e2]
theorem Lt.n_lt {t:Lt} (h:t.Ok):t.n < B128:=by
 have h1:=wf_u64 h.h
 have h2:=wf_u64 h.l
 unfold Lt.n B128
 omega
def ltB (t:Lt):Bool:=(t.w == 0) || (widthB t.w && decide (t.n % 2 ^ hw t.w = t.n))
def litB (is:Bool) (t:Lt):Bool:=if is then ltB t else ((t.w == 0) && ((t.h == 0) && (t.l == 0)))
def nmB (s:ByteArray) (p:Int):Bool:=if s.toList == [] then p != 1 else ((p != 0) && nameB s)
def endB (a b:Int) (is:Bool):Bool:=if is then (decide (0 ≤ b) && (decide (b ≤ a) && decide (a < 128))) else ((a == 0) && (b == 0))
def amtB (e:Ex):Bool:=(e.op == 1) && ((e.lit.w == 0) && decide (cmpN e.lit.n 127 ≤ 0))
def tgtB (s:ByteArray):Bool:=(s.toList == [97,99,99,101,112,116]) || ((s.toList == [114,101,106,101,99,116]) || nameB s)
def amt2:List Ex → Bool
 | [_,b]=>amtB b
 | _=>false
def Ex.fits (e:Ex):Bool:=litB (xLit e.op) e.lit && (nmB e.head (xHead e.op) && (nmB e.name (xName e.op) && (endB e.hi e.lo (xSlice e.op) && (((e.args.length:Int) == xArgs e.op) && (!(xShift e.op) || amt2 e.args)))))
/-- May it be, with so much room? -/
def Ex.may:Nat → Ex → Bool
 | 0,_=>false
 | n + 1,e=>xIs e.op && (e.fits && eachB (xArgs e.op) (xArgs e.op) (Ex.may n) e.args)
def fdB (f:Fd):Bool:=nameB f.name && widthB f.w
def hrB (h:Hr):Bool:=nameB h.name && eachB 1 16 fdB h.fields.l
theorem name_in (s:ByteArray) (w:World) (hs:s.size ≤ 1048576):Kp Tryz.prog w 47 #[.string s] (.bool (nameB s)):=Kp.all (tok_name s (by omega))
theorem lit_in (t:Lt) (w:World) (h:t.Ok):Kp Tryz.prog w 96 #[.agg t.cells.toArray] (.bool (ltB t)) :=
 lit_of t.w t.h t.l _ _ w (ast_width t.w w) (Kp.all (by rw [Lt.nv_eq h];exact num_fits t.n t.w (Lt.n_lt h)))
theorem litfits_in (t:Lt) (is:Bool) (w:World) (h:t.Ok):Kp Tryz.prog w 165 #[.agg t.cells.toArray,.bool is] (.bool (litB is t)):=litfits_of t.w t.h t.l is _ w (lit_in t w h)
theorem namefits_in (s:ByteArray) (p:Int) (w:World) (hs:s.size ≤ 1048576):Kp Tryz.prog w 158 #[.string s,.int .u8 p] (.bool (nmB s p)):=namefits_of s p _ w (name_in s w hs)
theorem target_in (s:ByteArray) (w:World) (hs:s.size ≤ 1048576):Kp Tryz.prog w 133 #[.string s] (.bool (tgtB s)):=target_of s _ w (name_in s w hs)
theorem field_in (f:Fd) (w:World) (h:f.sz ≤ 1048576):Kp Tryz.prog w 38 #[.agg f.cells.toArray] (.bool (fdB f)):=field_of f.name f.w _ _ w (name_in f.name w (by unfold Fd.sz at h;omega)) (ast_width f.w w)
theorem amount_in (e:Ex) (w:World) (h:e.In w):Kp Tryz.prog w 167 #[.agg e.cells.toArray] (.bool (amtB e)):=by
 obtain ⟨_,_,lit,_⟩:=h
 exact amount_of e.op e.lit.w e.lit.h e.lit.l e.head e.name e.hi e.lo e.p e.args.length e.cap _ w (Kp.all (num_of 127 (by decide))) (Kp.all (by rw [Lt.nv_eq lit];exact num_cmp e.lit.n 127))
theorem fits_in (e:Ex) (w:World) (h:e.In w) (hz:e.wt ≤ 1048576):Kp Tryz.prog w 153 #[xVal e.op,.agg e.cells.toArray] (.bool e.fits):=by
 have h':=h
 obtain ⟨_,_,lit,_,_,hd,nm,len,cap,row,kids⟩:=h'
 have hz':=Ex.wt_eq e
 have k0:=litfits_in e.lit (xLit e.op) w lit
 have k1:=namefits_in e.head (xHead e.op) w (by omega)
 have k2:=namefits_in e.name (xName e.op) w (by omega)
 have k3:Kp Tryz.prog w 166 #[.int .i64 e.hi,.int .i64 e.lo,.bool (xSlice e.op)] (.bool (endB e.hi e.lo (xSlice e.op))):=slicefits_of e.hi e.lo (xSlice e.op) w
 unfold xVal Ex.fits
 cases hS:xShift e.op with
 | false =>
  refine (fits_a _ _ _ _ _ e.op e.lit.w e.lit.h e.lit.l e.head e.name e.hi e.lo e.p e.args.length e.cap _ _ _ _ w k0 k1 k2 k3).eqv ?_
  simp
 | true =>
  have h2:xArgs e.op = 2:=by
   unfold xShift at hS
   rw [Bool.or_eq_true,beq_iff_eq,beq_iff_eq] at hS
   unfold xArgs
   rw [if_neg (by omega),if_pos (by omega)]
  rw [h2]
  by_cases hn:e.args.length = 2
  ·obtain ⟨a,b,hab⟩:∃ a b,e.args = [a,b]:=by
    match e.args,hn with
    | [a,b],_=>exact ⟨a,b,rfl⟩
   obtain ⟨pa,hp,hc⟩:=row 1 b (by rw [hab];rfl)
   have hb:b.In w:=kids b (by rw [hab];simp)
   have k4:=amount_in b w hb
   have hcells:e.cells = [.int .u8 e.op,.int .i64 e.lit.w,.int .u64 e.lit.h,.int .u64 e.lit.l,.string e.head,.string e.name,.int .i64 e.hi,.int .i64 e.lo,.slice (some pa) 2 e.cap]:=by unfold Ex.cells;rw [hp,hn]
   rw [hcells]
   refine (fits_c _ _ _ _ e.op e.lit.w e.lit.h e.lit.l e.head e.name e.hi e.lo pa e.cap b.op b.lit.w b.lit.h b.lit.l b.head b.name b.hi b.lo b.p b.args.length b.cap _ _ _ _ _ w hc k0 k1 k2 k3 k4).eqv ?_
   rw [hab]
   simp [amt2]
  ·refine (fits_b _ _ _ _ e.op e.lit.w e.lit.h e.lit.l e.head e.name e.hi e.lo e.p e.args.length e.cap _ _ _ _ w hn k0 k1 k2 k3).eqv ?_
   have:((e.args.length:Int) == 2) = false:=by
    first | (simp;done) | (simp;omega)
   rw [this]
   simp
def fv_may (fb c:Nat):Value:=.func (.func 152) #[] #[.pointer (some ⟨fb,0,none⟩),.pointer (some ⟨c,0,none⟩)]
set_option maxRecDepth 100000 in
set_option maxHeartbeats 8000000 in
theorem inner_of (a0:Int) (a1:Int) (a2:Int) (a3:Int) (a4:ByteArray) (a5:ByteArray) (a6:Int) (a7:Int) (a8p:Option Addr) (a8n:Nat) (a8c:Nat) (c rc fb:Nat) (k r:Int) (s0:Bool) (w:World) (hc:w.cell? ⟨c,0,none⟩ = some (.func (.func 152) #[] #[.pointer (some ⟨fb,0,none⟩),.pointer (some ⟨c,0,none⟩)])) (hr:w.cell? ⟨rc,0,none⟩ = some (.int .i64 k)) (hk:wrap64 (k - 1) = r)
  (h0:Kp Tryz.prog w 152 #[.agg #[.int .u8 a0,.int .i64 a1,.int .u64 a2,.int .u64 a3,.string a4,.string a5,.int .i64 a6,.int .i64 a7,.slice a8p a8n a8c],.int .i64 r,.pointer (some ⟨fb,0,none⟩),.pointer (some ⟨c,0,none⟩)] (.bool s0)) :
  Kp Tryz.prog w 154 #[.agg #[.int .u8 a0,.int .i64 a1,.int .u64 a2,.int .u64 a3,.string a4,.string a5,.int .i64 a6,.int .i64 a7,.slice a8p a8n a8c],.pointer (some ⟨c,0,none⟩),.pointer (some ⟨rc,0,none⟩)] (.bool (s0)):=by
 intro y0
 have h0:=h0.up y0
 have hc:=cell_keep hc y0
 have hr:=cell_keep hr y0
 obtain ⟨V,hV⟩:∃ V,plus w y0 = V:=⟨_,rfl⟩
 rw [hV] at h0 hc hr ⊢
 clear hV
 have hc2:=fun a=>cell_alloc hc a
 have hr2:=fun a=>cell_alloc hr a
 obtain ⟨R,hR⟩:∃ R,(s0) = R:=⟨_,rfl⟩
 rw [hR]
 have hF:=Lib.hid (show (s0) = R by first | exact hR | (rw [← hR];simp))
 clear hR
 have h0:=Lib.hid h0
 go_enter Tryz.func154,Tryz.ntmps154
 go_wp2_with fail
 obtain ⟨W,yy,hW,⟨z,hz⟩,cb0⟩:=box1n V _ 68
 rw [hW]
 have c0_0:=cb0 0 _ rfl
 have c0_1:=cb0 1 _ rfl
 have c0_2:=cb0 2 _ rfl
 have c0_3:=cb0 3 _ rfl
 have c0_4:=cb0 4 _ rfl
 have c0_5:=cb0 5 _ rfl
 have c0_6:=cb0 6 _ rfl
 have c0_7:=cb0 7 _ rfl
 have c0_8:=cb0 8 _ rfl
 have q0c:=Lib.hid (kp_at hz h0.out)
 have hz':=Lib.hid hz
 clear hW hz cb0
 refine (q0c.out _).mono ?_
 rintro r w' ⟨rfl,x1,rfl⟩
 go_wp2_with fail
 go_ret
 exact ⟨rb hF.out,pp hz'.out⟩
theorem alloc3_plus (V:World) (a b d:Obj):∃ x,((V.alloc a).alloc b).alloc d = plus V x:=by
 obtain ⟨x,hx⟩:=alloc2_plus V a b
 rw [hx]
 exact plus_alloc1 V x d
theorem box3n (V:World) (c d e:Array Value) (t u s:TypeId):∃ W y,((V.alloc (.cells c t)).alloc (.cells d u)).alloc (.cells e s) = plus W y ∧ (∃ z,W = plus V z) ∧ (∀ o v,c[o]? = v → ∀ y,(plus W y).cell? ⟨V.heap.size,o,none⟩ = v) ∧ (∀ o v,d[o]? = v → ∀ y,(plus W y).cell? ⟨V.heap.size + 1,o,none⟩ = v) ∧ (∀ o v,e[o]? = v → ∀ y,(plus W y).cell? ⟨V.heap.size + 1 + 1,o,none⟩ = v):=by
 obtain ⟨W,hW,hB,hs,ca,cb,cc,_,_,_⟩:=box3 V c d e t u s
 exact ⟨W,⟨#[],W.drawn⟩,by rw [plus_self,hW],plus_of_below hB,ca,cb,cc⟩
set_option maxRecDepth 100000 in
set_option maxHeartbeats 8000000 in
theorem may_none (a0:Int) (a1:Int) (a2:Int) (a3:Int) (a4:ByteArray) (a5:ByteArray) (a6:Int) (a7:Int) (a8p:Option Addr) (a8n:Nat) (a8c:Nat) (fl fs fx is:Bool) (fh fn fa k:Int) (fb c m:Nat) (w:World) (hf:w.cell? ⟨fb,0,none⟩ = some (.map (some m))) (hL:∀ W z,W = plus w z → (Instr.lookup 91 (.map (some m)) (.int .u8 a0) true).run Tryz.prog W = .ok (.tuple #[.agg #[.bool fl,.bool fs,.int .u8 fh,.int .u8 fn,.int .i64 fa,.bool fx],.bool is]) W) (hk:¬ 0 < k) :
  Kp Tryz.prog w 152 #[.agg #[.int .u8 a0,.int .i64 a1,.int .u64 a2,.int .u64 a3,.string a4,.string a5,.int .i64 a6,.int .i64 a7,.slice a8p a8n a8c],.int .i64 k,.pointer (some ⟨fb,0,none⟩),.pointer (some ⟨c,0,none⟩)] (.bool (false)):=by
 intro y0
 have hf:=cell_keep hf y0
 have hL:∀ W z,W = plus (plus w y0) z → (Instr.lookup 91 (.map (some m)) (.int .u8 a0) true).run Tryz.prog W = .ok (.tuple #[.agg #[.bool fl,.bool fs,.int .u8 fh,.int .u8 fn,.int .i64 fa,.bool fx],.bool is]) W:=fun W z hW=>hL W _ (hW.trans (plus_plus _ _ _))
 obtain ⟨V,hV⟩:∃ V,plus w y0 = V:=⟨_,rfl⟩
 rw [hV] at hf hL ⊢
 clear hV
 have hf2:=fun a b=>cell_alloc (cell_alloc hf a) b
 have hL2:∀ a b,(Instr.lookup 91 (.map (some m)) (.int .u8 a0) true).run Tryz.prog ((V.alloc a).alloc b) = .ok (.tuple #[.agg #[.bool fl,.bool fs,.int .u8 fh,.int .u8 fn,.int .i64 fa,.bool fx],.bool is]) ((V.alloc a).alloc b):=fun a b=>by
  obtain ⟨x,hx⟩:=alloc2_plus V a b
  exact hL _ x hx
 have hmf:∀ (fn:Fn) (first cap:Array Value) (w:World),(Instr.makeFunc fn first cap).run Tryz.prog w = .ok (.func fn first cap) w:=fun _ _ _ _=>rfl
 clear hL hf
 cases is
 case false =>
  go_enter Tryz.func152,Tryz.ntmps152
  go_wp2_with fail
  go_ret
  exact ⟨rfl,alloc3_plus _ _ _ _⟩
 case true =>
  go_enter Tryz.func152,Tryz.ntmps152
  go_wp2_with fail
  go_ret
  exact ⟨rfl,alloc3_plus _ _ _ _⟩
set_option maxRecDepth 100000 in
set_option maxHeartbeats 8000000 in
theorem may_some (a0:Int) (a1:Int) (a2:Int) (a3:Int) (a4:ByteArray) (a5:ByteArray) (a6:Int) (a7:Int) (a8p:Option Addr) (a8n:Nat) (a8c:Nat) (fl fs fx is:Bool) (fh fn fa k:Int) (fb c m:Nat) (s0 s1:Bool) (w:World) (hf:w.cell? ⟨fb,0,none⟩ = some (.map (some m))) (hL:∀ W z,W = plus w z → (Instr.lookup 91 (.map (some m)) (.int .u8 a0) true).run Tryz.prog W = .ok (.tuple #[.agg #[.bool fl,.bool fs,.int .u8 fh,.int .u8 fn,.int .i64 fa,.bool fx],.bool is]) W) (hk:0 < k)
  (h0:Kp Tryz.prog w 153 #[.agg #[.bool fl,.bool fs,.int .u8 fh,.int .u8 fn,.int .i64 fa,.bool fx],.agg #[.int .u8 a0,.int .i64 a1,.int .u64 a2,.int .u64 a3,.string a4,.string a5,.int .i64 a6,.int .i64 a7,.slice a8p a8n a8c]] (.bool s0))
  (hE:∀ W z rc,W = plus w z → W.cell? ⟨rc,0,none⟩ = some (.int .i64 k) → Kp Tryz.prog W 134 #[.slice a8p a8n a8c,.int .i64 fa,.int .i64 fa,.func (.func 154) #[] #[.pointer (some ⟨c,0,none⟩),.pointer (some ⟨rc,0,none⟩)]] (.bool s1)) :
  Kp Tryz.prog w 152 #[.agg #[.int .u8 a0,.int .i64 a1,.int .u64 a2,.int .u64 a3,.string a4,.string a5,.int .i64 a6,.int .i64 a7,.slice a8p a8n a8c],.int .i64 k,.pointer (some ⟨fb,0,none⟩),.pointer (some ⟨c,0,none⟩)] (.bool (is && (s0 && s1))):=by
 intro y0
 have h0:=h0.up y0
 have hE:∀ W z rc,W = plus (plus w y0) z → W.cell? ⟨rc,0,none⟩ = some (.int .i64 k) → Kp Tryz.prog W 134 #[.slice a8p a8n a8c,.int .i64 fa,.int .i64 fa,.func (.func 154) #[] #[.pointer (some ⟨c,0,none⟩),.pointer (some ⟨rc,0,none⟩)]] (.bool s1):=fun W z rc hW=>hE W _ rc (hW.trans (plus_plus _ _ _))
 have hf:=cell_keep hf y0
 have hL:∀ W z,W = plus (plus w y0) z → (Instr.lookup 91 (.map (some m)) (.int .u8 a0) true).run Tryz.prog W = .ok (.tuple #[.agg #[.bool fl,.bool fs,.int .u8 fh,.int .u8 fn,.int .i64 fa,.bool fx],.bool is]) W:=fun W z hW=>hL W _ (hW.trans (plus_plus _ _ _))
 obtain ⟨V,hV⟩:∃ V,plus w y0 = V:=⟨_,rfl⟩
 rw [hV] at h0 hE hf hL ⊢
 clear hV
 have hf2:=fun a b=>cell_alloc (cell_alloc hf a) b
 have hL2:∀ a b,(Instr.lookup 91 (.map (some m)) (.int .u8 a0) true).run Tryz.prog ((V.alloc a).alloc b) = .ok (.tuple #[.agg #[.bool fl,.bool fs,.int .u8 fh,.int .u8 fn,.int .i64 fa,.bool fx],.bool is]) ((V.alloc a).alloc b):=fun a b=>by
  obtain ⟨x,hx⟩:=alloc2_plus V a b
  exact hL _ x hx
 have hmf:∀ (fn:Fn) (first cap:Array Value) (w:World),(Instr.makeFunc fn first cap).run Tryz.prog w = .ok (.func fn first cap) w:=fun _ _ _ _=>rfl
 clear hL hf
 cases is
 case false =>
  clear h0 hE
  go_enter Tryz.func152,Tryz.ntmps152
  go_wp2_with fail
  go_ret
  exact ⟨rfl,alloc3_plus _ _ _ _⟩
 case true =>
  cases s0
  case false =>
   have h0:=Lib.hid h0
   have hE:=Lib.hid hE
   go_enter Tryz.func152,Tryz.ntmps152
   go_wp2_with fail
   obtain ⟨W,yy,hW,⟨z,hz⟩,ca,cb,cc⟩:=box3n V _ _ _ 68 3 167
   rw [hW]
   have ca0:=ca 0 _ rfl
   have ca1:=ca 1 _ rfl
   have ca2:=ca 2 _ rfl
   have ca3:=ca 3 _ rfl
   have ca4:=ca 4 _ rfl
   have ca5:=ca 5 _ rfl
   have ca6:=ca 6 _ rfl
   have ca7:=ca 7 _ rfl
   have ca8:=ca 8 _ rfl
   have cb0:=cb 0 _ rfl
   have cc0:=cc 0 _ rfl
   have cc1:=cc 1 _ rfl
   have cc2:=cc 2 _ rfl
   have cc3:=cc 3 _ rfl
   have cc4:=cc 4 _ rfl
   have cc5:=cc 5 _ rfl
   have q0:=Lib.hid (kp_at hz h0.out)
   have cbW:=cb0 ⟨#[],W.drawn⟩
   rw [plus_self] at cbW
   have q1:=Lib.hid (hE.out W z _ hz cbW).pure
   have hz':=Lib.hid hz
   clear hW hz ca cb cc cbW h0 hE
   refine (q0.out _).mono ?_
   rintro r w' ⟨rfl,x1,rfl⟩
   go_wp2_with fail
   go_ret
   exact ⟨rfl,pp hz'.out⟩
  case true =>
   have h0:=Lib.hid h0
   have hE:=Lib.hid hE
   go_enter Tryz.func152,Tryz.ntmps152
   go_wp2_with fail
   obtain ⟨W,yy,hW,⟨z,hz⟩,ca,cb,cc⟩:=box3n V _ _ _ 68 3 167
   rw [hW]
   have ca0:=ca 0 _ rfl
   have ca1:=ca 1 _ rfl
   have ca2:=ca 2 _ rfl
   have ca3:=ca 3 _ rfl
   have ca4:=ca 4 _ rfl
   have ca5:=ca 5 _ rfl
   have ca6:=ca 6 _ rfl
   have ca7:=ca 7 _ rfl
   have ca8:=ca 8 _ rfl
   have cb0:=cb 0 _ rfl
   have cc0:=cc 0 _ rfl
   have cc1:=cc 1 _ rfl
   have cc2:=cc 2 _ rfl
   have cc3:=cc 3 _ rfl
   have cc4:=cc 4 _ rfl
   have cc5:=cc 5 _ rfl
   have q0:=Lib.hid (kp_at hz h0.out)
   have cbW:=cb0 ⟨#[],W.drawn⟩
   rw [plus_self] at cbW
   have q1:=Lib.hid (hE.out W z _ hz cbW).pure
   have hz':=Lib.hid hz
   clear hW hz ca cb cc cbW h0 hE
   refine (q0.out _).mono ?_
   rintro r w' ⟨rfl,x1,rfl⟩
   go_wp2_with (go_at_call 134;with_reducible refine (q1.out _).mono ?_;rintro r w' ⟨rfl,x,rfl⟩)
   go_ret
   exact ⟨rfl,pp hz'.out⟩
theorem getIn_range (z:Value) (f:Int → Value) (i:Int):∀ (n s:Nat),getIn z i ((List.range' s n).map fun (j:Nat)=>(⟨.int .u8 ((j:Int) + 1),f ((j:Int) + 1),j⟩:MapEntry)) = if (s:Int) + 1 ≤ i ∧ i ≤ (s:Int) + n then (f i,true) else (z,false)
 | 0,s=>by rw [if_neg (by omega)];rfl
 | n + 1,s=>by
  rw [List.range'_succ,List.map_cons,getIn]
  simp only
  cases hi:(i == (s:Int) + 1) with
  | true =>
   rw [beq_iff_eq] at hi
   rw [if_pos rfl,if_pos (by omega),hi]
  | false =>
   have hi:¬ i = (s:Int) + 1:=by simpa using hi
   rw [if_neg (by simp),getIn_range z f i n (s + 1)]
   by_cases h:(s:Int) + 1 ≤ i ∧ i ≤ (s:Int) + (n + 1:Nat)
   ·rw [if_pos h,if_pos (by omega)]
   ·rw [if_neg h,if_neg (by omega)]
theorem keys_range (f:Int → Value) (n:Nat):u8Keys (((List.range n).map fun (j:Nat)=>(⟨.int .u8 ((j:Int) + 1),f ((j:Int) + 1),j⟩:MapEntry)).toArray).toList:=by
 intro e he
 simp only [List.mem_map] at he
 obtain ⟨j,_,rfl⟩:=he
 exact ⟨_,rfl⟩
theorem getIn_upto (z:Value) (f:Int → Value) (i:Int) (n:Nat):getIn z i (((List.range n).map fun (j:Nat)=>(⟨.int .u8 ((j:Int) + 1),f ((j:Int) + 1),j⟩:MapEntry)).toArray).toList = if 1 ≤ i ∧ i ≤ n then (f i,true) else (z,false):=by
 have:=getIn_range z f i n 0
 rw [← List.range_eq_range'] at this
 simpa using this
theorem xVal_none {op:Int} (h:¬ (1 ≤ op ∧ op ≤ 26)):xVal op = .agg #[.bool false,.bool false,.int .u8 0,.int .u8 0,.int .i64 0,.bool false]:=by
 have e1:xLit op = false:=by unfold xLit;simp;omega
 have e2:xSlice op = false:=by unfold xSlice;simp;omega
 have e3:xHead op = 0:=by unfold xHead;rw [if_neg (by omega)]
 have e4:xName op = 0:=by unfold xName;rw [if_neg (by omega)]
 have e5:xArgs op = 0:=by unfold xArgs;rw [if_neg (by omega),if_neg (by omega)]
 have e6:xShift op = false:=by unfold xShift;simp;omega
 unfold xVal
 rw [e1,e2,e3,e4,e5,e6]
theorem sVal_none {k:Int} (h:¬ (1 ≤ k ∧ k ≤ 3)):sVal k = .agg #[.bool false,.bool false]:=by
 have e1:sV k = false:=by unfold sV;simp;omega
 have e2:sM k = false:=by unfold sM;simp;omega
 unfold sVal
 rw [e1,e2]
theorem tVal_none {k:Int} (h:¬ (1 ≤ k ∧ k ≤ 7)):tVal k = .agg #[.int .u8 0,.int .u8 0,.bool false,.bool false]:=by
 have e1:tHead k = 0:=by unfold tHead;rw [if_neg (by omega),if_neg (by omega)]
 have e2:tName k = 0:=by unfold tName;rw [if_neg (by omega)]
 have e3:tExpr k = false:=by unfold tExpr;simp;omega
 have e4:tBlocks k = false:=by unfold tBlocks;simp;omega
 unfold tVal
 rw [e1,e2,e3,e4]
theorem look_x (w:World) (m:Nat) (h:MapAt w m (esX 26)) (op:Int):(Instr.lookup 91 (.map (some m)) (.int .u8 op) true).run Tryz.prog w = .ok (.tuple #[xVal op,.bool (xIs op)]) w:=by
 have hz:(zeroValue 167).run Tryz.prog w = .ok (.agg #[.bool false,.bool false,.int .u8 0,.int .u8 0,.int .i64 0,.bool false]) w:=by kernel_rfl
 have:=look_u8 Tryz.underlying91 Tryz.underlying5 hz h (keys_range xVal 26) op
 rw [this]
 unfold esX xIs
 rw [getIn_upto]
 by_cases h1:1 ≤ op ∧ op ≤ ((26:Nat):Int)
 ·rw [if_pos h1,decide_eq_true (by omega)]
 ·rw [if_neg h1,decide_eq_false (by omega),xVal_none (by omega)]
theorem look_s (w:World) (m:Nat) (h:MapAt w m (esS 3)) (k:Int):(Instr.lookup 92 (.map (some m)) (.int .u8 k) true).run Tryz.prog w = .ok (.tuple #[sVal k,.bool (sIs k)]) w:=by
 have hz:(zeroValue 169).run Tryz.prog w = .ok (.agg #[.bool false,.bool false]) w:=by kernel_rfl
 have:=look_u8 Tryz.underlying92 Tryz.underlying5 hz h (keys_range sVal 3) k
 rw [this]
 unfold esS sIs
 rw [getIn_upto]
 by_cases h1:1 ≤ k ∧ k ≤ ((3:Nat):Int)
 ·rw [if_pos h1,decide_eq_true (by omega)]
 ·rw [if_neg h1,decide_eq_false (by omega),sVal_none (by omega)]
theorem look_t (w:World) (m:Nat) (h:MapAt w m (esT 7)) (k:Int):(Instr.lookup 93 (.map (some m)) (.int .u8 k) true).run Tryz.prog w = .ok (.tuple #[tVal k,.bool (tIs k)]) w:=by
 have hz:(zeroValue 171).run Tryz.prog w = .ok (.agg #[.int .u8 0,.int .u8 0,.bool false,.bool false]) w:=by kernel_rfl
 have:=look_u8 Tryz.underlying93 Tryz.underlying5 hz h (keys_range tVal 7) k
 rw [this]
 unfold esT tIs
 rw [getIn_upto]
 by_cases h1:1 ≤ k ∧ k ≤ ((7:Nat):Int)
 ·rw [if_pos h1,decide_eq_true (by omega)]
 ·rw [if_neg h1,decide_eq_false (by omega),tVal_none (by omega)]
theorem may1:∀ (n:Nat),n ≤ 16 → ∀ (e:Ex) (w:World) (fb c m:Nat),e.In w → e.wt ≤ 1048576 → w.cell? ⟨fb,0,none⟩ = some (.map (some m)) → MapAt w m (esX 26) → w.cell? ⟨c,0,none⟩ = some (fv_may fb c) →
  Kp Tryz.prog w 152 #[e.val,.int .i64 (n:Int),.pointer (some ⟨fb,0,none⟩),.pointer (some ⟨c,0,none⟩)] (.bool (Ex.may n e))
 | 0,_,e,w,fb,c,m,hin,hz,hf,hm,hc =>
  may_none e.op e.lit.w e.lit.h e.lit.l e.head e.name e.hi e.lo e.p e.args.length e.cap _ _ _ _ _ _ _ 0 fb c m w hf (fun W z hW=>look_x W m (hW ▸ hm.plus z) e.op) (by omega)
 | n + 1,hn,e,w,fb,c,m,hin,hz,hf,hm,hc=>by
  have hin':=hin
  obtain ⟨_,_,_,_,_,_,_,len,cap,row,kids⟩:=hin'
  have e1:=Ex.wt_eq e
  refine may_some e.op e.lit.w e.lit.h e.lit.l e.head e.name e.hi e.lo e.p e.args.length e.cap _ _ _ _ _ _ _ ((n + 1:Nat):Int) fb c m _ _ w hf (fun W z hW=>look_x W m (hW ▸ hm.plus z) e.op) (by omega) (fits_in e w hin hz) ?_
  intro W z rc hW hr
  have hl:e.args.length ≤ 1048576:=by have:=length_le_sum Ex.wt Ex.wt_pos e.args;omega
  have hA:Sl.In W 9 Ex.cells (Ex.In W) ⟨e.p,e.cap,e.args⟩:=hW ▸ Sl.In.plus (s:=⟨e.p,e.cap,e.args⟩) ⟨len,cap,row,kids⟩ (fun _ a=>a.plus z) z
  have hc':W.cell? ⟨c,0,none⟩ = some (fv_may fb c):=hW ▸ cell_keep hc z
  have hf':W.cell? ⟨fb,0,none⟩ = some (.map (some m)):=hW ▸ cell_keep hf z
  have hm':MapAt W m (esX 26):=hW ▸ hm.plus z
  exact each_Expr Ex.cells shp_ex (Ex.may n) 154 #[] #[.pointer (some ⟨c,0,none⟩),.pointer (some ⟨rc,0,none⟩)] (Ex.In W) W ⟨e.p,e.cap,e.args⟩ _ _ hA hl (enters_of Tryz.func154 (by kernel_rfl) rfl)
   (fun x hx=>inner_of x.op x.lit.w x.lit.h x.lit.l x.head x.name x.hi x.lo x.p x.args.length x.cap c rc fb ((n + 1:Nat):Int) (n:Int) _ W hc' hr (by rw [wr_in _ (by omega)];omega)
    (may1 n (by omega) x W fb c m (hA.kids x hx) (Nat.le_trans (le_sum_of Ex.wt e.args x hx) (by omega)) hf' hm' hc'))
theorem clo3f (V:World) (c d:Array Value) (v:Value) (t u s:TypeId):∃ W,((V.alloc (.cells c t)).alloc (.cells d u)).alloc (.cells #[v] s) = W ∧ (∃ z,W = plus V z) ∧ (∀ x,c[0]? = some x → W.cell? ⟨V.heap.size,0,none⟩ = some x) ∧ W.cell? ⟨V.heap.size + 1 + 1,0,none⟩ = some v:=by
 obtain ⟨W,y,hW,⟨z,hz⟩,ca,cb,cc⟩:=box3n V c d #[v] t u s
 refine ⟨_,hW,⟨_,by rw [hz,plus_plus]⟩,fun x hx=>ca 0 _ hx y,cc 0 _ rfl y⟩
set_option maxRecDepth 100000 in
set_option maxHeartbeats 8000000 in
theorem ast_expr (e:Ex) (m:Nat) (o2 o3:Option Nat) (w:World) (he:e.In w) (hz:e.wt ≤ 1048576) (hm:MapAt w m (esX 26)):Kp Tryz.prog w 135 #[.agg #[.map (some m),.map o2,.map o3],.agg e.cells.toArray] (.bool (Ex.may 16 e)):=by
 intro y0
 have he:=he.plus y0
 have hm:=hm.plus y0
 obtain ⟨V,hV⟩:∃ V,plus w y0 = V:=⟨_,rfl⟩
 rw [hV] at he hm ⊢
 clear hV
 have hq:=fun (W:World) (fb c:Nat) (z:Ext) (h:W = plus V z) (hf:W.cell? ⟨fb,0,none⟩ = some (.map (some m))) (hc:W.cell? ⟨c,0,none⟩ = some (fv_may fb c))=>calls_self (may1 16 (Nat.le_refl _) e W fb c m (h ▸ he.plus z) hz hf (h ▸ hm.plus z) hc)
 obtain ⟨S,hS⟩:∃ S,Ex.may 16 e = S:=⟨_,rfl⟩
 rw [hS] at hq ⊢
 clear hS he hm hz
 obtain ⟨op,⟨lw,lh,ll⟩,hd,nm,eh,el,p,cap,args⟩:=e
 have hq:∀ (W:World) (fb c:Nat) (z:Ext),W = plus V z → W.cell? ⟨fb,0,none⟩ = some (.map (some m)) → W.cell? ⟨c,0,none⟩ = some (fv_may fb c) → Calls Tryz.prog 152 #[.agg #[.int .u8 op,.int .i64 lw,.int .u64 lh,.int .u64 ll,.string hd,.string nm,.int .i64 eh,.int .i64 el,.slice p args.length cap],.int .i64 16,.pointer (some ⟨fb,0,none⟩),.pointer (some ⟨c,0,none⟩)] W fun e w'=>e = .returned (.bool S) ∧ ∃ x,w' = plus W x:=hq
 show Calls Tryz.prog 135 #[.agg #[.map (some m),.map o2,.map o3],.agg #[.int .u8 op,.int .i64 lw,.int .u64 lh,.int .u64 ll,.string hd,.string nm,.int .i64 eh,.int .i64 el,.slice p args.length cap]] V _
 generalize args.length = n1 at hq ⊢
 have hq':=Lib.hid hq
 clear hq
 have hmf:∀ (fn:Fn) (first cap:Array Value) (w:World),(Instr.makeFunc fn first cap).run Tryz.prog w = .ok (.func fn first cap) w:=fun _ _ _ _=>rfl
 go_enter Tryz.func135,Tryz.ntmps135
 go_wp2_with fail
 obtain ⟨W,hW,⟨z,hz⟩,hf,hc⟩:=clo3f V _ _ _ _ _ _
 rw [hW]
 have hz':=Lib.hid hz
 refine (hq'.out W _ _ z hz (hf _ rfl) hc).mono ?_
 clear hW hz hc hf
 rintro r w' ⟨rfl,x,rfl⟩
 go_wp2
 go_ret
 exact ⟨rfl,pp hz'.out⟩
end Go.Proofs.YtlmhldcebllckaaGreat
