/-
  WHAT IS PROVED HERE: a part of the proof (made narrower and merged by program; the parts: Ps).
-/
import Derived.Test.YtpjhokdehcpjbaaGreatDoorRows
import Derived.WalkKit
import Derived.Lib.Hide
import Derived.WalkSpells
import Derived.WalkLawsBesides
import Derived.Laws.EntriesVeiled
import Derived.Shelf.Abstract
import Derived.Deep.CutRange
import Derived.Test.YtpjhokdehcpjbaaGreatDoorM47
import Derived.Test.YtpjhokdehcpjbaaGreatDoorM29
import Derived.Test.YtpjhokdehcpjbaaGreatDoorM31
import Derived.Test.YtpjhokdehcpjbaaGreatDoorM23
import Derived.Test.YtpjhokdehcpjbaaGreatDoorM3
namespace Go.Proofs.YtpjhokdehcpjbaaGreatDoor
open Go.RowKit
theorem box4n (V:World) (c d f g:Array Value) (t u s r:TypeId):∃ W y,(((V.alloc (.cells c t)).alloc (.cells d u)).alloc (.cells f s)).alloc (.cells g r) = plus W y ∧ (∃ z,W = plus V z) ∧
  (∀ o v,c[o]? = v → ∀ y,(plus W y).cell? ⟨V.heap.size,o,none⟩ = v) ∧
  (∀ o v,d[o]? = v → ∀ y,(plus W y).cell? ⟨V.heap.size + 1,o,none⟩ = v) ∧
  (∀ o v,f[o]? = v → ∀ y,(plus W y).cell? ⟨V.heap.size + 1 + 1,o,none⟩ = v) ∧
  (∀ o v,g[o]? = v → ∀ y,(plus W y).cell? ⟨V.heap.size + 1 + 1 + 1,o,none⟩ = v):=by
 have h1:(V.alloc (.cells c t)).heap.size = V.heap.size + 1:=by simp
 have h2:((V.alloc (.cells c t)).alloc (.cells d u)).heap.size = V.heap.size + 1 + 1:=by simp
 have h3:(((V.alloc (.cells c t)).alloc (.cells d u)).alloc (.cells f s)).heap.size = V.heap.size + 1 + 1 + 1:=by simp
 have hs:((((V.alloc (.cells c t)).alloc (.cells d u)).alloc (.cells f s)).alloc (.cells g r)).heap.size = V.heap.size + 1 + 1 + 1 + 1:=by simp
 have hB:Below V.heap.size V ((((V.alloc (.cells c t)).alloc (.cells d u)).alloc (.cells f s)).alloc (.cells g r)):=(((((Below.refl _ _).alloc (Nat.le_refl _) _).alloc (by omega) _).alloc (by omega) _).alloc (by omega) _)
 exact ⟨_,⟨#[],_⟩,(plus_self _).symm,plus_of_below hB,
  fun o v e=>plus_cell (by omega) ((cell_old _ _ _ o (by omega)).trans ((cell_old _ _ _ o (by omega)).trans ((cell_old _ _ _ o (by omega)).trans ((cell_new V c t _ o rfl).trans e)))),
  fun o v e=>plus_cell (by omega) ((cell_old _ _ _ o (by omega)).trans ((cell_old _ _ _ o (by omega)).trans ((cell_new _ d u _ o h1.symm).trans e))),
  fun o v e=>plus_cell (by omega) ((cell_old _ _ _ o (by omega)).trans ((cell_new _ f s _ o h2.symm).trans e)),
  fun o v e=>plus_cell (by omega) ((cell_new _ g r _ o h3.symm).trans e)⟩
set_option maxRecDepth 100000 in
set_option maxHeartbeats 64000000 in
theorem two_of_ (a0p:Option Addr) (a0n:Nat) (a0c:Nat) (a1p:Option Addr) (a1n:Nat) (a1c:Nat) (a2p:Option Addr) (a2n:Nat) (a2c:Nat) (a3p:Option Addr) (a3n:Nat) (a3c:Nat) (a4p:Option Addr) (a4n:Nat) (a4c:Nat) (a5p:Option Addr) (a5n:Nat) (a5c:Nat) (a6p:Option Addr) (a6n:Nat) (a6c:Nat) (b0p:Option Addr) (b0n:Nat) (b0c:Nat) (b1p:Option Addr) (b1n:Nat) (b1c:Nat) (b2p:Option Addr) (b2n:Nat) (b2c:Nat) (b3p:Option Addr) (b3n:Nat) (b3c:Nat) (b4p:Option Addr) (b4n:Nat) (b4c:Nat) (b5p:Option Addr) (b5n:Nat) (b5c:Nat) (b6p:Option Addr) (b6n:Nat) (b6c:Nat) (e0 e1 e2 e3:Int) (e4 e5:ByteArray) (e6 e7:Int) (e8p:Option Addr) (e8n:Nat) (e8c:Nat) (f0 f1 f2 f3:Int) (f4 f5:ByteArray) (f6 f7:Int) (f8p:Option Addr) (f8n:Nat) (f8c:Nat) (ga gb ge gf pa pb pe pf s t:Bool) (X Y S T:ByteArray) (w:World)
  (hga:Kp Tryz.prog w 7 #[.agg #[.slice a0p a0n a0c,.slice a1p a1n a1c,.slice a2p a2n a2c,.slice a3p a3n a3c,.slice a4p a4n a4c,.slice a5p a5n a5c,.slice a6p a6n a6c]] (.bool ga))
  (hgb:Kp Tryz.prog w 7 #[.agg #[.slice b0p b0n b0c,.slice b1p b1n b1c,.slice b2p b2n b2c,.slice b3p b3n b3c,.slice b4p b4n b4c,.slice b5p b5n b5c,.slice b6p b6n b6c]] (.bool gb))
  (hge:Kp Tryz.prog w 8 #[.agg #[.int .u8 e0,.int .i64 e1,.int .u64 e2,.int .u64 e3,.string e4,.string e5,.int .i64 e6,.int .i64 e7,.slice e8p e8n e8c]] (.bool ge))
  (hgf:Kp Tryz.prog w 8 #[.agg #[.int .u8 f0,.int .i64 f1,.int .u64 f2,.int .u64 f3,.string f4,.string f5,.int .i64 f6,.int .i64 f7,.slice f8p f8n f8c]] (.bool gf))
  (h1:Kp Tryz.prog w 14 #[.agg #[.slice a0p a0n a0c,.slice a1p a1n a1c,.slice a2p a2n a2c,.slice a3p a3n a3c,.slice a4p a4n a4c,.slice a5p a5n a5c,.slice a6p a6n a6c]] (.string X))
  (h2:Kp Tryz.prog w 14 #[.agg #[.slice b0p b0n b0c,.slice b1p b1n b1c,.slice b2p b2n b2c,.slice b3p b3n b3c,.slice b4p b4n b4c,.slice b5p b5n b5c,.slice b6p b6n b6c]] (.string Y))
  (h3:Kp Tryz.prog w 12 #[.agg #[.int .u8 e0,.int .i64 e1,.int .u64 e2,.int .u64 e3,.string e4,.string e5,.int .i64 e6,.int .i64 e7,.slice e8p e8n e8c]] (.string S))
  (h4:Kp Tryz.prog w 12 #[.agg #[.int .u8 f0,.int .i64 f1,.int .u64 f2,.int .u64 f3,.string f4,.string f5,.int .i64 f6,.int .i64 f7,.slice f8p f8n f8c]] (.string T))
  (k1:Kp Tryz.prog w 16 #[.agg #[.slice a0p a0n a0c,.slice a1p a1n a1c,.slice a2p a2n a2c,.slice a3p a3n a3c,.slice a4p a4n a4c,.slice a5p a5n a5c,.slice a6p a6n a6c]] (.bool pa))
  (k2:Kp Tryz.prog w 16 #[.agg #[.slice b0p b0n b0c,.slice b1p b1n b1c,.slice b2p b2n b2c,.slice b3p b3n b3c,.slice b4p b4n b4c,.slice b5p b5n b5c,.slice b6p b6n b6c]] (.bool pb))
  (k3:Kp Tryz.prog w 17 #[.agg #[.int .u8 e0,.int .i64 e1,.int .u64 e2,.int .u64 e3,.string e4,.string e5,.int .i64 e6,.int .i64 e7,.slice e8p e8n e8c]] (.bool pe))
  (k4:Kp Tryz.prog w 17 #[.agg #[.int .u8 f0,.int .i64 f1,.int .u64 f2,.int .u64 f3,.string f4,.string f5,.int .i64 f6,.int .i64 f7,.slice f8p f8n f8c]] (.bool pf))
  (k5:Kp Tryz.prog w 18 #[.agg #[.slice a0p a0n a0c,.slice a1p a1n a1c,.slice a2p a2n a2c,.slice a3p a3n a3c,.slice a4p a4n a4c,.slice a5p a5n a5c,.slice a6p a6n a6c],.agg #[.slice b0p b0n b0c,.slice b1p b1n b1c,.slice b2p b2n b2c,.slice b3p b3n b3c,.slice b4p b4n b4c,.slice b5p b5n b5c,.slice b6p b6n b6c]] (.bool s))
  (k6:Kp Tryz.prog w 19 #[.agg #[.int .u8 e0,.int .i64 e1,.int .u64 e2,.int .u64 e3,.string e4,.string e5,.int .i64 e6,.int .i64 e7,.slice e8p e8n e8c],.agg #[.int .u8 f0,.int .i64 f1,.int .u64 f2,.int .u64 f3,.string f4,.string f5,.int .i64 f6,.int .i64 f7,.slice f8p f8n f8c]] (.bool t))
  (kn:Kp Tryz.prog w 9 #[] (.bool true))
  (hX:(X.toList == ([]:List UInt8)) = !pa) (hY:(Y.toList == ([]:List UInt8)) = !pb) (hS:(S.toList == ([]:List UInt8)) = !pe) (hT:(T.toList == ([]:List UInt8)) = !pf)
  (hXY:pa = true → pb = true → (X.toList == Y.toList) = s) (hST:pe = true → pf = true → (S.toList == T.toList) = t) :
  Kp Tryz.prog w 4 #[.agg #[.slice a0p a0n a0c,.slice a1p a1n a1c,.slice a2p a2n a2c,.slice a3p a3n a3c,.slice a4p a4n a4c,.slice a5p a5n a5c,.slice a6p a6n a6c],.agg #[.slice b0p b0n b0c,.slice b1p b1n b1c,.slice b2p b2n b2c,.slice b3p b3n b3c,.slice b4p b4n b4c,.slice b5p b5n b5c,.slice b6p b6n b6c],.agg #[.int .u8 e0,.int .i64 e1,.int .u64 e2,.int .u64 e3,.string e4,.string e5,.int .i64 e6,.int .i64 e7,.slice e8p e8n e8c],.agg #[.int .u8 f0,.int .i64 f1,.int .u64 f2,.int .u64 f3,.string f4,.string f5,.int .i64 f6,.int .i64 f7,.slice f8p f8n f8c]] (.bool true):=by
 intro y0
 have hga:=hga.up y0
 have hgb:=hgb.up y0
 have hge:=hge.up y0
 have hgf:=hgf.up y0
 have h1:=h1.up y0
 have h2:=h2.up y0
 have h3:=h3.up y0
 have h4:=h4.up y0
 have k1:=k1.up y0
 have k2:=k2.up y0
 have k3:=k3.up y0
 have k4:=k4.up y0
 have k5:=k5.up y0
 have k6:=k6.up y0
 have kn:=kn.up y0
 obtain ⟨V,hV⟩:∃ V,plus w y0 = V:=⟨_,rfl⟩
 rw [hV] at hga hgb hge hgf h1 h2 h3 h4 k1 k2 k3 k4 k5 k6 kn ⊢
 clear hV
 obtain ⟨G,hG⟩:∃ G,((!ga) && ((!gb) && ((!ge) && (!gf)))) = G:=⟨_,rfl⟩
 obtain ⟨C,hC⟩:∃ C,(!G) = C:=⟨_,rfl⟩
 have hga':=Lib.hid hga
 have hgb':=Lib.hid hgb
 have hge':=Lib.hid hge
 have hgf':=Lib.hid hgf
 have h1':=Lib.hid h1
 have h2':=Lib.hid h2
 have h3':=Lib.hid h3
 have h4':=Lib.hid h4
 have k1':=Lib.hid k1
 have k2':=Lib.hid k2
 have k3':=Lib.hid k3
 have k4':=Lib.hid k4
 have k5':=Lib.hid k5
 have k6':=Lib.hid k6
 have kn':=Lib.hid kn
 have hG':=Lib.hid hG
 have hC':=Lib.hid hC
 have hX':=Lib.hid hX
 have hY':=Lib.hid hY
 have hS':=Lib.hid hS
 have hT':=Lib.hid hT
 have hXY':=Lib.hid hXY
 have hST':=Lib.hid hST
 clear hga hgb hge hgf h1 h2 h3 h4 k1 k2 k3 k4 k5 k6 kn hG hC hX hY hS hT hXY hST
 go_enter Tryz.func4,Tryz.ntmps4
 go_upto_region 1 with (fail)
 obtain ⟨W,yy,hW,⟨z,hz⟩,ca,cb,ce,cf⟩:=box4n V _ _ _ _ 38 38 29 29
 rw [hW]
 have da0:=ca 0 _ rfl
 have da1:=ca 1 _ rfl
 have da2:=ca 2 _ rfl
 have da3:=ca 3 _ rfl
 have da4:=ca 4 _ rfl
 have da5:=ca 5 _ rfl
 have da6:=ca 6 _ rfl
 have db0:=cb 0 _ rfl
 have db1:=cb 1 _ rfl
 have db2:=cb 2 _ rfl
 have db3:=cb 3 _ rfl
 have db4:=cb 4 _ rfl
 have db5:=cb 5 _ rfl
 have db6:=cb 6 _ rfl
 have de0:=ce 0 _ rfl
 have de1:=ce 1 _ rfl
 have de2:=ce 2 _ rfl
 have de3:=ce 3 _ rfl
 have de4:=ce 4 _ rfl
 have de5:=ce 5 _ rfl
 have de6:=ce 6 _ rfl
 have de7:=ce 7 _ rfl
 have de8:=ce 8 _ rfl
 have df0:=cf 0 _ rfl
 have df1:=cf 1 _ rfl
 have df2:=cf 2 _ rfl
 have df3:=cf 3 _ rfl
 have df4:=cf 4 _ rfl
 have df5:=cf 5 _ rfl
 have df6:=cf 6 _ rfl
 have df7:=cf 7 _ rfl
 have df8:=cf 8 _ rfl
 have hgac:=Lib.hid (kp_at hz hga'.out)
 have hgbc:=Lib.hid (kp_at hz hgb'.out)
 have hgec:=Lib.hid (kp_at hz hge'.out)
 have hgfc:=Lib.hid (kp_at hz hgf'.out)
 have h1c:=Lib.hid (kp_at hz h1'.out)
 have h2c:=Lib.hid (kp_at hz h2'.out)
 have h3c:=Lib.hid (kp_at hz h3'.out)
 have h4c:=Lib.hid (kp_at hz h4'.out)
 have k1c:=Lib.hid (kp_at hz k1'.out)
 have k2c:=Lib.hid (kp_at hz k2'.out)
 have k3c:=Lib.hid (kp_at hz k3'.out)
 have k4c:=Lib.hid (kp_at hz k4'.out)
 have k5c:=Lib.hid (kp_at hz k5'.out)
 have k6c:=Lib.hid (kp_at hz k6'.out)
 have knc:=Lib.hid (kp_at hz kn'.out)
 have hz':=Lib.hid hz
 clear hW hz ca cb ce cf hga' hgb' hge' hgf' h1' h2' h3' h4' k1' k2' k3' k4' k5' k6' kn'
 go_cut [26] from 13 to 26 (fun v wx=>v = .bool C ∧ ∃ y,wx = plus W y)
 case first =>
  cases ga
  case true =>
   have hF:=Lib.hid (show (true) = C by rw [← hC'.out,← hG'.out];simp)
   go_wp2_with (first | (go_at_call 7;with_reducible refine (hgac.out _).mono ?_;rintro r w' ⟨rfl,x,rfl⟩))
   go_meet
   first | exact ⟨congrArg Value.bool hF.out,_,rfl⟩ | exact ⟨congrArg Value.bool (Eq.trans (by simp) hF.out),_,rfl⟩
  case false =>
   cases gb
   case true =>
    have hF:=Lib.hid (show (true) = C by rw [← hC'.out,← hG'.out];simp)
    go_wp2_with (first | (go_at_call 7;with_reducible refine (hgac.out _).mono ?_;rintro r w' ⟨rfl,x,rfl⟩) | (go_at_call 7;with_reducible refine (hgbc.out _).mono ?_;rintro r w' ⟨rfl,x,rfl⟩))
    go_meet
    first | exact ⟨congrArg Value.bool hF.out,_,rfl⟩ | exact ⟨congrArg Value.bool (Eq.trans (by simp) hF.out),_,rfl⟩
   case false =>
    cases ge
    case true =>
     have hF:=Lib.hid (show (true) = C by rw [← hC'.out,← hG'.out];simp)
     go_wp2_with (first | (go_at_call 7;with_reducible refine (hgac.out _).mono ?_;rintro r w' ⟨rfl,x,rfl⟩) | (go_at_call 7;with_reducible refine (hgbc.out _).mono ?_;rintro r w' ⟨rfl,x,rfl⟩) | (go_at_call 8;with_reducible refine (hgec.out _).mono ?_;rintro r w' ⟨rfl,x,rfl⟩))
     go_meet
     first | exact ⟨congrArg Value.bool hF.out,_,rfl⟩ | exact ⟨congrArg Value.bool (Eq.trans (by simp) hF.out),_,rfl⟩
    case false =>
     cases gf
     case true =>
      have hF:=Lib.hid (show (true) = C by rw [← hC'.out,← hG'.out];simp)
      go_wp2_with (first | (go_at_call 7;with_reducible refine (hgac.out _).mono ?_;rintro r w' ⟨rfl,x,rfl⟩) | (go_at_call 7;with_reducible refine (hgbc.out _).mono ?_;rintro r w' ⟨rfl,x,rfl⟩) | (go_at_call 8;with_reducible refine (hgec.out _).mono ?_;rintro r w' ⟨rfl,x,rfl⟩) | (go_at_call 8;with_reducible refine (hgfc.out _).mono ?_;rintro r w' ⟨rfl,x,rfl⟩))
      go_meet
      first | exact ⟨congrArg Value.bool hF.out,_,rfl⟩ | exact ⟨congrArg Value.bool (Eq.trans (by simp) hF.out),_,rfl⟩
     case false =>
      have hF:=Lib.hid (show (false) = C by rw [← hC'.out,← hG'.out];simp)
      go_wp2_with (first | (go_at_call 7;with_reducible refine (hgac.out _).mono ?_;rintro r w' ⟨rfl,x,rfl⟩) | (go_at_call 7;with_reducible refine (hgbc.out _).mono ?_;rintro r w' ⟨rfl,x,rfl⟩) | (go_at_call 8;with_reducible refine (hgec.out _).mono ?_;rintro r w' ⟨rfl,x,rfl⟩) | (go_at_call 8;with_reducible refine (hgfc.out _).mono ?_;rintro r w' ⟨rfl,x,rfl⟩))
      go_meet
      first | exact ⟨congrArg Value.bool hF.out,_,rfl⟩ | exact ⟨congrArg Value.bool (Eq.trans (by simp) hF.out),_,rfl⟩
 case rest =>
  obtain ⟨rfl,y1,rfl⟩:=hcut
  clear hgac hgbc hgec hgfc hG'
  cases C with
  | true =>
   clear hX' hY' hS' hT' hXY' hST' h1c h2c h3c h4c k1c k2c k3c k4c k5c k6c
   go_wp2_with fail
   refine (knc.out _).mono ?_
   rintro r w' ⟨rfl,x,rfl⟩
   go_wp2_with fail
   go_ret
   exact ⟨rfl,pp hz'.out⟩
  | false =>
   clear hC'
   go_upto_region 3 with (fail)
   refine wp_region_own (by kernel_rfl) (by kernel_rfl) ?_
   repeat (go_big_quiet_step (first | (with_reducible exact h1c.out _) | (with_reducible exact h2c.out _) | (with_reducible exact h3c.out _) | (with_reducible exact h4c.out _)))
   refine wpQuiet_nil ?_
   rintro _ ⟨y2,rfl⟩
   clear h1c h2c h3c h4c
   have nt:(true != true) = false:=rfl
   have nf:(false != false) = false:=rfl
   have ns:(s != s) = false:=by simp
   have et:(t == t) = true:=by simp
   cases pa <;> cases pb <;> cases pe <;> cases pf
   all_goals
    have hX:=hX'.out
    have hY:=hY'.out
    have hS:=hS'.out
    have hT:=hT'.out
    simp only [Bool.not_true,Bool.not_false] at hX hY hS hT
    have hXY:=hXY'.out
    have hST:=hST'.out
    first | (replace hXY:=hXY rfl rfl) | clear hXY
    first | (replace hST:=hST rfl rfl) | clear hST
    clear hX' hY' hS' hT' hXY' hST'
    go_wp2_with (first | (go_at_call 16;with_reducible refine (k1c.out _).mono ?_;rintro r w' ⟨rfl,x,rfl⟩) | (go_at_call 16;with_reducible refine (k2c.out _).mono ?_;rintro r w' ⟨rfl,x,rfl⟩) | (go_at_call 17;with_reducible refine (k3c.out _).mono ?_;rintro r w' ⟨rfl,x,rfl⟩) | (go_at_call 17;with_reducible refine (k4c.out _).mono ?_;rintro r w' ⟨rfl,x,rfl⟩) | (go_at_call 18;with_reducible refine (k5c.out _).mono ?_;rintro r w' ⟨rfl,x,rfl⟩) | (go_at_call 19;with_reducible refine (k6c.out _).mono ?_;rintro r w' ⟨rfl,x,rfl⟩) | (go_at_call 9;with_reducible refine (knc.out _).mono ?_;rintro r w' ⟨rfl,x,rfl⟩))
    go_ret
    exact ⟨rfl,pp hz'.out⟩
theorem prog_text (p:Pr):((progT p).toList == ([]:List UInt8)) = !prB p:=by
 unfold progT
 cases h:prB p with
 | false =>
  rw [if_neg (by decide),Lib.toList_data]
  rfl
 | true =>
  rw [if_pos rfl,Lib.toList_data]
  cases e:p.tx with
  | nil=>exact absurd e (pr_some p)
  | cons c l=>rfl
theorem expr_text (e:Ex):((exprT e).toList == ([]:List UInt8)) = !Ex.may 16 e:=by
 unfold exprT
 cases h:Ex.may 16 e with
 | false =>
  rw [if_neg (by decide),Lib.toList_data]
  rfl
 | true =>
  rw [if_pos rfl,Lib.toList_data]
  cases k:e.tx with
  | nil=>exact absurd k (tx_some h)
  | cons c l=>rfl
theorem prog_two (w:World) (p q:Pr) (hp:p.In w) (hq:q.In w) (h1:prB p = true) (h2:prB q = true):((progT p).toList == (progT q).toList) = eqPr p q:=by
 unfold progT
 rw [if_pos h1,if_pos h2,Lib.toList_data,Lib.toList_data,Bool.eq_iff_iff,beq_iff_eq]
 exact ⟨fun h=>pr_inj h1 h2 hp hq h,fun h=>pr_tx h⟩
theorem expr_two (w:World) (e f:Ex) (he:e.In w) (hf:f.In w) (h1:Ex.may 16 e = true) (h2:Ex.may 16 f = true):((exprT e).toList == (exprT f).toList) = e.same f:=by
 unfold exprT
 rw [if_pos h1,if_pos h2,Lib.toList_data,Lib.toList_data,Bool.eq_iff_iff,beq_iff_eq]
 refine ⟨fun h=>?_,fun h=>same_tx e f h⟩
 have h:e.tx = f.tx:=h
 exact (tells_all e f 16 16 w w [] [] h1 h2 he hf (On.nil _) (On.nil _) (by rw [h])).1
theorem two_in (a b:Pr) (e f:Ex) (w:World) (hTab:Tab w) (ha:a.In w) (hb:b.In w) (he:e.In w) (hf:f.In w) (za:a.sz ≤ 1048576) (zb:b.sz ≤ 1048576) (ze:e.wt ≤ 1048576) (zf:f.wt ≤ 1048576) :
  Kp Tryz.prog w 4 #[.agg a.cells.toArray,.agg b.cells.toArray,.agg e.cells.toArray,.agg f.cells.toArray] (.bool true):=by
 exact two_of_ a.headers.p a.headers.l.length a.headers.cap a.metas.p a.metas.l.length a.metas.cap a.states.p a.states.l.length a.states.cap a.actions.p a.actions.l.length a.actions.cap a.tables.p a.tables.l.length a.tables.cap a.control.p a.control.l.length a.control.cap a.emit.p a.emit.l.length a.emit.cap b.headers.p b.headers.l.length b.headers.cap b.metas.p b.metas.l.length b.metas.cap b.states.p b.states.l.length b.states.cap b.actions.p b.actions.l.length b.actions.cap b.tables.p b.tables.l.length b.tables.cap b.control.p b.control.l.length b.control.cap b.emit.p b.emit.l.length b.emit.cap e.op e.lit.w e.lit.h e.lit.l e.head e.name e.hi e.lo e.p e.args.length e.cap f.op f.lit.w f.lit.h f.lit.l f.head f.name f.hi f.lo f.p f.args.length f.cap
  _ _ _ _ (prB a) (prB b) (Ex.may 16 e) (Ex.may 16 f) (eqPr a b) (e.same f) (progT a) (progT b) (exprT e) (exprT f) w
  (Kp.ofPure fun y=>ref_great a (plus w y) (ha.plus y) za) (Kp.ofPure fun y=>ref_great b (plus w y) (hb.plus y) zb) (Kp.ofPure fun y=>great_expr e (plus w y) (he.plus y) ze) (Kp.ofPure fun y=>great_expr f (plus w y) (hf.plus y) zf)
  (print_prog a w hTab ha za) (print_prog b w hTab hb zb) (print_expr e w hTab he ze) (print_expr f w hTab hf zf)
  (rmay_pr a w ha za) (rmay_pr b w hb zb) (rmay_in e w he ze) (rmay_in f w hf zf) (rsame_pr a b w ha hb za zb) (rsame_expr e f w he hf ze zf)
  (fun y=>law_known (plus w y) (tab_plus hTab y))
  (prog_text a) (prog_text b) (expr_text e) (expr_text f) (prog_two w a b ha hb) (expr_two w e f he hf)
end Go.Proofs.YtpjhokdehcpjbaaGreatDoor
