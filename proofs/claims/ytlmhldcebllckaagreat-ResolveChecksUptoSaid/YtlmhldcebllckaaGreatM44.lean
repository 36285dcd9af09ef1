/-
  WHAT IS PROVED HERE: a part of the proof (made narrower and merged by program; the parts: JE Jf).
-/
import Derived.Test.YtlmhldcebllckaaGreatRows
import Derived.WalkKit
import Derived.Lib.Hide
import Derived.WalkSpells
import Derived.WalkLawsBesides
import Derived.Laws.EntriesVeiled
import Derived.Shelf.Abstract
import Derived.Test.YtlmhldcebllckaaGreatM42
import Derived.Test.YtlmhldcebllckaaGreatM1
import Derived.Test.YtlmhldcebllckaaGreatM47
namespace Go.Proofs.YtlmhldcebllckaaGreat
open Go.RowKit
mutual
/-- May it, and all in it, be, but for its depth? -/
def Ex.ok:Ex → Bool
 | .mk op lit hd nm h l p c args=>Ex.one (.mk op lit hd nm h l p c args) && ((!xShift op || amt2 args) && Ex.oks args)
def Ex.oks:List Ex → Bool
 | []=>true
 | e :: l=>e.ok && Ex.oks l
end
theorem Ex.oks_all:∀ l:List Ex,Ex.oks l = l.all Ex.ok
 | []=>by rw [Ex.oks];rfl
 | e :: l=>by rw [Ex.oks,Ex.oks_all l,List.all_cons]
theorem Ex.ok_eq (e:Ex):e.ok = (e.one && ((!xShift e.op || amt2 e.args) && e.args.all Ex.ok)):=by cases e;rw [Ex.ok,Ex.oks_all];rfl
set_option maxRecDepth 100000 in
set_option maxHeartbeats 8000000 in
theorem all_no (op lw lh ll:Int) (hd nm:ByteArray) (eh el:Int) (p:Option Addr) (n cap:Nat) (w:World) (h0:Kp Tryz.prog w 162 #[.agg #[.int .u8 op,.int .i64 lw,.int .u64 lh,.int .u64 ll,.string hd,.string nm,.int .i64 eh,.int .i64 el,.slice p n cap]] (.bool false)) :
  Kp Tryz.prog w 149 #[.agg #[.int .u8 op,.int .i64 lw,.int .u64 lh,.int .u64 ll,.string hd,.string nm,.int .i64 eh,.int .i64 el,.slice p n cap]] (.bool false):=by
 intro y0
 have h0:=h0.up y0
 obtain ⟨V,hV⟩:∃ V,plus w y0 = V:=⟨_,rfl⟩
 rw [hV] at h0 ⊢
 clear hV
 have h0:=Lib.hid h0
 go_enter Tryz.func149,Tryz.ntmps149
 go_wp2_with fail
 obtain ⟨W,yy,hW,⟨z,hz⟩,ca⟩:=box1n V _ 68
 rw [hW]
 have ca0:=ca 0 _ rfl
 have ca1:=ca 1 _ rfl
 have ca2:=ca 2 _ rfl
 have ca3:=ca 3 _ rfl
 have ca4:=ca 4 _ rfl
 have ca5:=ca 5 _ rfl
 have ca6:=ca 6 _ rfl
 have ca7:=ca 7 _ rfl
 have ca8:=ca 8 _ rfl
 have q0:=Lib.hid (kp_at hz h0.out)
 have hz':=Lib.hid hz
 clear hW hz ca
 refine (q0.out _).mono ?_
 rintro r w' ⟨rfl,x1,rfl⟩
 go_wp2_with fail
 go_ret
 exact ⟨rfl,pp hz'.out⟩
set_option maxRecDepth 100000 in
set_option maxHeartbeats 8000000 in
theorem all_plain (op lw lh ll:Int) (hd nm:ByteArray) (eh el:Int) (p:Option Addr) (n cap:Nat) (w:World) (h0:Kp Tryz.prog w 162 #[.agg #[.int .u8 op,.int .i64 lw,.int .u64 lh,.int .u64 ll,.string hd,.string nm,.int .i64 eh,.int .i64 el,.slice p n cap]] (.bool true))
  (args:List Ex) (hn:args.length = n) (hl:n ≤ 1048576) (hrow:RowAt w 9 Ex.cells p args) (ih:∀ x ∈ args,Kp Tryz.prog w 149 #[.agg x.cells.toArray] (.bool x.ok))
  (h14:(op == 14) = false) (h15:(op == 15) = false) :
  Kp Tryz.prog w 149 #[.agg #[.int .u8 op,.int .i64 lw,.int .u64 lh,.int .u64 ll,.string hd,.string nm,.int .i64 eh,.int .i64 el,.slice p n cap]] (.bool (args.all Ex.ok)):=by
 intro y0
 have h0:=h0.up y0
 have hrow:=hrow.plus y0
 have ih:=fun x hx=>(ih x hx).up y0
 obtain ⟨V,hV⟩:∃ V,plus w y0 = V:=⟨_,rfl⟩
 rw [hV] at h0 hrow ih ⊢
 clear hV
 obtain ⟨R,hR⟩:∃ R,args.all Ex.ok = R:=⟨_,rfl⟩
 have h0':=Lib.hid (show (args.drop 0).all Ex.ok = R from hR)
 rw [hR]
 have hn':=Lib.hid hn
 have hl':=Lib.hid hl
 have hrow':=Lib.hid hrow
 have ih':=Lib.hid ih
 clear hn hl hrow ih hR
 have h0:=Lib.hid h0
 go_enter Tryz.func149,Tryz.ntmps149
 go_wp2_with fail
 obtain ⟨W,yy,hW,⟨z,hz⟩,ca⟩:=box1n V _ 68
 rw [hW]
 have ca0:=ca 0 _ rfl
 have ca1:=ca 1 _ rfl
 have ca2:=ca 2 _ rfl
 have ca3:=ca 3 _ rfl
 have ca4:=ca 4 _ rfl
 have ca5:=ca 5 _ rfl
 have ca6:=ca 6 _ rfl
 have ca7:=ca 7 _ rfl
 have ca8:=ca 8 _ rfl
 have q0:=Lib.hid (kp_at hz h0.out)
 have hz':=Lib.hid hz
 clear hW hz ca
 refine (q0.out _).mono ?_
 rintro r w' ⟨rfl,x1,rfl⟩
 go_wp2
 go_loopw [4] (fun iv wr=>∃ k:Nat,k ≤ n ∧ iv = .int .i64 (k:Int) ∧ Hid ((args.drop k).all Ex.ok = R) ∧ ∃ y,wr = plus W y) (fun iv _=>n - (intOf iv).toNat)
 case atStart=>exact ⟨0,Nat.zero_le _,rfl,h0',by first | exact ⟨_,rfl⟩ | exact plus_alloc1 W _ _⟩
 case round =>
  obtain ⟨k,hk,rfl,hs,y,rfl⟩:=hrel
  by_cases hlt:k < n
  ·obtain ⟨a,ha⟩:∃ s,args[k]? = some s:=⟨args[k]'(by rw [hn'.out];exact hlt),List.getElem?_eq_getElem _⟩
   obtain ⟨pa2,rfl,hc⟩:=hrow'.out k a ha
   have hc:=hz'.out ▸ hc.plus z
   have q3:=kp_at hz'.out (ih'.out a (List.mem_of_getElem? ha))
   have hs1:(a.ok && (args.drop (k + 1)).all Ex.ok) = R:=by rw [← all_drop Ex.ok args k a ha];exact hs.out
   obtain ⟨Z,hZ⟩:∃ Z,a.ok = Z:=⟨_,rfl⟩
   rw [hZ] at q3 hs1
   obtain ⟨eop,⟨elw,elh,ell⟩,ehd,enm,eeh,eel,ep,ecap,eargs⟩:=a
   have q3:PureIn Tryz.prog W 149 #[.agg #[.int .u8 eop,.int .i64 elw,.int .u64 elh,.int .u64 ell,.string ehd,.string enm,.int .i64 eeh,.int .i64 eel,.slice ep eargs.length ecap]] (.bool Z):=q3
   have d0:=fun y=>(hc.plus y).c0 _ rfl
   have d1:=fun y=>(hc.plus y).cs 0 _ rfl
   have d2:=fun y=>(hc.plus y).cs 1 _ rfl
   have d3:=fun y=>(hc.plus y).cs 2 _ rfl
   have d4:=fun y=>(hc.plus y).cs 3 _ rfl
   have d5:=fun y=>(hc.plus y).cs 4 _ rfl
   have d6:=fun y=>(hc.plus y).cs 5 _ rfl
   have d7:=fun y=>(hc.plus y).cs 6 _ rfl
   have d8:=fun y=>(hc.plus y).cs 7 _ rfl
   simp only [Ex.op,Ex.lit,Ex.head,Ex.name,Ex.hi,Ex.lo,Ex.p,Ex.cap,Ex.args] at d0 d1 d2 d3 d4 d5 d6 d7 d8
   have q3':=Lib.hid q3
   have a6:=Lib.hid (wr_succ k n hlt hl'.out)
   clear q3 hZ hc ha hs
   cases Z with
   | true =>
    have hs2:=Lib.hid (show (args.drop (k + 1)).all Ex.ok = R by rw [← hs1,Bool.true_and])
    clear hs1
    go_wp2_with (go_at_call 149;refine (q3'.out _).mono ?_;rintro e w' ⟨rfl,x,rfl⟩)
    go_roundw
    case rel=>exact ⟨k + 1,hlt,congrArg (Value.int .i64) a6.out,hs2,x,rfl⟩
    case measure=>exact step_less k n hlt a6.out
   | false =>
    have hs2:=Lib.hid (show false = R by rw [← hs1,Bool.false_and])
    clear hs1
    go_wp2_with (go_at_call 149;refine (q3'.out _).mono ?_;rintro e w' ⟨rfl,x,rfl⟩)
    go_ret
    exact ⟨rb hs2.out,pp hz'.out⟩
  ·obtain rfl:k = n:=by omega
   have hs2:=Lib.hid (show true = R by
    rw [← hs.out,List.drop_of_length_le (by rw [hn'.out];exact Nat.le_refl _)];rfl)
   clear hs hlt hk
   go_wp2
   go_ret
   exact ⟨rb hs2.out,pp hz'.out⟩
set_option maxRecDepth 100000 in
set_option maxHeartbeats 8000000 in
theorem all_amt14 (op lw lh ll:Int) (hd nm:ByteArray) (eh el:Int) (p:Option Addr) (n cap:Nat) (pa:Addr) (b0:Int) (b1:Int) (b2:Int) (b3:Int) (b4:ByteArray) (b5:ByteArray) (b6:Int) (b7:Int) (b8p:Option Addr) (b8n:Nat) (b8c:Nat) (k:Int) (w:World) (h0:Kp Tryz.prog w 162 #[.agg #[.int .u8 op,.int .i64 lw,.int .u64 lh,.int .u64 ll,.string hd,.string nm,.int .i64 eh,.int .i64 el,.slice p n cap]] (.bool true))
  (hop:op = 14) (hp:p = some pa) (hn:n = 2) (hx:CellsAt w (pa.add 9) [.int .u8 b0,.int .i64 b1,.int .u64 b2,.int .u64 b3,.string b4,.string b5,.int .i64 b6,.int .i64 b7,.slice b8p b8n b8c])
  (h1:Kp Tryz.prog w 163 #[.agg #[.int .u64 b2,.int .u64 b3],.agg #[.int .u64 0,.int .u64 127]] (.int .i64 k))
  (hb:((b0 == 1) && ((b1 == 0) && decide (k ≤ 0))) = false) :
  Kp Tryz.prog w 149 #[.agg #[.int .u8 op,.int .i64 lw,.int .u64 lh,.int .u64 ll,.string hd,.string nm,.int .i64 eh,.int .i64 el,.slice p n cap]] (.bool false):=by
 intro y0
 have h0:=h0.up y0
 have hx:=hx.plus y0
 have h1:=h1.up y0
 obtain ⟨V,hV⟩:∃ V,plus w y0 = V:=⟨_,rfl⟩
 rw [hV] at h0 hx h1 ⊢
 clear hV
 subst hp hn
 have s14:(op == 14) = true:=by rw [hop];rfl
 clear hop
 by_cases c0:(b0 != 1) = true
 case pos =>
  have h0:=Lib.hid h0
  go_enter Tryz.func149,Tryz.ntmps149
  go_wp2_with fail
  obtain ⟨W,yy,hW,⟨z,hz⟩,ca⟩:=box1n V _ 68
  rw [hW]
  have ca0:=ca 0 _ rfl
  have ca1:=ca 1 _ rfl
  have ca2:=ca 2 _ rfl
  have ca3:=ca 3 _ rfl
  have ca4:=ca 4 _ rfl
  have ca5:=ca 5 _ rfl
  have ca6:=ca 6 _ rfl
  have ca7:=ca 7 _ rfl
  have ca8:=ca 8 _ rfl
  have q0:=Lib.hid (kp_at hz h0.out)
  have e0:∀ y,(plus W y).cell? ⟨pa.block,pa.off + 9,none⟩ = some (.int .u8 b0):=fun y=>((cellsat_at hz hx).plus y).c0 _ rfl
  have e1:∀ y,(plus W y).cell? ⟨pa.block,pa.off + 9 + 1,none⟩ = some (.int .i64 b1):=fun y=>((cellsat_at hz hx).plus y).cs 0 _ rfl
  have e2:∀ y,(plus W y).cell? ⟨pa.block,pa.off + 9 + 2,none⟩ = some (.int .u64 b2):=fun y=>((cellsat_at hz hx).plus y).cs 1 _ rfl
  have e3:∀ y,(plus W y).cell? ⟨pa.block,pa.off + 9 + 3,none⟩ = some (.int .u64 b3):=fun y=>((cellsat_at hz hx).plus y).cs 2 _ rfl
  have e4:∀ y,(plus W y).cell? ⟨pa.block,pa.off + 9 + 4,none⟩ = some (.string b4):=fun y=>((cellsat_at hz hx).plus y).cs 3 _ rfl
  have e5:∀ y,(plus W y).cell? ⟨pa.block,pa.off + 9 + 5,none⟩ = some (.string b5):=fun y=>((cellsat_at hz hx).plus y).cs 4 _ rfl
  have e6:∀ y,(plus W y).cell? ⟨pa.block,pa.off + 9 + 6,none⟩ = some (.int .i64 b6):=fun y=>((cellsat_at hz hx).plus y).cs 5 _ rfl
  have e7:∀ y,(plus W y).cell? ⟨pa.block,pa.off + 9 + 7,none⟩ = some (.int .i64 b7):=fun y=>((cellsat_at hz hx).plus y).cs 6 _ rfl
  have e8:∀ y,(plus W y).cell? ⟨pa.block,pa.off + 9 + 8,none⟩ = some (.slice b8p b8n b8c):=fun y=>((cellsat_at hz hx).plus y).cs 7 _ rfl
  have q1:=Lib.hid (kp_at hz h1)
  have h12:(1:Int) < (2:Int):=by decide
  have hz':=Lib.hid hz
  clear hW hz ca
  refine (q0.out _).mono ?_
  rintro r w' ⟨rfl,x1,rfl⟩
  clear h1 hx
  go_wp2_with fail
  go_ret
  exact ⟨rfl,by first | (rw [hz'.out,plus_plus];exact ⟨_,rfl⟩) | (obtain ⟨x',hx'⟩:=plus_alloc1 W _ _;rw [hx',hz'.out,plus_plus];exact ⟨_,rfl⟩)⟩
 case neg =>
  have c0:(b0 != 1) = false:=by simpa using c0
  by_cases c1:(b1 != 0) = true
  case pos =>
   have h0:=Lib.hid h0
   go_enter Tryz.func149,Tryz.ntmps149
   go_wp2_with fail
   obtain ⟨W,yy,hW,⟨z,hz⟩,ca⟩:=box1n V _ 68
   rw [hW]
   have ca0:=ca 0 _ rfl
   have ca1:=ca 1 _ rfl
   have ca2:=ca 2 _ rfl
   have ca3:=ca 3 _ rfl
   have ca4:=ca 4 _ rfl
   have ca5:=ca 5 _ rfl
   have ca6:=ca 6 _ rfl
   have ca7:=ca 7 _ rfl
   have ca8:=ca 8 _ rfl
   have q0:=Lib.hid (kp_at hz h0.out)
   have e0:∀ y,(plus W y).cell? ⟨pa.block,pa.off + 9,none⟩ = some (.int .u8 b0):=fun y=>((cellsat_at hz hx).plus y).c0 _ rfl
   have e1:∀ y,(plus W y).cell? ⟨pa.block,pa.off + 9 + 1,none⟩ = some (.int .i64 b1):=fun y=>((cellsat_at hz hx).plus y).cs 0 _ rfl
   have e2:∀ y,(plus W y).cell? ⟨pa.block,pa.off + 9 + 2,none⟩ = some (.int .u64 b2):=fun y=>((cellsat_at hz hx).plus y).cs 1 _ rfl
   have e3:∀ y,(plus W y).cell? ⟨pa.block,pa.off + 9 + 3,none⟩ = some (.int .u64 b3):=fun y=>((cellsat_at hz hx).plus y).cs 2 _ rfl
   have e4:∀ y,(plus W y).cell? ⟨pa.block,pa.off + 9 + 4,none⟩ = some (.string b4):=fun y=>((cellsat_at hz hx).plus y).cs 3 _ rfl
   have e5:∀ y,(plus W y).cell? ⟨pa.block,pa.off + 9 + 5,none⟩ = some (.string b5):=fun y=>((cellsat_at hz hx).plus y).cs 4 _ rfl
   have e6:∀ y,(plus W y).cell? ⟨pa.block,pa.off + 9 + 6,none⟩ = some (.int .i64 b6):=fun y=>((cellsat_at hz hx).plus y).cs 5 _ rfl
   have e7:∀ y,(plus W y).cell? ⟨pa.block,pa.off + 9 + 7,none⟩ = some (.int .i64 b7):=fun y=>((cellsat_at hz hx).plus y).cs 6 _ rfl
   have e8:∀ y,(plus W y).cell? ⟨pa.block,pa.off + 9 + 8,none⟩ = some (.slice b8p b8n b8c):=fun y=>((cellsat_at hz hx).plus y).cs 7 _ rfl
   have q1:=Lib.hid (kp_at hz h1)
   have h12:(1:Int) < (2:Int):=by decide
   have hz':=Lib.hid hz
   clear hW hz ca
   refine (q0.out _).mono ?_
   rintro r w' ⟨rfl,x1,rfl⟩
   clear h1 hx
   go_wp2_with fail
   go_ret
   exact ⟨rfl,by first | (rw [hz'.out,plus_plus];exact ⟨_,rfl⟩) | (obtain ⟨x',hx'⟩:=plus_alloc1 W _ _;rw [hx',hz'.out,plus_plus];exact ⟨_,rfl⟩)⟩
  case neg =>
   have c1:(b1 != 0) = false:=by simpa using c1
   have c2:(0:Int) < k:=by
    have d0:b0 = 1:=by simpa using c0
    have d1:b1 = 0:=by simpa using c1
    rw [d0,d1] at hb
    simp at hb
    omega
   have h0:=Lib.hid h0
   go_enter Tryz.func149,Tryz.ntmps149
   go_wp2_with fail
   obtain ⟨W,yy,hW,⟨z,hz⟩,ca⟩:=box1n V _ 68
   rw [hW]
   have ca0:=ca 0 _ rfl
   have ca1:=ca 1 _ rfl
   have ca2:=ca 2 _ rfl
   have ca3:=ca 3 _ rfl
   have ca4:=ca 4 _ rfl
   have ca5:=ca 5 _ rfl
   have ca6:=ca 6 _ rfl
   have ca7:=ca 7 _ rfl
   have ca8:=ca 8 _ rfl
   have q0:=Lib.hid (kp_at hz h0.out)
   have e0:∀ y,(plus W y).cell? ⟨pa.block,pa.off + 9,none⟩ = some (.int .u8 b0):=fun y=>((cellsat_at hz hx).plus y).c0 _ rfl
   have e1:∀ y,(plus W y).cell? ⟨pa.block,pa.off + 9 + 1,none⟩ = some (.int .i64 b1):=fun y=>((cellsat_at hz hx).plus y).cs 0 _ rfl
   have e2:∀ y,(plus W y).cell? ⟨pa.block,pa.off + 9 + 2,none⟩ = some (.int .u64 b2):=fun y=>((cellsat_at hz hx).plus y).cs 1 _ rfl
   have e3:∀ y,(plus W y).cell? ⟨pa.block,pa.off + 9 + 3,none⟩ = some (.int .u64 b3):=fun y=>((cellsat_at hz hx).plus y).cs 2 _ rfl
   have e4:∀ y,(plus W y).cell? ⟨pa.block,pa.off + 9 + 4,none⟩ = some (.string b4):=fun y=>((cellsat_at hz hx).plus y).cs 3 _ rfl
   have e5:∀ y,(plus W y).cell? ⟨pa.block,pa.off + 9 + 5,none⟩ = some (.string b5):=fun y=>((cellsat_at hz hx).plus y).cs 4 _ rfl
   have e6:∀ y,(plus W y).cell? ⟨pa.block,pa.off + 9 + 6,none⟩ = some (.int .i64 b6):=fun y=>((cellsat_at hz hx).plus y).cs 5 _ rfl
   have e7:∀ y,(plus W y).cell? ⟨pa.block,pa.off + 9 + 7,none⟩ = some (.int .i64 b7):=fun y=>((cellsat_at hz hx).plus y).cs 6 _ rfl
   have e8:∀ y,(plus W y).cell? ⟨pa.block,pa.off + 9 + 8,none⟩ = some (.slice b8p b8n b8c):=fun y=>((cellsat_at hz hx).plus y).cs 7 _ rfl
   have q1:=Lib.hid (kp_at hz h1)
   have h12:(1:Int) < (2:Int):=by decide
   have hz':=Lib.hid hz
   clear hW hz ca
   refine (q0.out _).mono ?_
   rintro r w' ⟨rfl,x1,rfl⟩
   clear h1 hx
   go_wp2_with (go_at_call 163;refine pure_call1 q1.out ?_;rintro r w' ⟨rfl,x,rfl⟩)
   go_ret
   exact ⟨rfl,by first | (rw [hz'.out,plus_plus];exact ⟨_,rfl⟩) | (obtain ⟨x',hx'⟩:=plus_alloc1 W _ _;rw [hx',hz'.out,plus_plus];exact ⟨_,rfl⟩)⟩
set_option maxRecDepth 100000 in
set_option maxHeartbeats 8000000 in
theorem all_amt15 (op lw lh ll:Int) (hd nm:ByteArray) (eh el:Int) (p:Option Addr) (n cap:Nat) (pa:Addr) (b0:Int) (b1:Int) (b2:Int) (b3:Int) (b4:ByteArray) (b5:ByteArray) (b6:Int) (b7:Int) (b8p:Option Addr) (b8n:Nat) (b8c:Nat) (k:Int) (w:World) (h0:Kp Tryz.prog w 162 #[.agg #[.int .u8 op,.int .i64 lw,.int .u64 lh,.int .u64 ll,.string hd,.string nm,.int .i64 eh,.int .i64 el,.slice p n cap]] (.bool true))
  (hop:op = 15) (hp:p = some pa) (hn:n = 2) (hx:CellsAt w (pa.add 9) [.int .u8 b0,.int .i64 b1,.int .u64 b2,.int .u64 b3,.string b4,.string b5,.int .i64 b6,.int .i64 b7,.slice b8p b8n b8c])
  (h1:Kp Tryz.prog w 163 #[.agg #[.int .u64 b2,.int .u64 b3],.agg #[.int .u64 0,.int .u64 127]] (.int .i64 k))
  (hb:((b0 == 1) && ((b1 == 0) && decide (k ≤ 0))) = false) :
  Kp Tryz.prog w 149 #[.agg #[.int .u8 op,.int .i64 lw,.int .u64 lh,.int .u64 ll,.string hd,.string nm,.int .i64 eh,.int .i64 el,.slice p n cap]] (.bool false):=by
 intro y0
 have h0:=h0.up y0
 have hx:=hx.plus y0
 have h1:=h1.up y0
 obtain ⟨V,hV⟩:∃ V,plus w y0 = V:=⟨_,rfl⟩
 rw [hV] at h0 hx h1 ⊢
 clear hV
 subst hp hn
 have s14:(op == 14) = false:=by rw [hop];rfl
 have s15:(op == 15) = true:=by rw [hop];rfl
 clear hop
 by_cases c0:(b0 != 1) = true
 case pos =>
  have h0:=Lib.hid h0
  go_enter Tryz.func149,Tryz.ntmps149
  go_wp2_with fail
  obtain ⟨W,yy,hW,⟨z,hz⟩,ca⟩:=box1n V _ 68
  rw [hW]
  have ca0:=ca 0 _ rfl
  have ca1:=ca 1 _ rfl
  have ca2:=ca 2 _ rfl
  have ca3:=ca 3 _ rfl
  have ca4:=ca 4 _ rfl
  have ca5:=ca 5 _ rfl
  have ca6:=ca 6 _ rfl
  have ca7:=ca 7 _ rfl
  have ca8:=ca 8 _ rfl
  have q0:=Lib.hid (kp_at hz h0.out)
  have e0:∀ y,(plus W y).cell? ⟨pa.block,pa.off + 9,none⟩ = some (.int .u8 b0):=fun y=>((cellsat_at hz hx).plus y).c0 _ rfl
  have e1:∀ y,(plus W y).cell? ⟨pa.block,pa.off + 9 + 1,none⟩ = some (.int .i64 b1):=fun y=>((cellsat_at hz hx).plus y).cs 0 _ rfl
  have e2:∀ y,(plus W y).cell? ⟨pa.block,pa.off + 9 + 2,none⟩ = some (.int .u64 b2):=fun y=>((cellsat_at hz hx).plus y).cs 1 _ rfl
  have e3:∀ y,(plus W y).cell? ⟨pa.block,pa.off + 9 + 3,none⟩ = some (.int .u64 b3):=fun y=>((cellsat_at hz hx).plus y).cs 2 _ rfl
  have e4:∀ y,(plus W y).cell? ⟨pa.block,pa.off + 9 + 4,none⟩ = some (.string b4):=fun y=>((cellsat_at hz hx).plus y).cs 3 _ rfl
  have e5:∀ y,(plus W y).cell? ⟨pa.block,pa.off + 9 + 5,none⟩ = some (.string b5):=fun y=>((cellsat_at hz hx).plus y).cs 4 _ rfl
  have e6:∀ y,(plus W y).cell? ⟨pa.block,pa.off + 9 + 6,none⟩ = some (.int .i64 b6):=fun y=>((cellsat_at hz hx).plus y).cs 5 _ rfl
  have e7:∀ y,(plus W y).cell? ⟨pa.block,pa.off + 9 + 7,none⟩ = some (.int .i64 b7):=fun y=>((cellsat_at hz hx).plus y).cs 6 _ rfl
  have e8:∀ y,(plus W y).cell? ⟨pa.block,pa.off + 9 + 8,none⟩ = some (.slice b8p b8n b8c):=fun y=>((cellsat_at hz hx).plus y).cs 7 _ rfl
  have q1:=Lib.hid (kp_at hz h1)
  have h12:(1:Int) < (2:Int):=by decide
  have hz':=Lib.hid hz
  clear hW hz ca
  refine (q0.out _).mono ?_
  rintro r w' ⟨rfl,x1,rfl⟩
  clear h1 hx
  go_wp2_with fail
  go_ret
  exact ⟨rfl,by first | (rw [hz'.out,plus_plus];exact ⟨_,rfl⟩) | (obtain ⟨x',hx'⟩:=plus_alloc1 W _ _;rw [hx',hz'.out,plus_plus];exact ⟨_,rfl⟩)⟩
 case neg =>
  have c0:(b0 != 1) = false:=by simpa using c0
  by_cases c1:(b1 != 0) = true
  case pos =>
   have h0:=Lib.hid h0
   go_enter Tryz.func149,Tryz.ntmps149
   go_wp2_with fail
   obtain ⟨W,yy,hW,⟨z,hz⟩,ca⟩:=box1n V _ 68
   rw [hW]
   have ca0:=ca 0 _ rfl
   have ca1:=ca 1 _ rfl
   have ca2:=ca 2 _ rfl
   have ca3:=ca 3 _ rfl
   have ca4:=ca 4 _ rfl
   have ca5:=ca 5 _ rfl
   have ca6:=ca 6 _ rfl
   have ca7:=ca 7 _ rfl
   have ca8:=ca 8 _ rfl
   have q0:=Lib.hid (kp_at hz h0.out)
   have e0:∀ y,(plus W y).cell? ⟨pa.block,pa.off + 9,none⟩ = some (.int .u8 b0):=fun y=>((cellsat_at hz hx).plus y).c0 _ rfl
   have e1:∀ y,(plus W y).cell? ⟨pa.block,pa.off + 9 + 1,none⟩ = some (.int .i64 b1):=fun y=>((cellsat_at hz hx).plus y).cs 0 _ rfl
   have e2:∀ y,(plus W y).cell? ⟨pa.block,pa.off + 9 + 2,none⟩ = some (.int .u64 b2):=fun y=>((cellsat_at hz hx).plus y).cs 1 _ rfl
   have e3:∀ y,(plus W y).cell? ⟨pa.block,pa.off + 9 + 3,none⟩ = some (.int .u64 b3):=fun y=>((cellsat_at hz hx).plus y).cs 2 _ rfl
   have e4:∀ y,(plus W y).cell? ⟨pa.block,pa.off + 9 + 4,none⟩ = some (.string b4):=fun y=>((cellsat_at hz hx).plus y).cs 3 _ rfl
   have e5:∀ y,(plus W y).cell? ⟨pa.block,pa.off + 9 + 5,none⟩ = some (.string b5):=fun y=>((cellsat_at hz hx).plus y).cs 4 _ rfl
   have e6:∀ y,(plus W y).cell? ⟨pa.block,pa.off + 9 + 6,none⟩ = some (.int .i64 b6):=fun y=>((cellsat_at hz hx).plus y).cs 5 _ rfl
   have e7:∀ y,(plus W y).cell? ⟨pa.block,pa.off + 9 + 7,none⟩ = some (.int .i64 b7):=fun y=>((cellsat_at hz hx).plus y).cs 6 _ rfl
   have e8:∀ y,(plus W y).cell? ⟨pa.block,pa.off + 9 + 8,none⟩ = some (.slice b8p b8n b8c):=fun y=>((cellsat_at hz hx).plus y).cs 7 _ rfl
   have q1:=Lib.hid (kp_at hz h1)
   have h12:(1:Int) < (2:Int):=by decide
   have hz':=Lib.hid hz
   clear hW hz ca
   refine (q0.out _).mono ?_
   rintro r w' ⟨rfl,x1,rfl⟩
   clear h1 hx
   go_wp2_with fail
   go_ret
   exact ⟨rfl,by first | (rw [hz'.out,plus_plus];exact ⟨_,rfl⟩) | (obtain ⟨x',hx'⟩:=plus_alloc1 W _ _;rw [hx',hz'.out,plus_plus];exact ⟨_,rfl⟩)⟩
  case neg =>
   have c1:(b1 != 0) = false:=by simpa using c1
   have c2:(0:Int) < k:=by
    have d0:b0 = 1:=by simpa using c0
    have d1:b1 = 0:=by simpa using c1
    rw [d0,d1] at hb
    simp at hb
    omega
   have h0:=Lib.hid h0
   go_enter Tryz.func149,Tryz.ntmps149
   go_wp2_with fail
   obtain ⟨W,yy,hW,⟨z,hz⟩,ca⟩:=box1n V _ 68
   rw [hW]
   have ca0:=ca 0 _ rfl
   have ca1:=ca 1 _ rfl
   have ca2:=ca 2 _ rfl
   have ca3:=ca 3 _ rfl
   have ca4:=ca 4 _ rfl
   have ca5:=ca 5 _ rfl
   have ca6:=ca 6 _ rfl
   have ca7:=ca 7 _ rfl
   have ca8:=ca 8 _ rfl
   have q0:=Lib.hid (kp_at hz h0.out)
   have e0:∀ y,(plus W y).cell? ⟨pa.block,pa.off + 9,none⟩ = some (.int .u8 b0):=fun y=>((cellsat_at hz hx).plus y).c0 _ rfl
   have e1:∀ y,(plus W y).cell? ⟨pa.block,pa.off + 9 + 1,none⟩ = some (.int .i64 b1):=fun y=>((cellsat_at hz hx).plus y).cs 0 _ rfl
   have e2:∀ y,(plus W y).cell? ⟨pa.block,pa.off + 9 + 2,none⟩ = some (.int .u64 b2):=fun y=>((cellsat_at hz hx).plus y).cs 1 _ rfl
   have e3:∀ y,(plus W y).cell? ⟨pa.block,pa.off + 9 + 3,none⟩ = some (.int .u64 b3):=fun y=>((cellsat_at hz hx).plus y).cs 2 _ rfl
   have e4:∀ y,(plus W y).cell? ⟨pa.block,pa.off + 9 + 4,none⟩ = some (.string b4):=fun y=>((cellsat_at hz hx).plus y).cs 3 _ rfl
   have e5:∀ y,(plus W y).cell? ⟨pa.block,pa.off + 9 + 5,none⟩ = some (.string b5):=fun y=>((cellsat_at hz hx).plus y).cs 4 _ rfl
   have e6:∀ y,(plus W y).cell? ⟨pa.block,pa.off + 9 + 6,none⟩ = some (.int .i64 b6):=fun y=>((cellsat_at hz hx).plus y).cs 5 _ rfl
   have e7:∀ y,(plus W y).cell? ⟨pa.block,pa.off + 9 + 7,none⟩ = some (.int .i64 b7):=fun y=>((cellsat_at hz hx).plus y).cs 6 _ rfl
   have e8:∀ y,(plus W y).cell? ⟨pa.block,pa.off + 9 + 8,none⟩ = some (.slice b8p b8n b8c):=fun y=>((cellsat_at hz hx).plus y).cs 7 _ rfl
   have q1:=Lib.hid (kp_at hz h1)
   have h12:(1:Int) < (2:Int):=by decide
   have hz':=Lib.hid hz
   clear hW hz ca
   refine (q0.out _).mono ?_
   rintro r w' ⟨rfl,x1,rfl⟩
   clear h1 hx
   go_wp2_with (go_at_call 163;refine pure_call1 q1.out ?_;rintro r w' ⟨rfl,x,rfl⟩)
   go_ret
   exact ⟨rfl,by first | (rw [hz'.out,plus_plus];exact ⟨_,rfl⟩) | (obtain ⟨x',hx'⟩:=plus_alloc1 W _ _;rw [hx',hz'.out,plus_plus];exact ⟨_,rfl⟩)⟩
set_option maxRecDepth 100000 in
set_option maxHeartbeats 8000000 in
theorem all_shift14 (op lw lh ll:Int) (hd nm:ByteArray) (eh el:Int) (p:Option Addr) (n cap:Nat) (pa:Addr) (b0:Int) (b1:Int) (b2:Int) (b3:Int) (b4:ByteArray) (b5:ByteArray) (b6:Int) (b7:Int) (b8p:Option Addr) (b8n:Nat) (b8c:Nat) (kk:Int) (w:World) (h0:Kp Tryz.prog w 162 #[.agg #[.int .u8 op,.int .i64 lw,.int .u64 lh,.int .u64 ll,.string hd,.string nm,.int .i64 eh,.int .i64 el,.slice p n cap]] (.bool true))
  (args:List Ex) (hn:args.length = n) (hl:n ≤ 1048576) (hrow:RowAt w 9 Ex.cells p args) (ih:∀ x ∈ args,Kp Tryz.prog w 149 #[.agg x.cells.toArray] (.bool x.ok))
  (hop:op = 14) (hp:p = some pa) (hn2:n = 2) (hx:CellsAt w (pa.add 9) [.int .u8 b0,.int .i64 b1,.int .u64 b2,.int .u64 b3,.string b4,.string b5,.int .i64 b6,.int .i64 b7,.slice b8p b8n b8c])
  (h1:Kp Tryz.prog w 163 #[.agg #[.int .u64 b2,.int .u64 b3],.agg #[.int .u64 0,.int .u64 127]] (.int .i64 kk))
  (c0:(b0 != 1) = false) (c1:(b1 != 0) = false) (c2:¬ (0:Int) < kk) :
  Kp Tryz.prog w 149 #[.agg #[.int .u8 op,.int .i64 lw,.int .u64 lh,.int .u64 ll,.string hd,.string nm,.int .i64 eh,.int .i64 el,.slice p n cap]] (.bool (args.all Ex.ok)):=by
 intro y0
 have h0:=h0.up y0
 have hrow:=hrow.plus y0
 have ih:=fun x hx=>(ih x hx).up y0
 have hx:=hx.plus y0
 have h1:=h1.up y0
 obtain ⟨V,hV⟩:∃ V,plus w y0 = V:=⟨_,rfl⟩
 rw [hV] at h0 hrow ih hx h1 ⊢
 clear hV
 subst hp hn2
 have s14:(op == 14) = true:=by rw [hop];rfl
 clear hop
 obtain ⟨R,hR⟩:∃ R,args.all Ex.ok = R:=⟨_,rfl⟩
 have h0':=Lib.hid (show (args.drop 0).all Ex.ok = R from hR)
 rw [hR]
 have hn':=Lib.hid hn
 have hl':=Lib.hid hl
 have hrow':=Lib.hid hrow
 have ih':=Lib.hid ih
 clear hn hl hrow ih hR
 have h0:=Lib.hid h0
 go_enter Tryz.func149,Tryz.ntmps149
 go_wp2_with fail
 obtain ⟨W,yy,hW,⟨z,hz⟩,ca⟩:=box1n V _ 68
 rw [hW]
 have ca0:=ca 0 _ rfl
 have ca1:=ca 1 _ rfl
 have ca2:=ca 2 _ rfl
 have ca3:=ca 3 _ rfl
 have ca4:=ca 4 _ rfl
 have ca5:=ca 5 _ rfl
 have ca6:=ca 6 _ rfl
 have ca7:=ca 7 _ rfl
 have ca8:=ca 8 _ rfl
 have q0:=Lib.hid (kp_at hz h0.out)
 have e0:∀ y,(plus W y).cell? ⟨pa.block,pa.off + 9,none⟩ = some (.int .u8 b0):=fun y=>((cellsat_at hz hx).plus y).c0 _ rfl
 have e1:∀ y,(plus W y).cell? ⟨pa.block,pa.off + 9 + 1,none⟩ = some (.int .i64 b1):=fun y=>((cellsat_at hz hx).plus y).cs 0 _ rfl
 have e2:∀ y,(plus W y).cell? ⟨pa.block,pa.off + 9 + 2,none⟩ = some (.int .u64 b2):=fun y=>((cellsat_at hz hx).plus y).cs 1 _ rfl
 have e3:∀ y,(plus W y).cell? ⟨pa.block,pa.off + 9 + 3,none⟩ = some (.int .u64 b3):=fun y=>((cellsat_at hz hx).plus y).cs 2 _ rfl
 have e4:∀ y,(plus W y).cell? ⟨pa.block,pa.off + 9 + 4,none⟩ = some (.string b4):=fun y=>((cellsat_at hz hx).plus y).cs 3 _ rfl
 have e5:∀ y,(plus W y).cell? ⟨pa.block,pa.off + 9 + 5,none⟩ = some (.string b5):=fun y=>((cellsat_at hz hx).plus y).cs 4 _ rfl
 have e6:∀ y,(plus W y).cell? ⟨pa.block,pa.off + 9 + 6,none⟩ = some (.int .i64 b6):=fun y=>((cellsat_at hz hx).plus y).cs 5 _ rfl
 have e7:∀ y,(plus W y).cell? ⟨pa.block,pa.off + 9 + 7,none⟩ = some (.int .i64 b7):=fun y=>((cellsat_at hz hx).plus y).cs 6 _ rfl
 have e8:∀ y,(plus W y).cell? ⟨pa.block,pa.off + 9 + 8,none⟩ = some (.slice b8p b8n b8c):=fun y=>((cellsat_at hz hx).plus y).cs 7 _ rfl
 have q1:=Lib.hid (kp_at hz h1)
 have h12:(1:Int) < (2:Int):=by decide
 have hz':=Lib.hid hz
 clear hW hz ca
 refine (q0.out _).mono ?_
 rintro r w' ⟨rfl,x1,rfl⟩
 clear h1 hx
 go_wp2_with (go_at_call 163;refine pure_call1 q1.out ?_;rintro r w' ⟨rfl,x,rfl⟩)
 go_loopw [4] (fun iv wr=>∃ k:Nat,k ≤ 2 ∧ iv = .int .i64 (k:Int) ∧ Hid ((args.drop k).all Ex.ok = R) ∧ ∃ y,wr = plus W y) (fun iv _=>2 - (intOf iv).toNat)
 case atStart=>exact ⟨0,Nat.zero_le _,rfl,h0',by first | exact ⟨_,rfl⟩ | exact plus_alloc1 W _ _⟩
 case round =>
  obtain ⟨k,hk,rfl,hs,y,rfl⟩:=hrel
  by_cases hlt:k < 2
  ·obtain ⟨a,ha⟩:∃ s,args[k]? = some s:=⟨args[k]'(by rw [hn'.out];exact hlt),List.getElem?_eq_getElem _⟩
   obtain ⟨pa2,hpe,hc⟩:=hrow'.out k a ha
   obtain rfl:=Option.some.inj hpe
   clear hpe
   have hc:=hz'.out ▸ hc.plus z
   have q3:=kp_at hz'.out (ih'.out a (List.mem_of_getElem? ha))
   have hs1:(a.ok && (args.drop (k + 1)).all Ex.ok) = R:=by rw [← all_drop Ex.ok args k a ha];exact hs.out
   obtain ⟨Z,hZ⟩:∃ Z,a.ok = Z:=⟨_,rfl⟩
   rw [hZ] at q3 hs1
   obtain ⟨eop,⟨elw,elh,ell⟩,ehd,enm,eeh,eel,ep,ecap,eargs⟩:=a
   have q3:PureIn Tryz.prog W 149 #[.agg #[.int .u8 eop,.int .i64 elw,.int .u64 elh,.int .u64 ell,.string ehd,.string enm,.int .i64 eeh,.int .i64 eel,.slice ep eargs.length ecap]] (.bool Z):=q3
   have d0:=fun y=>(hc.plus y).c0 _ rfl
   have d1:=fun y=>(hc.plus y).cs 0 _ rfl
   have d2:=fun y=>(hc.plus y).cs 1 _ rfl
   have d3:=fun y=>(hc.plus y).cs 2 _ rfl
   have d4:=fun y=>(hc.plus y).cs 3 _ rfl
   have d5:=fun y=>(hc.plus y).cs 4 _ rfl
   have d6:=fun y=>(hc.plus y).cs 5 _ rfl
   have d7:=fun y=>(hc.plus y).cs 6 _ rfl
   have d8:=fun y=>(hc.plus y).cs 7 _ rfl
   simp only [Ex.op,Ex.lit,Ex.head,Ex.name,Ex.hi,Ex.lo,Ex.p,Ex.cap,Ex.args] at d0 d1 d2 d3 d4 d5 d6 d7 d8
   have q3':=Lib.hid q3
   have a6:=Lib.hid (wr_succ k 2 hlt hl'.out)
   clear q3 hZ hc ha hs
   cases Z with
   | true =>
    have hs2:=Lib.hid (show (args.drop (k + 1)).all Ex.ok = R by rw [← hs1,Bool.true_and])
    clear hs1
    go_wp2_with (go_at_call 149;refine (q3'.out _).mono ?_;rintro e w' ⟨rfl,x,rfl⟩)
    go_roundw
    case rel=>exact ⟨k + 1,hlt,rfl,hs2,x,rfl⟩
    case measure=>exact Nat.sub_lt_sub_left hlt (Nat.lt_succ_self k)
   | false =>
    have hs2:=Lib.hid (show false = R by rw [← hs1,Bool.false_and])
    clear hs1
    go_wp2_with (go_at_call 149;refine (q3'.out _).mono ?_;rintro e w' ⟨rfl,x,rfl⟩)
    go_ret
    exact ⟨rb hs2.out,pp hz'.out⟩
  ·obtain rfl:k = 2:=by omega
   have hs2:=Lib.hid (show true = R by
    rw [← hs.out,List.drop_of_length_le (by rw [hn'.out];exact Nat.le_refl _)];rfl)
   clear hs hlt hk
   go_wp2
   go_ret
   exact ⟨rb hs2.out,pp hz'.out⟩
set_option maxRecDepth 100000 in
set_option maxHeartbeats 8000000 in
theorem all_shift15 (op lw lh ll:Int) (hd nm:ByteArray) (eh el:Int) (p:Option Addr) (n cap:Nat) (pa:Addr) (b0:Int) (b1:Int) (b2:Int) (b3:Int) (b4:ByteArray) (b5:ByteArray) (b6:Int) (b7:Int) (b8p:Option Addr) (b8n:Nat) (b8c:Nat) (kk:Int) (w:World) (h0:Kp Tryz.prog w 162 #[.agg #[.int .u8 op,.int .i64 lw,.int .u64 lh,.int .u64 ll,.string hd,.string nm,.int .i64 eh,.int .i64 el,.slice p n cap]] (.bool true))
  (args:List Ex) (hn:args.length = n) (hl:n ≤ 1048576) (hrow:RowAt w 9 Ex.cells p args) (ih:∀ x ∈ args,Kp Tryz.prog w 149 #[.agg x.cells.toArray] (.bool x.ok))
  (hop:op = 15) (hp:p = some pa) (hn2:n = 2) (hx:CellsAt w (pa.add 9) [.int .u8 b0,.int .i64 b1,.int .u64 b2,.int .u64 b3,.string b4,.string b5,.int .i64 b6,.int .i64 b7,.slice b8p b8n b8c])
  (h1:Kp Tryz.prog w 163 #[.agg #[.int .u64 b2,.int .u64 b3],.agg #[.int .u64 0,.int .u64 127]] (.int .i64 kk))
  (c0:(b0 != 1) = false) (c1:(b1 != 0) = false) (c2:¬ (0:Int) < kk) :
  Kp Tryz.prog w 149 #[.agg #[.int .u8 op,.int .i64 lw,.int .u64 lh,.int .u64 ll,.string hd,.string nm,.int .i64 eh,.int .i64 el,.slice p n cap]] (.bool (args.all Ex.ok)):=by
 intro y0
 have h0:=h0.up y0
 have hrow:=hrow.plus y0
 have ih:=fun x hx=>(ih x hx).up y0
 have hx:=hx.plus y0
 have h1:=h1.up y0
 obtain ⟨V,hV⟩:∃ V,plus w y0 = V:=⟨_,rfl⟩
 rw [hV] at h0 hrow ih hx h1 ⊢
 clear hV
 subst hp hn2
 have s14:(op == 14) = false:=by rw [hop];rfl
 have s15:(op == 15) = true:=by rw [hop];rfl
 clear hop
 obtain ⟨R,hR⟩:∃ R,args.all Ex.ok = R:=⟨_,rfl⟩
 have h0':=Lib.hid (show (args.drop 0).all Ex.ok = R from hR)
 rw [hR]
 have hn':=Lib.hid hn
 have hl':=Lib.hid hl
 have hrow':=Lib.hid hrow
 have ih':=Lib.hid ih
 clear hn hl hrow ih hR
 have h0:=Lib.hid h0
 go_enter Tryz.func149,Tryz.ntmps149
 go_wp2_with fail
 obtain ⟨W,yy,hW,⟨z,hz⟩,ca⟩:=box1n V _ 68
 rw [hW]
 have ca0:=ca 0 _ rfl
 have ca1:=ca 1 _ rfl
 have ca2:=ca 2 _ rfl
 have ca3:=ca 3 _ rfl
 have ca4:=ca 4 _ rfl
 have ca5:=ca 5 _ rfl
 have ca6:=ca 6 _ rfl
 have ca7:=ca 7 _ rfl
 have ca8:=ca 8 _ rfl
 have q0:=Lib.hid (kp_at hz h0.out)
 have e0:∀ y,(plus W y).cell? ⟨pa.block,pa.off + 9,none⟩ = some (.int .u8 b0):=fun y=>((cellsat_at hz hx).plus y).c0 _ rfl
 have e1:∀ y,(plus W y).cell? ⟨pa.block,pa.off + 9 + 1,none⟩ = some (.int .i64 b1):=fun y=>((cellsat_at hz hx).plus y).cs 0 _ rfl
 have e2:∀ y,(plus W y).cell? ⟨pa.block,pa.off + 9 + 2,none⟩ = some (.int .u64 b2):=fun y=>((cellsat_at hz hx).plus y).cs 1 _ rfl
 have e3:∀ y,(plus W y).cell? ⟨pa.block,pa.off + 9 + 3,none⟩ = some (.int .u64 b3):=fun y=>((cellsat_at hz hx).plus y).cs 2 _ rfl
 have e4:∀ y,(plus W y).cell? ⟨pa.block,pa.off + 9 + 4,none⟩ = some (.string b4):=fun y=>((cellsat_at hz hx).plus y).cs 3 _ rfl
 have e5:∀ y,(plus W y).cell? ⟨pa.block,pa.off + 9 + 5,none⟩ = some (.string b5):=fun y=>((cellsat_at hz hx).plus y).cs 4 _ rfl
 have e6:∀ y,(plus W y).cell? ⟨pa.block,pa.off + 9 + 6,none⟩ = some (.int .i64 b6):=fun y=>((cellsat_at hz hx).plus y).cs 5 _ rfl
 have e7:∀ y,(plus W y).cell? ⟨pa.block,pa.off + 9 + 7,none⟩ = some (.int .i64 b7):=fun y=>((cellsat_at hz hx).plus y).cs 6 _ rfl
 have e8:∀ y,(plus W y).cell? ⟨pa.block,pa.off + 9 + 8,none⟩ = some (.slice b8p b8n b8c):=fun y=>((cellsat_at hz hx).plus y).cs 7 _ rfl
 have q1:=Lib.hid (kp_at hz h1)
 have h12:(1:Int) < (2:Int):=by decide
 have hz':=Lib.hid hz
 clear hW hz ca
 refine (q0.out _).mono ?_
 rintro r w' ⟨rfl,x1,rfl⟩
 clear h1 hx
 go_wp2_with (go_at_call 163;refine pure_call1 q1.out ?_;rintro r w' ⟨rfl,x,rfl⟩)
 go_loopw [4] (fun iv wr=>∃ k:Nat,k ≤ 2 ∧ iv = .int .i64 (k:Int) ∧ Hid ((args.drop k).all Ex.ok = R) ∧ ∃ y,wr = plus W y) (fun iv _=>2 - (intOf iv).toNat)
 case atStart=>exact ⟨0,Nat.zero_le _,rfl,h0',by first | exact ⟨_,rfl⟩ | exact plus_alloc1 W _ _⟩
 case round =>
  obtain ⟨k,hk,rfl,hs,y,rfl⟩:=hrel
  by_cases hlt:k < 2
  ·obtain ⟨a,ha⟩:∃ s,args[k]? = some s:=⟨args[k]'(by rw [hn'.out];exact hlt),List.getElem?_eq_getElem _⟩
   obtain ⟨pa2,hpe,hc⟩:=hrow'.out k a ha
   obtain rfl:=Option.some.inj hpe
   clear hpe
   have hc:=hz'.out ▸ hc.plus z
   have q3:=kp_at hz'.out (ih'.out a (List.mem_of_getElem? ha))
   have hs1:(a.ok && (args.drop (k + 1)).all Ex.ok) = R:=by rw [← all_drop Ex.ok args k a ha];exact hs.out
   obtain ⟨Z,hZ⟩:∃ Z,a.ok = Z:=⟨_,rfl⟩
   rw [hZ] at q3 hs1
   obtain ⟨eop,⟨elw,elh,ell⟩,ehd,enm,eeh,eel,ep,ecap,eargs⟩:=a
   have q3:PureIn Tryz.prog W 149 #[.agg #[.int .u8 eop,.int .i64 elw,.int .u64 elh,.int .u64 ell,.string ehd,.string enm,.int .i64 eeh,.int .i64 eel,.slice ep eargs.length ecap]] (.bool Z):=q3
   have d0:=fun y=>(hc.plus y).c0 _ rfl
   have d1:=fun y=>(hc.plus y).cs 0 _ rfl
   have d2:=fun y=>(hc.plus y).cs 1 _ rfl
   have d3:=fun y=>(hc.plus y).cs 2 _ rfl
   have d4:=fun y=>(hc.plus y).cs 3 _ rfl
   have d5:=fun y=>(hc.plus y).cs 4 _ rfl
   have d6:=fun y=>(hc.plus y).cs 5 _ rfl
   have d7:=fun y=>(hc.plus y).cs 6 _ rfl
   have d8:=fun y=>(hc.plus y).cs 7 _ rfl
   simp only [Ex.op,Ex.lit,Ex.head,Ex.name,Ex.hi,Ex.lo,Ex.p,Ex.cap,Ex.args] at d0 d1 d2 d3 d4 d5 d6 d7 d8
   have q3':=Lib.hid q3
   have a6:=Lib.hid (wr_succ k 2 hlt hl'.out)
   clear q3 hZ hc ha hs
   cases Z with
   | true =>
    have hs2:=Lib.hid (show (args.drop (k + 1)).all Ex.ok = R by rw [← hs1,Bool.true_and])
    clear hs1
    go_wp2_with (go_at_call 149;refine (q3'.out _).mono ?_;rintro e w' ⟨rfl,x,rfl⟩)
    go_roundw
    case rel=>exact ⟨k + 1,hlt,rfl,hs2,x,rfl⟩
    case measure=>exact Nat.sub_lt_sub_left hlt (Nat.lt_succ_self k)
   | false =>
    have hs2:=Lib.hid (show false = R by rw [← hs1,Bool.false_and])
    clear hs1
    go_wp2_with (go_at_call 149;refine (q3'.out _).mono ?_;rintro e w' ⟨rfl,x,rfl⟩)
    go_ret
    exact ⟨rb hs2.out,pp hz'.out⟩
  ·obtain rfl:k = 2:=by omega
   have hs2:=Lib.hid (show true = R by
    rw [← hs.out,List.drop_of_length_le (by rw [hn'.out];exact Nat.le_refl _)];rfl)
   clear hs hlt hk
   go_wp2
   go_ret
   exact ⟨rb hs2.out,pp hz'.out⟩
theorem all_in (e:Ex):∀ w:World,e.In w → e.wt ≤ 1048576 → Kp Tryz.prog w 149 #[.agg e.cells.toArray] (.bool e.ok):=by
 induction e using Ex.ind with
 | h e ih =>
  intro w h hz
  have h1:=rone_in e w h
  have hwt:=Ex.wt_eq e
  have hlen:=length_le_sum Ex.wt Ex.wt_pos e.args
  have hl9:e.args.length ≤ 1048576:=by omega
  have h':=h
  obtain ⟨_,hop,lit,_,_,_,_,len,cap,row,kids⟩:=h'
  have ihk:∀ x ∈ e.args,Kp Tryz.prog w 149 #[.agg x.cells.toArray] (.bool x.ok):=fun x hx=>ih x hx w (kids x hx) (by have:=le_sum_of Ex.wt e.args x hx;omega)
  cases ho:e.one with
  | false =>
   rw [ho] at h1
   exact (all_no e.op e.lit.w e.lit.h e.lit.l e.head e.name e.hi e.lo e.p e.args.length e.cap w h1).eqv (by rw [Ex.ok_eq,ho,Bool.false_and])
  | true =>
   rw [ho] at h1
   have hargs:(e.args.length:Int) = xArgs e.op:=by
    unfold Ex.one at ho
    simp only [Bool.and_eq_true,beq_iff_eq] at ho
    exact ho.2.2.2.2.2
   by_cases hs:e.op = 14 ∨ e.op = 15
   ·have h2:xArgs e.op = 2:=by
     unfold xArgs
     rw [if_neg (by omega),if_pos (by omega)]
    have hS:xShift e.op = true:=by
     unfold xShift
     rw [Bool.or_eq_true,beq_iff_eq,beq_iff_eq]
     exact hs
    have hn:e.args.length = 2:=by omega
    obtain ⟨a,b,hab⟩:∃ a b,e.args = [a,b]:=by
     match e.args,hn with
     | [a,b],_=>exact ⟨a,b,rfl⟩
    obtain ⟨pa,hp,hc⟩:=row 1 b (by rw [hab];rfl)
    have hb:b.In w:=kids b (by rw [hab];simp)
    obtain ⟨_,_,blit,_⟩:=hb
    have k4:Kp Tryz.prog w 163 #[.agg #[.int .u64 b.lit.h,.int .u64 b.lit.l],.agg #[.int .u64 0,.int .u64 127]] (.int .i64 (cmpN b.lit.n 127)) :=
     Kp.all (by rw [Lt.nv_eq blit];exact ref_cmp b.lit.n 127 (Lt.n_lt blit) (by decide))
    have hA2:amt2 e.args = amtB b:=by rw [hab];rfl
    cases hb2:amtB b with
    | false =>
     have hb3:((b.op == 1) && ((b.lit.w == 0) && decide (cmpN b.lit.n 127 ≤ 0))) = false:=hb2
     rcases hs with hs | hs
     ·exact (all_amt14 e.op e.lit.w e.lit.h e.lit.l e.head e.name e.hi e.lo e.p e.args.length e.cap pa b.op b.lit.w b.lit.h b.lit.l b.head b.name b.hi b.lo b.p b.args.length b.cap _ w h1 hs hp hn hc k4 hb3).eqv (by
       rw [Ex.ok_eq,ho,hS,hA2,hb2];rfl)
     ·exact (all_amt15 e.op e.lit.w e.lit.h e.lit.l e.head e.name e.hi e.lo e.p e.args.length e.cap pa b.op b.lit.w b.lit.h b.lit.l b.head b.name b.hi b.lo b.p b.args.length b.cap _ w h1 hs hp hn hc k4 hb3).eqv (by
       rw [Ex.ok_eq,ho,hS,hA2,hb2];rfl)
    | true =>
     have hb3:((b.op == 1) && ((b.lit.w == 0) && decide (cmpN b.lit.n 127 ≤ 0))) = true:=hb2
     simp only [Bool.and_eq_true,beq_iff_eq,decide_eq_true_eq] at hb3
     obtain ⟨e0,e1,e2⟩:=hb3
     have f2:¬ (0:Int) < cmpN b.lit.n 127:=Int.not_lt.mpr e2
     have f0:(b.op != 1) = false:=by rw [e0];rfl
     have f1:(b.lit.w != 0) = false:=by rw [e1];rfl
     rcases hs with hs | hs
     ·exact (all_shift14 e.op e.lit.w e.lit.h e.lit.l e.head e.name e.hi e.lo e.p e.args.length e.cap pa b.op b.lit.w b.lit.h b.lit.l b.head b.name b.hi b.lo b.p b.args.length b.cap _ w h1 e.args rfl hl9 row ihk hs hp hn hc k4 f0 f1 f2).eqv (by
       rw [Ex.ok_eq,ho,hS,hA2,hb2];rfl)
     ·exact (all_shift15 e.op e.lit.w e.lit.h e.lit.l e.head e.name e.hi e.lo e.p e.args.length e.cap pa b.op b.lit.w b.lit.h b.lit.l b.head b.name b.hi b.lo b.p b.args.length b.cap _ w h1 e.args rfl hl9 row ihk hs hp hn hc k4 f0 f1 f2).eqv (by
       rw [Ex.ok_eq,ho,hS,hA2,hb2];rfl)
   ·have hS:xShift e.op = false:=by
     unfold xShift
     rw [Bool.or_eq_false_iff,beq_eq_false_iff_ne,beq_eq_false_iff_ne]
     omega
    exact (all_plain e.op e.lit.w e.lit.h e.lit.l e.head e.name e.hi e.lo e.p e.args.length e.cap w h1 e.args rfl hl9 row ihk (by rw [beq_eq_false_iff_ne];omega) (by rw [beq_eq_false_iff_ne];omega)).eqv (by
     rw [Ex.ok_eq,ho,hS];rfl)
set_option maxRecDepth 100000 in
set_option maxHeartbeats 8000000 in
theorem rmay_of (a0:Int) (a1:Int) (a2:Int) (a3:Int) (a4:ByteArray) (a5:ByteArray) (a6:Int) (a7:Int) (a8p:Option Addr) (a8n:Nat) (a8c:Nat) (d:Int) (s1:Bool) (w:World)
  (h0:Kp Tryz.prog w 148 #[.agg #[.int .u8 a0,.int .i64 a1,.int .u64 a2,.int .u64 a3,.string a4,.string a5,.int .i64 a6,.int .i64 a7,.slice a8p a8n a8c]] (.int .i64 d))
  (h1:Kp Tryz.prog w 149 #[.agg #[.int .u8 a0,.int .i64 a1,.int .u64 a2,.int .u64 a3,.string a4,.string a5,.int .i64 a6,.int .i64 a7,.slice a8p a8n a8c]] (.bool s1)) :
  Kp Tryz.prog w 122 #[.agg #[.int .u8 a0,.int .i64 a1,.int .u64 a2,.int .u64 a3,.string a4,.string a5,.int .i64 a6,.int .i64 a7,.slice a8p a8n a8c]] (.bool (decide (d ≤ 16) && s1)):=by
 intro y0
 have h0:=h0.up y0
 have h1:=h1.up y0
 obtain ⟨V,hV⟩:∃ V,plus w y0 = V:=⟨_,rfl⟩
 rw [hV] at h0 h1 ⊢
 clear hV
 obtain ⟨R,hR⟩:∃ R,(decide (d ≤ 16) && s1) = R:=⟨_,rfl⟩
 rw [hR]
 by_cases q1:d ≤ 16
 case neg =>
  have hF:=Lib.hid (show (false) = R by first | exact hR | (rw [← hR];simp [q1]))
  clear hR
  clear h1
  have h0:=Lib.hid h0
  go_enter Tryz.func122,Tryz.ntmps122
  go_wp2_with fail
  obtain ⟨W,yy,hW,⟨z,hz⟩,cb0⟩:=box1n V _ 68
  rw [hW]
  have c0_0:=cb0 0 _ rfl
  have c0_1:=cb0 1 _ rfl
  have c0_2:=cb0 2 _ rfl
  have c0_3:=cb0 3 _ rfl
  have c0_4:=cb0 4 _ rfl
  have c0_5:=cb0 5 _ rfl
  have c0_6:=cb0 6 _ rfl
  have c0_7:=cb0 7 _ rfl
  have c0_8:=cb0 8 _ rfl
  have q0c:=Lib.hid (kp_at hz h0.out)
  have hz':=Lib.hid hz
  clear hW hz cb0
  refine (q0c.out _).mono ?_
  rintro r w' ⟨rfl,x1,rfl⟩
  go_wp2_with fail
  go_ret
  exact ⟨rb hF.out,pp hz'.out⟩
 case pos =>
  cases s1
  case false =>
   have hF:=Lib.hid (show (false) = R by first | exact hR | (rw [← hR];simp [q1]))
   clear hR
   have h0:=Lib.hid h0
   have h1:=Lib.hid h1
   go_enter Tryz.func122,Tryz.ntmps122
   go_wp2_with fail
   obtain ⟨W,yy,hW,⟨z,hz⟩,cb0⟩:=box1n V _ 68
   rw [hW]
   have c0_0:=cb0 0 _ rfl
   have c0_1:=cb0 1 _ rfl
   have c0_2:=cb0 2 _ rfl
   have c0_3:=cb0 3 _ rfl
   have c0_4:=cb0 4 _ rfl
   have c0_5:=cb0 5 _ rfl
   have c0_6:=cb0 6 _ rfl
   have c0_7:=cb0 7 _ rfl
   have c0_8:=cb0 8 _ rfl
   have q0c:=Lib.hid (kp_at hz h0.out)
   have q1c:=Lib.hid (kp_at hz h1.out)
   have hz':=Lib.hid hz
   clear hW hz cb0
   refine (q0c.out _).mono ?_
   rintro r w' ⟨rfl,x1,rfl⟩
   go_wp2_with (first | (go_at_call 149;with_reducible refine (q1c.out _).mono ?_;rintro r w' ⟨rfl,x,rfl⟩))
   go_ret
   exact ⟨rb hF.out,pp hz'.out⟩
  case true =>
   have hF:=Lib.hid (show (true) = R by first | exact hR | (rw [← hR];simp [q1]))
   clear hR
   have h0:=Lib.hid h0
   have h1:=Lib.hid h1
   go_enter Tryz.func122,Tryz.ntmps122
   go_wp2_with fail
   obtain ⟨W,yy,hW,⟨z,hz⟩,cb0⟩:=box1n V _ 68
   rw [hW]
   have c0_0:=cb0 0 _ rfl
   have c0_1:=cb0 1 _ rfl
   have c0_2:=cb0 2 _ rfl
   have c0_3:=cb0 3 _ rfl
   have c0_4:=cb0 4 _ rfl
   have c0_5:=cb0 5 _ rfl
   have c0_6:=cb0 6 _ rfl
   have c0_7:=cb0 7 _ rfl
   have c0_8:=cb0 8 _ rfl
   have q0c:=Lib.hid (kp_at hz h0.out)
   have q1c:=Lib.hid (kp_at hz h1.out)
   have hz':=Lib.hid hz
   clear hW hz cb0
   refine (q0c.out _).mono ?_
   rintro r w' ⟨rfl,x1,rfl⟩
   go_wp2_with (first | (go_at_call 149;with_reducible refine (q1c.out _).mono ?_;rintro r w' ⟨rfl,x,rfl⟩))
   go_ret
   exact ⟨rb hF.out,pp hz'.out⟩
theorem Ex.dps_iff:∀ (l:List Ex) (m k:Nat),Ex.dps m l ≤ k ↔ m ≤ k ∧ ∀ x ∈ l,1 + x.dp ≤ k
 | [],m,k=>by simp [Ex.dps]
 | e :: l,m,k=>by
  rw [Ex.dps,Ex.dps_iff l]
  constructor
  ·intro ⟨h1,h2⟩
   by_cases hc:m < 1 + e.dp
   ·rw [if_pos hc] at h1
    exact ⟨by omega,fun x hx=>by
     rcases List.mem_cons.1 hx with rfl | hx
     ·exact h1
     ·exact h2 x hx⟩
   ·rw [if_neg hc] at h1
    exact ⟨h1,fun x hx=>by
     rcases List.mem_cons.1 hx with rfl | hx
     ·omega
     ·exact h2 x hx⟩
  ·intro ⟨h1,h2⟩
   have h3:=h2 e (by simp)
   refine ⟨?_,fun x hx=>h2 x (by simp [hx])⟩
   by_cases hc:m < 1 + e.dp
   ·rw [if_pos hc];exact h3
   ·rw [if_neg hc];exact h1
theorem all_and {α:Type} (f g h:α → Bool):∀ (l:List α),(∀ x ∈ l,f x = (g x && h x)) → l.all f = (l.all g && l.all h)
 | [],_=>rfl
 | x :: l,H=>by
  rw [List.all_cons,List.all_cons,List.all_cons,H x (by simp),all_and f g h l (fun y hy=>H y (by simp [hy]))]
  cases g x <;> cases h x <;> cases l.all g <;> cases l.all h <;> rfl
theorem Ex.may_ok:∀ (n:Nat) (e:Ex),Ex.may n e = (decide (e.dp ≤ n) && e.ok)
 | 0,e=>by
  have:=Ex.dp_pos e
  rw [decide_eq_false (by omega),Bool.false_and];cases e;rfl
 | n + 1,e=>by
  have hd:decide (e.dp ≤ n + 1) = e.args.all fun x=>decide (x.dp ≤ n):=by
   rw [Bool.eq_iff_iff,decide_eq_true_eq,List.all_eq_true,Ex.dp_eq,Ex.dps_iff]
   constructor
   ·intro ⟨_,h⟩ x hx
    have:=h x hx
    rw [decide_eq_true_eq];omega
   ·intro h
    refine ⟨by omega,fun x hx=>?_⟩
    have:=h x hx
    rw [decide_eq_true_eq] at this;omega
  rw [hd,Ex.may,Ex.ok_eq]
  unfold Ex.fits eachB Ex.one
  rw [all_and (Ex.may n) (fun x=>decide (x.dp ≤ n)) Ex.ok e.args (fun x _=>Ex.may_ok n x)]
  have hl:(decide (xArgs e.op ≤ (e.args.length:Int)) && decide ((e.args.length:Int) ≤ xArgs e.op)) = ((e.args.length:Int) == xArgs e.op):=by
   rw [Bool.eq_iff_iff,Bool.and_eq_true,decide_eq_true_eq,decide_eq_true_eq,beq_iff_eq]
   omega
  rw [hl]
  cases xIs e.op <;> cases litB (xLit e.op) e.lit <;> cases nmB e.head (xHead e.op) <;> cases nmB e.name (xName e.op) <;> cases endB e.hi e.lo (xSlice e.op) <;> cases ((e.args.length:Int) == xArgs e.op) <;> cases (!xShift e.op || amt2 e.args) <;> simp
theorem rmay_in (e:Ex) (w:World) (h:e.In w) (hz:e.wt ≤ 1048576):Kp Tryz.prog w 122 #[.agg e.cells.toArray] (.bool (Ex.may 16 e)) :=
 (rmay_of e.op e.lit.w e.lit.h e.lit.l e.head e.name e.hi e.lo e.p e.args.length e.cap (e.dp:Int) e.ok w (Kp.of fun _ ⟨y,hy⟩=>ref_depth e _ (hy ▸ h.plus y) hz) (all_in e w h hz)).eqv (by
  rw [Ex.may_ok]
  congr 2
  rw [decide_eq_decide];omega)
theorem rexprs_in (L:Sl Ex) (w:World) (h:L.In w 9 Ex.cells (Ex.In w)) (hz:L.size Ex.wt ≤ 1048576):Kp Tryz.prog w 119 #[L.v] (.bool (L.l.all (Ex.may 16))) :=
 rexprs (Ex.may 16) (Ex.In w) w L h (len_le Ex.wt Ex.wt_pos _ hz) (fun x hx=>rmay_in x w (h.kids x hx) (Nat.le_trans (le_sum_of Ex.wt L.l x hx) (by unfold Sl.size at hz;omega)))
end Go.Proofs.YtlmhldcebllckaaGreat
