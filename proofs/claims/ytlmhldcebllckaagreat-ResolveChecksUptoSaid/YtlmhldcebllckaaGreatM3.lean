/-
  WHAT IS PROVED HERE: a part of the proof (made narrower and merged by program; the parts: FG Za Zb).
-/
import Derived.Test.YtlmhldcebllckaaGreatRows
import Derived.WalkKit
import Derived.Lib.Hide
import Derived.WalkSpells
import Derived.WalkLawsBesides
import Derived.Laws.EntriesVeiled
import Derived.Test.YtlmhldcebllckaaGreatM1
import Derived.Test.YtlmhldcebllckaaGreatM2
namespace Go.Proofs.YtlmhldcebllckaaGreat
open Go.RowKit
/-- Called with these in whatever world that has more than this one: this is handed back, and the world has blocks and draws of the call's own beside what there was. -/
abbrev Kp (P:Program) (w:World) (f:FuncId) (args:Array Value) (v:Value):Prop:=∀ y,Calls P f args (plus w y) fun e w'=>e = .returned v ∧ ∃ x,w' = plus (plus w y) x
section
variable {P:Program} {w:World} {f:FuncId} {args:Array Value} {v:Value}
theorem Kp.up (h:Kp P w f args v) (z:Ext):Kp P (plus w z) f args v:=fun y=>by
 rw [plus_plus];exact h _
theorem Kp.pure (h:Kp P w f args v):PureIn P w f args v:=fun y=>(h y).mono fun _ _ ⟨he,x,hx⟩=>⟨he,by rw [hx,plus_plus];exact ⟨_,rfl⟩⟩
theorem Kp.of (h:∀ w',(∃ y,w' = plus w y) → Calls P f args w' fun e w''=>e = .returned v ∧ ∃ x,w'' = plus w' x):Kp P w f args v:=fun y=>h _ ⟨y,rfl⟩
theorem Kp.ofPure (h:∀ y,PureIn P (plus w y) f args v):Kp P w f args v:=fun y=>by
 have:=h y ⟨#[],(plus w y).drawn⟩
 rwa [plus_self] at this
theorem Kp.eqv {v':Value} (h:Kp P w f args v) (e:v = v'):Kp P w f args v':=e ▸ h
end
theorem pure_call2 {P:Program} {W:World} {f:FuncId} {args:Array Value} {v:Value} (h:PureIn P W f args v) {y:Ext} {a b:Obj} {Q:Ending → World → Prop} (hQ:∀ e w',(e = .returned v ∧ ∃ x,w' = plus W x) → Q e w') :
  Calls P f args (((plus W y).alloc a).alloc b) Q:=by
 obtain ⟨z,hz⟩:=plus_alloc2 W y a b
 rw [hz]
 exact (h z).mono hQ
theorem plus_alloc1 (w:World) (y:Ext) (a:Obj):∃ x,(plus w y).alloc a = plus w x:=by
 obtain ⟨z,hz⟩:=plus_of_below ((Below.refl (plus w y).heap.size (plus w y)).alloc (Nat.le_refl _) a)
 rw [hz,plus_plus]
 exact ⟨_,rfl⟩
theorem pure_call1 {P:Program} {W:World} {f:FuncId} {args:Array Value} {v:Value} (h:PureIn P W f args v) {y:Ext} {a:Obj} {Q:Ending → World → Prop} (hQ:∀ e w',(e = .returned v ∧ ∃ x,w' = plus W x) → Q e w') :
  Calls P f args ((plus W y).alloc a) Q:=by
 obtain ⟨z,hz⟩:=plus_alloc1 W y a
 rw [hz]
 exact (h z).mono hQ
theorem cell_alloc {w:World} {a:Addr} {v:Value} (h:w.cell? a = some v) (x:Obj):(w.alloc x).cell? a = some v:=by
 obtain ⟨z,hz⟩:=plus_alloc1 w ⟨#[],w.drawn⟩ x
 rw [plus_self] at hz
 rw [hz]
 exact cell_keep h z
def shp_Field (l:List Value):Prop:=∃ (c0:ByteArray) (c1:Int),l = [.string c0,.int .i64 c1]
def shp_Header (l:List Value):Prop:=∃ (c0:ByteArray) (c1p:Option Addr) (c1n:Nat) (c1c:Nat),l = [.string c0,.slice c1p c1n c1c]
def shp_Lit (l:List Value):Prop:=∃ (c0:Int) (c1:Int) (c2:Int),l = [.int .i64 c0,.int .u64 c1,.int .u64 c2]
def shp_Expr (l:List Value):Prop:=∃ (c0:Int) (c1:Int) (c2:Int) (c3:Int) (c4:ByteArray) (c5:ByteArray) (c6:Int) (c7:Int) (c8p:Option Addr) (c8n:Nat) (c8c:Nat),l = [.int .u8 c0,.int .i64 c1,.int .u64 c2,.int .u64 c3,.string c4,.string c5,.int .i64 c6,.int .i64 c7,.slice c8p c8n c8c]
def shp_Set (l:List Value):Prop:=∃ (c0:Int) (c1:Int) (c2:Int) (c3:Int) (c4:Int) (c5:Int) (c6:Int),l = [.int .u8 c0,.int .i64 c1,.int .u64 c2,.int .u64 c3,.int .i64 c4,.int .u64 c5,.int .u64 c6]
def shp_Case (l:List Value):Prop:=∃ (c0:Bool) (c1p:Option Addr) (c1n:Nat) (c1c:Nat) (c2:ByteArray),l = [.bool c0,.slice c1p c1n c1c,.string c2]
def shp_State (l:List Value):Prop:=∃ (c0:ByteArray) (c1p:Option Addr) (c1n:Nat) (c1c:Nat) (c2:ByteArray) (c3p:Option Addr) (c3n:Nat) (c3c:Nat) (c4p:Option Addr) (c4n:Nat) (c4c:Nat),l = [.string c0,.slice c1p c1n c1c,.string c2,.slice c3p c3n c3c,.slice c4p c4n c4c]
def shp_Stmt (l:List Value):Prop:=∃ (c0:Int) (c1:ByteArray) (c2:ByteArray) (c3:Int) (c4:Int) (c5:Int) (c6:Int) (c7:ByteArray) (c8:ByteArray) (c9:Int) (c10:Int) (c11p:Option Addr) (c11n:Nat) (c11c:Nat) (c12p:Option Addr) (c12n:Nat) (c12c:Nat) (c13p:Option Addr) (c13n:Nat) (c13c:Nat),l = [.int .u8 c0,.string c1,.string c2,.int .u8 c3,.int .i64 c4,.int .u64 c5,.int .u64 c6,.string c7,.string c8,.int .i64 c9,.int .i64 c10,.slice c11p c11n c11c,.slice c12p c12n c12c,.slice c13p c13n c13c]
def shp_Action (l:List Value):Prop:=∃ (c0:ByteArray) (c1p:Option Addr) (c1n:Nat) (c1c:Nat) (c2p:Option Addr) (c2n:Nat) (c2c:Nat),l = [.string c0,.slice c1p c1n c1c,.slice c2p c2n c2c]
def shp_Key (l:List Value):Prop:=∃ (c0:Int) (c1:Int) (c2:Int) (c3:Int) (c4:ByteArray) (c5:ByteArray) (c6:Int) (c7:Int) (c8p:Option Addr) (c8n:Nat) (c8c:Nat) (c9:Int),l = [.int .u8 c0,.int .i64 c1,.int .u64 c2,.int .u64 c3,.string c4,.string c5,.int .i64 c6,.int .i64 c7,.slice c8p c8n c8c,.int .u8 c9]
def shp_Table (l:List Value):Prop:=∃ (c0:ByteArray) (c1p:Option Addr) (c1n:Nat) (c1c:Nat) (c2p:Option Addr) (c2n:Nat) (c2c:Nat) (c3:ByteArray) (c4p:Option Addr) (c4n:Nat) (c4c:Nat),l = [.string c0,.slice c1p c1n c1c,.slice c2p c2n c2c,.string c3,.slice c4p c4n c4c]
/-- So many, and each may be. -/
def eachB {α:Type} (lo hi:Int) (may:α → Bool) (l:List α):Bool:=decide (lo ≤ (l.length:Int)) && decide ((l.length:Int) ≤ hi) && l.all may
theorem all_drop {α:Type} (f:α → Bool) (l:List α) (k:Nat) (x:α) (hx:l[k]? = some x):(l.drop k).all f = (f x && (l.drop (k + 1)).all f):=by
 obtain ⟨h1,rfl⟩:=List.getElem?_eq_some_iff.1 hx
 rw [List.drop_eq_getElem_cons h1,List.all_cons]
theorem alloc0_plus (V:World):∃ x,V = plus V x:=⟨_,(plus_self V).symm⟩
theorem alloc1_plus (V:World) (a:Obj):∃ x,V.alloc a = plus V x:=plus_of_below ((Below.refl _ V).alloc (Nat.le_refl _) a)
theorem alloc2_plus (V:World) (a b:Obj):∃ x,(V.alloc a).alloc b = plus V x:=plus_of_below (((Below.refl _ V).alloc (Nat.le_refl _) a).alloc (by simp) b)
theorem calls_self {P:Program} {V:World} {f:FuncId} {args:Array Value} {v:Value} (h:Kp P V f args v):Calls P f args V fun e w'=>e = .returned v ∧ ∃ x,w' = plus V x:=by
 have:=h ⟨#[],V.drawn⟩
 rwa [plus_self] at this
theorem kp_at {P:Program} {V W:World} {z:Ext} {f:FuncId} {args:Array Value} {v:Value} (hz:W = plus V z) (h:Kp P V f args v):PureIn P W f args v:=by
 rw [hz];exact (h.up z).pure
theorem box1n (V:World) (c:Array Value) (t:TypeId):∃ W y,V.alloc (.cells c t) = plus W y ∧ (∃ z,W = plus V z) ∧ (∀ o v,c[o]? = v → ∀ y,(plus W y).cell? ⟨V.heap.size,o,none⟩ = v):=by
 obtain ⟨W,hW,hB,hs,ca,fa⟩:=box1 V c t
 exact ⟨W,⟨#[],W.drawn⟩,by rw [plus_self,hW],plus_of_below hB,ca⟩
theorem box2n (V:World) (c d:Array Value) (t u:TypeId):∃ W y,(V.alloc (.cells c t)).alloc (.cells d u) = plus W y ∧ (∃ z,W = plus V z) ∧ (∀ o v,c[o]? = v → ∀ y,(plus W y).cell? ⟨V.heap.size,o,none⟩ = v) ∧ (∀ o v,d[o]? = v → ∀ y,(plus W y).cell? ⟨V.heap.size + 1,o,none⟩ = v):=by
 obtain ⟨W,hW,hB,hs,ca,cb,fa,fb⟩:=box2 V c d t u
 exact ⟨W,⟨#[],W.drawn⟩,by rw [plus_self,hW],plus_of_below hB,ca,cb⟩
theorem cell_at {V W:World} {z:Ext} {a:Addr} {v:Value} (hz:W = plus V z) (h:V.cell? a = some v):W.cell? a = some v:=by rw [hz];exact cell_keep h z
/-- The number of the first one that is so, counted from k on; -1: there is none. -/
def firstI {α:Type} (q:α → Bool):List α → Nat → Int
 | [],_=>-1
 | x :: l,k=>if q x then (k:Int) else firstI q l (k + 1)
theorem firstI_drop {α:Type} (q:α → Bool) (l:List α) (k:Nat) (x:α) (hx:l[k]? = some x):firstI q (l.drop k) k = if q x then (k:Int) else firstI q (l.drop (k + 1)) (k + 1):=by
 obtain ⟨h1,rfl⟩:=List.getElem?_eq_some_iff.1 hx
 rw [List.drop_eq_getElem_cons h1,firstI]
set_option maxHeartbeats 8000000 in
theorem first_Header {α:Type} (cells:α → List Value) (hC:∀ x,shp_Header (cells x)) (may:α → Bool) (g:FuncId) (first caps:Array Value) (K:α → Prop) (w:World) (A:Sl α) (hA:A.In w 2 cells K) (hl:A.l.length ≤ 1048576)
  (hent:∀ args w,(callFunc g args).run Tryz.prog w = .ok (.enter g args) w)
  (hf:∀ x ∈ A.l,Kp Tryz.prog w g (first.push (.agg (cells x).toArray)++caps) (.bool (may x))) :
  Kp Tryz.prog w 26 #[A.v,.func (.func g) first caps] (.int .i64 (firstI may A.l 0)):=by
 intro y0
 obtain ⟨p,cap,l⟩:=A
 simp only [Sl.v] at hl hf ⊢
 obtain ⟨n,hn⟩:∃ n,l.length = n:=⟨_,rfl⟩
 have hA:=hA.row.plus y0
 have hf:=fun x hx=>((hf x hx).up y0).pure
 obtain ⟨W,hW⟩:∃ W,plus w y0 = W:=⟨_,rfl⟩
 rw [hW] at hA ⊢
 simp only [hW] at hf
 rw [hn] at hl
 clear hW
 obtain ⟨R,hR⟩:∃ R,firstI may l 0 = R:=⟨_,rfl⟩
 have h0:firstI may (l.drop 0) 0 = R:=hR
 rw [hn,hR]
 have hA':=Lib.hid hA
 have hn':=Lib.hid hn
 have hl':=Lib.hid hl
 have h0':=Lib.hid h0
 have hf':=Lib.hid hf
 have hC':=Lib.hid hC
 clear hA hl hn hR h0 hf hC
 go_enter Tryz.func26,Tryz.ntmps26
 go_wp2
 go_loopw [5,6,9] (fun _ _ iv wr=>∃ k:Nat,k ≤ n ∧ iv = .int .i64 (k:Int) ∧ Hid (firstI may (l.drop k) k = R) ∧ ∃ y,wr = plus W y) (fun _ _ iv _=>n - (intOf iv).toNat)
 case atStart=>exact ⟨0,Nat.zero_le _,rfl,h0',⟨#[],W.drawn⟩,(plus_self W).symm⟩
 case round =>
  obtain ⟨k,hk,rfl,hs,y,rfl⟩:=hrel
  by_cases hlt:k < n
  ·obtain ⟨a,ha⟩:∃ s,l[k]? = some s:=⟨l[k]'(by rw [hn'.out];exact hlt),List.getElem?_eq_getElem _⟩
   obtain ⟨pa,rfl,hc⟩:=hA'.out k a ha
   have q1:=hf'.out a (List.mem_of_getElem? ha)
   have hs1:=(firstI_drop may l k a ha).symm.trans hs.out
   obtain ⟨Z,hZ⟩:∃ Z,may a = Z:=⟨_,rfl⟩
   rw [hZ] at q1 hs1
   obtain ⟨c0,c1p,c1n,c1c,ea⟩:=hC'.out a
   rw [ea] at q1
   have d0:=fun y=>(hc.plus y).c0 _ (by rw [ea];rfl)
   have d1:=fun y=>(hc.plus y).cs 0 _ (by rw [ea];rfl)
   have q1':=Lib.hid q1
   have a6:=Lib.hid (wr_succ k n hlt hl'.out)
   clear q1 hZ hc ha hs ea
   cases Z with
   | false =>
    have hs2:=Lib.hid (show firstI may (l.drop (k + 1)) (k + 1) = R by rw [← hs1,if_neg (by decide)])
    clear hs1
    go_wp2_with (refine pure_call1 q1'.out ?_;rintro e w' ⟨rfl,x,rfl⟩)
    go_roundw
    case rel=>exact ⟨k + 1,hlt,congrArg (Value.int .i64) a6.out,hs2,x,rfl⟩
    case measure=>exact step_less k n hlt a6.out
   | true =>
    have hs2:=Lib.hid (show (k:Int) = R by rw [← hs1,if_pos rfl])
    clear hs1
    go_wp2_with (refine pure_call1 q1'.out ?_;rintro e w' ⟨rfl,x,rfl⟩)
    go_ret
    exact ⟨congrArg (fun z=>Ending.returned (Value.int .i64 z)) hs2.out,x,rfl⟩
  ·obtain rfl:k = n:=by omega
   have hs2:=Lib.hid (show (-1:Int) = R by
    rw [← hs.out,List.drop_of_length_le (by rw [hn'.out];exact Nat.le_refl _)];rfl)
   clear hs hlt hk
   go_wp2
   go_ret
   exact ⟨congrArg (fun z=>Ending.returned (Value.int .i64 z)) hs2.out,y,rfl⟩
set_option maxHeartbeats 8000000 in
theorem first_Field {α:Type} (cells:α → List Value) (hC:∀ x,shp_Field (cells x)) (may:α → Bool) (g:FuncId) (first caps:Array Value) (K:α → Prop) (w:World) (A:Sl α) (hA:A.In w 2 cells K) (hl:A.l.length ≤ 1048576)
  (hent:∀ args w,(callFunc g args).run Tryz.prog w = .ok (.enter g args) w)
  (hf:∀ x ∈ A.l,Kp Tryz.prog w g (first.push (.agg (cells x).toArray)++caps) (.bool (may x))) :
  Kp Tryz.prog w 143 #[A.v,.func (.func g) first caps] (.int .i64 (firstI may A.l 0)):=by
 intro y0
 obtain ⟨p,cap,l⟩:=A
 simp only [Sl.v] at hl hf ⊢
 obtain ⟨n,hn⟩:∃ n,l.length = n:=⟨_,rfl⟩
 have hA:=hA.row.plus y0
 have hf:=fun x hx=>((hf x hx).up y0).pure
 obtain ⟨W,hW⟩:∃ W,plus w y0 = W:=⟨_,rfl⟩
 rw [hW] at hA ⊢
 simp only [hW] at hf
 rw [hn] at hl
 clear hW
 obtain ⟨R,hR⟩:∃ R,firstI may l 0 = R:=⟨_,rfl⟩
 have h0:firstI may (l.drop 0) 0 = R:=hR
 rw [hn,hR]
 have hA':=Lib.hid hA
 have hn':=Lib.hid hn
 have hl':=Lib.hid hl
 have h0':=Lib.hid h0
 have hf':=Lib.hid hf
 have hC':=Lib.hid hC
 clear hA hl hn hR h0 hf hC
 go_enter Tryz.func143,Tryz.ntmps143
 go_wp2
 go_loopw [5,6,9] (fun _ _ iv wr=>∃ k:Nat,k ≤ n ∧ iv = .int .i64 (k:Int) ∧ Hid (firstI may (l.drop k) k = R) ∧ ∃ y,wr = plus W y) (fun _ _ iv _=>n - (intOf iv).toNat)
 case atStart=>exact ⟨0,Nat.zero_le _,rfl,h0',⟨#[],W.drawn⟩,(plus_self W).symm⟩
 case round =>
  obtain ⟨k,hk,rfl,hs,y,rfl⟩:=hrel
  by_cases hlt:k < n
  ·obtain ⟨a,ha⟩:∃ s,l[k]? = some s:=⟨l[k]'(by rw [hn'.out];exact hlt),List.getElem?_eq_getElem _⟩
   obtain ⟨pa,rfl,hc⟩:=hA'.out k a ha
   have q1:=hf'.out a (List.mem_of_getElem? ha)
   have hs1:=(firstI_drop may l k a ha).symm.trans hs.out
   obtain ⟨Z,hZ⟩:∃ Z,may a = Z:=⟨_,rfl⟩
   rw [hZ] at q1 hs1
   obtain ⟨c0,c1,ea⟩:=hC'.out a
   rw [ea] at q1
   have d0:=fun y=>(hc.plus y).c0 _ (by rw [ea];rfl)
   have d1:=fun y=>(hc.plus y).cs 0 _ (by rw [ea];rfl)
   have q1':=Lib.hid q1
   have a6:=Lib.hid (wr_succ k n hlt hl'.out)
   clear q1 hZ hc ha hs ea
   cases Z with
   | false =>
    have hs2:=Lib.hid (show firstI may (l.drop (k + 1)) (k + 1) = R by rw [← hs1,if_neg (by decide)])
    clear hs1
    go_wp2_with (refine pure_call1 q1'.out ?_;rintro e w' ⟨rfl,x,rfl⟩)
    go_roundw
    case rel=>exact ⟨k + 1,hlt,congrArg (Value.int .i64) a6.out,hs2,x,rfl⟩
    case measure=>exact step_less k n hlt a6.out
   | true =>
    have hs2:=Lib.hid (show (k:Int) = R by rw [← hs1,if_pos rfl])
    clear hs1
    go_wp2_with (refine pure_call1 q1'.out ?_;rintro e w' ⟨rfl,x,rfl⟩)
    go_ret
    exact ⟨congrArg (fun z=>Ending.returned (Value.int .i64 z)) hs2.out,x,rfl⟩
  ·obtain rfl:k = n:=by omega
   have hs2:=Lib.hid (show (-1:Int) = R by
    rw [← hs.out,List.drop_of_length_le (by rw [hn'.out];exact Nat.le_refl _)];rfl)
   clear hs hlt hk
   go_wp2
   go_ret
   exact ⟨congrArg (fun z=>Ending.returned (Value.int .i64 z)) hs2.out,y,rfl⟩
set_option maxHeartbeats 8000000 in
theorem first_State {α:Type} (cells:α → List Value) (hC:∀ x,shp_State (cells x)) (may:α → Bool) (g:FuncId) (first caps:Array Value) (K:α → Prop) (w:World) (A:Sl α) (hA:A.In w 5 cells K) (hl:A.l.length ≤ 1048576)
  (hent:∀ args w,(callFunc g args).run Tryz.prog w = .ok (.enter g args) w)
  (hf:∀ x ∈ A.l,Kp Tryz.prog w g (first.push (.agg (cells x).toArray)++caps) (.bool (may x))) :
  Kp Tryz.prog w 32 #[A.v,.func (.func g) first caps] (.int .i64 (firstI may A.l 0)):=by
 intro y0
 obtain ⟨p,cap,l⟩:=A
 simp only [Sl.v] at hl hf ⊢
 obtain ⟨n,hn⟩:∃ n,l.length = n:=⟨_,rfl⟩
 have hA:=hA.row.plus y0
 have hf:=fun x hx=>((hf x hx).up y0).pure
 obtain ⟨W,hW⟩:∃ W,plus w y0 = W:=⟨_,rfl⟩
 rw [hW] at hA ⊢
 simp only [hW] at hf
 rw [hn] at hl
 clear hW
 obtain ⟨R,hR⟩:∃ R,firstI may l 0 = R:=⟨_,rfl⟩
 have h0:firstI may (l.drop 0) 0 = R:=hR
 rw [hn,hR]
 have hA':=Lib.hid hA
 have hn':=Lib.hid hn
 have hl':=Lib.hid hl
 have h0':=Lib.hid h0
 have hf':=Lib.hid hf
 have hC':=Lib.hid hC
 clear hA hl hn hR h0 hf hC
 go_enter Tryz.func32,Tryz.ntmps32
 go_wp2
 go_loopw [5,6,9] (fun _ _ iv wr=>∃ k:Nat,k ≤ n ∧ iv = .int .i64 (k:Int) ∧ Hid (firstI may (l.drop k) k = R) ∧ ∃ y,wr = plus W y) (fun _ _ iv _=>n - (intOf iv).toNat)
 case atStart=>exact ⟨0,Nat.zero_le _,rfl,h0',⟨#[],W.drawn⟩,(plus_self W).symm⟩
 case round =>
  obtain ⟨k,hk,rfl,hs,y,rfl⟩:=hrel
  by_cases hlt:k < n
  ·obtain ⟨a,ha⟩:∃ s,l[k]? = some s:=⟨l[k]'(by rw [hn'.out];exact hlt),List.getElem?_eq_getElem _⟩
   obtain ⟨pa,rfl,hc⟩:=hA'.out k a ha
   have q1:=hf'.out a (List.mem_of_getElem? ha)
   have hs1:=(firstI_drop may l k a ha).symm.trans hs.out
   obtain ⟨Z,hZ⟩:∃ Z,may a = Z:=⟨_,rfl⟩
   rw [hZ] at q1 hs1
   obtain ⟨c0,c1p,c1n,c1c,c2,c3p,c3n,c3c,c4p,c4n,c4c,ea⟩:=hC'.out a
   rw [ea] at q1
   have d0:=fun y=>(hc.plus y).c0 _ (by rw [ea];rfl)
   have d1:=fun y=>(hc.plus y).cs 0 _ (by rw [ea];rfl)
   have d2:=fun y=>(hc.plus y).cs 1 _ (by rw [ea];rfl)
   have d3:=fun y=>(hc.plus y).cs 2 _ (by rw [ea];rfl)
   have d4:=fun y=>(hc.plus y).cs 3 _ (by rw [ea];rfl)
   have q1':=Lib.hid q1
   have a6:=Lib.hid (wr_succ k n hlt hl'.out)
   clear q1 hZ hc ha hs ea
   cases Z with
   | false =>
    have hs2:=Lib.hid (show firstI may (l.drop (k + 1)) (k + 1) = R by rw [← hs1,if_neg (by decide)])
    clear hs1
    go_wp2_with (refine pure_call1 q1'.out ?_;rintro e w' ⟨rfl,x,rfl⟩)
    go_roundw
    case rel=>exact ⟨k + 1,hlt,congrArg (Value.int .i64) a6.out,hs2,x,rfl⟩
    case measure=>exact step_less k n hlt a6.out
   | true =>
    have hs2:=Lib.hid (show (k:Int) = R by rw [← hs1,if_pos rfl])
    clear hs1
    go_wp2_with (refine pure_call1 q1'.out ?_;rintro e w' ⟨rfl,x,rfl⟩)
    go_ret
    exact ⟨congrArg (fun z=>Ending.returned (Value.int .i64 z)) hs2.out,x,rfl⟩
  ·obtain rfl:k = n:=by omega
   have hs2:=Lib.hid (show (-1:Int) = R by
    rw [← hs.out,List.drop_of_length_le (by rw [hn'.out];exact Nat.le_refl _)];rfl)
   clear hs hlt hk
   go_wp2
   go_ret
   exact ⟨congrArg (fun z=>Ending.returned (Value.int .i64 z)) hs2.out,y,rfl⟩
set_option maxHeartbeats 8000000 in
theorem first_Action {α:Type} (cells:α → List Value) (hC:∀ x,shp_Action (cells x)) (may:α → Bool) (g:FuncId) (first caps:Array Value) (K:α → Prop) (w:World) (A:Sl α) (hA:A.In w 3 cells K) (hl:A.l.length ≤ 1048576)
  (hent:∀ args w,(callFunc g args).run Tryz.prog w = .ok (.enter g args) w)
  (hf:∀ x ∈ A.l,Kp Tryz.prog w g (first.push (.agg (cells x).toArray)++caps) (.bool (may x))) :
  Kp Tryz.prog w 28 #[A.v,.func (.func g) first caps] (.int .i64 (firstI may A.l 0)):=by
 intro y0
 obtain ⟨p,cap,l⟩:=A
 simp only [Sl.v] at hl hf ⊢
 obtain ⟨n,hn⟩:∃ n,l.length = n:=⟨_,rfl⟩
 have hA:=hA.row.plus y0
 have hf:=fun x hx=>((hf x hx).up y0).pure
 obtain ⟨W,hW⟩:∃ W,plus w y0 = W:=⟨_,rfl⟩
 rw [hW] at hA ⊢
 simp only [hW] at hf
 rw [hn] at hl
 clear hW
 obtain ⟨R,hR⟩:∃ R,firstI may l 0 = R:=⟨_,rfl⟩
 have h0:firstI may (l.drop 0) 0 = R:=hR
 rw [hn,hR]
 have hA':=Lib.hid hA
 have hn':=Lib.hid hn
 have hl':=Lib.hid hl
 have h0':=Lib.hid h0
 have hf':=Lib.hid hf
 have hC':=Lib.hid hC
 clear hA hl hn hR h0 hf hC
 go_enter Tryz.func28,Tryz.ntmps28
 go_wp2
 go_loopw [5,6,9] (fun _ _ iv wr=>∃ k:Nat,k ≤ n ∧ iv = .int .i64 (k:Int) ∧ Hid (firstI may (l.drop k) k = R) ∧ ∃ y,wr = plus W y) (fun _ _ iv _=>n - (intOf iv).toNat)
 case atStart=>exact ⟨0,Nat.zero_le _,rfl,h0',⟨#[],W.drawn⟩,(plus_self W).symm⟩
 case round =>
  obtain ⟨k,hk,rfl,hs,y,rfl⟩:=hrel
  by_cases hlt:k < n
  ·obtain ⟨a,ha⟩:∃ s,l[k]? = some s:=⟨l[k]'(by rw [hn'.out];exact hlt),List.getElem?_eq_getElem _⟩
   obtain ⟨pa,rfl,hc⟩:=hA'.out k a ha
   have q1:=hf'.out a (List.mem_of_getElem? ha)
   have hs1:=(firstI_drop may l k a ha).symm.trans hs.out
   obtain ⟨Z,hZ⟩:∃ Z,may a = Z:=⟨_,rfl⟩
   rw [hZ] at q1 hs1
   obtain ⟨c0,c1p,c1n,c1c,c2p,c2n,c2c,ea⟩:=hC'.out a
   rw [ea] at q1
   have d0:=fun y=>(hc.plus y).c0 _ (by rw [ea];rfl)
   have d1:=fun y=>(hc.plus y).cs 0 _ (by rw [ea];rfl)
   have d2:=fun y=>(hc.plus y).cs 1 _ (by rw [ea];rfl)
   have q1':=Lib.hid q1
   have a6:=Lib.hid (wr_succ k n hlt hl'.out)
   clear q1 hZ hc ha hs ea
   cases Z with
   | false =>
    have hs2:=Lib.hid (show firstI may (l.drop (k + 1)) (k + 1) = R by rw [← hs1,if_neg (by decide)])
    clear hs1
    go_wp2_with (refine pure_call1 q1'.out ?_;rintro e w' ⟨rfl,x,rfl⟩)
    go_roundw
    case rel=>exact ⟨k + 1,hlt,congrArg (Value.int .i64) a6.out,hs2,x,rfl⟩
    case measure=>exact step_less k n hlt a6.out
   | true =>
    have hs2:=Lib.hid (show (k:Int) = R by rw [← hs1,if_pos rfl])
    clear hs1
    go_wp2_with (refine pure_call1 q1'.out ?_;rintro e w' ⟨rfl,x,rfl⟩)
    go_ret
    exact ⟨congrArg (fun z=>Ending.returned (Value.int .i64 z)) hs2.out,x,rfl⟩
  ·obtain rfl:k = n:=by omega
   have hs2:=Lib.hid (show (-1:Int) = R by
    rw [← hs.out,List.drop_of_length_le (by rw [hn'.out];exact Nat.le_refl _)];rfl)
   clear hs hlt hk
   go_wp2
   go_ret
   exact ⟨congrArg (fun z=>Ending.returned (Value.int .i64 z)) hs2.out,y,rfl⟩
set_option maxHeartbeats 8000000 in
theorem first_Table {α:Type} (cells:α → List Value) (hC:∀ x,shp_Table (cells x)) (may:α → Bool) (g:FuncId) (first caps:Array Value) (K:α → Prop) (w:World) (A:Sl α) (hA:A.In w 5 cells K) (hl:A.l.length ≤ 1048576)
  (hent:∀ args w,(callFunc g args).run Tryz.prog w = .ok (.enter g args) w)
  (hf:∀ x ∈ A.l,Kp Tryz.prog w g (first.push (.agg (cells x).toArray)++caps) (.bool (may x))) :
  Kp Tryz.prog w 30 #[A.v,.func (.func g) first caps] (.int .i64 (firstI may A.l 0)):=by
 intro y0
 obtain ⟨p,cap,l⟩:=A
 simp only [Sl.v] at hl hf ⊢
 obtain ⟨n,hn⟩:∃ n,l.length = n:=⟨_,rfl⟩
 have hA:=hA.row.plus y0
 have hf:=fun x hx=>((hf x hx).up y0).pure
 obtain ⟨W,hW⟩:∃ W,plus w y0 = W:=⟨_,rfl⟩
 rw [hW] at hA ⊢
 simp only [hW] at hf
 rw [hn] at hl
 clear hW
 obtain ⟨R,hR⟩:∃ R,firstI may l 0 = R:=⟨_,rfl⟩
 have h0:firstI may (l.drop 0) 0 = R:=hR
 rw [hn,hR]
 have hA':=Lib.hid hA
 have hn':=Lib.hid hn
 have hl':=Lib.hid hl
 have h0':=Lib.hid h0
 have hf':=Lib.hid hf
 have hC':=Lib.hid hC
 clear hA hl hn hR h0 hf hC
 go_enter Tryz.func30,Tryz.ntmps30
 go_wp2
 go_loopw [5,6,9] (fun _ _ iv wr=>∃ k:Nat,k ≤ n ∧ iv = .int .i64 (k:Int) ∧ Hid (firstI may (l.drop k) k = R) ∧ ∃ y,wr = plus W y) (fun _ _ iv _=>n - (intOf iv).toNat)
 case atStart=>exact ⟨0,Nat.zero_le _,rfl,h0',⟨#[],W.drawn⟩,(plus_self W).symm⟩
 case round =>
  obtain ⟨k,hk,rfl,hs,y,rfl⟩:=hrel
  by_cases hlt:k < n
  ·obtain ⟨a,ha⟩:∃ s,l[k]? = some s:=⟨l[k]'(by rw [hn'.out];exact hlt),List.getElem?_eq_getElem _⟩
   obtain ⟨pa,rfl,hc⟩:=hA'.out k a ha
   have q1:=hf'.out a (List.mem_of_getElem? ha)
   have hs1:=(firstI_drop may l k a ha).symm.trans hs.out
   obtain ⟨Z,hZ⟩:∃ Z,may a = Z:=⟨_,rfl⟩
   rw [hZ] at q1 hs1
   obtain ⟨c0,c1p,c1n,c1c,c2p,c2n,c2c,c3,c4p,c4n,c4c,ea⟩:=hC'.out a
   rw [ea] at q1
   have d0:=fun y=>(hc.plus y).c0 _ (by rw [ea];rfl)
   have d1:=fun y=>(hc.plus y).cs 0 _ (by rw [ea];rfl)
   have d2:=fun y=>(hc.plus y).cs 1 _ (by rw [ea];rfl)
   have d3:=fun y=>(hc.plus y).cs 2 _ (by rw [ea];rfl)
   have d4:=fun y=>(hc.plus y).cs 3 _ (by rw [ea];rfl)
   have q1':=Lib.hid q1
   have a6:=Lib.hid (wr_succ k n hlt hl'.out)
   clear q1 hZ hc ha hs ea
   cases Z with
   | false =>
    have hs2:=Lib.hid (show firstI may (l.drop (k + 1)) (k + 1) = R by rw [← hs1,if_neg (by decide)])
    clear hs1
    go_wp2_with (refine pure_call1 q1'.out ?_;rintro e w' ⟨rfl,x,rfl⟩)
    go_roundw
    case rel=>exact ⟨k + 1,hlt,congrArg (Value.int .i64) a6.out,hs2,x,rfl⟩
    case measure=>exact step_less k n hlt a6.out
   | true =>
    have hs2:=Lib.hid (show (k:Int) = R by rw [← hs1,if_pos rfl])
    clear hs1
    go_wp2_with (refine pure_call1 q1'.out ?_;rintro e w' ⟨rfl,x,rfl⟩)
    go_ret
    exact ⟨congrArg (fun z=>Ending.returned (Value.int .i64 z)) hs2.out,x,rfl⟩
  ·obtain rfl:k = n:=by omega
   have hs2:=Lib.hid (show (-1:Int) = R by
    rw [← hs.out,List.drop_of_length_le (by rw [hn'.out];exact Nat.le_refl _)];rfl)
   clear hs hlt hk
   go_wp2
   go_ret
   exact ⟨congrArg (fun z=>Ending.returned (Value.int .i64 z)) hs2.out,y,rfl⟩
set_option maxHeartbeats 8000000 in
theorem first_Expr {α:Type} (cells:α → List Value) (hC:∀ x,shp_Expr (cells x)) (may:α → Bool) (g:FuncId) (first caps:Array Value) (K:α → Prop) (w:World) (A:Sl α) (hA:A.In w 9 cells K) (hl:A.l.length ≤ 1048576)
  (hent:∀ args w,(callFunc g args).run Tryz.prog w = .ok (.enter g args) w)
  (hf:∀ x ∈ A.l,Kp Tryz.prog w g (first.push (.agg (cells x).toArray)++caps) (.bool (may x))) :
  Kp Tryz.prog w 111 #[A.v,.func (.func g) first caps] (.int .i64 (firstI may A.l 0)):=by
 intro y0
 obtain ⟨p,cap,l⟩:=A
 simp only [Sl.v] at hl hf ⊢
 obtain ⟨n,hn⟩:∃ n,l.length = n:=⟨_,rfl⟩
 have hA:=hA.row.plus y0
 have hf:=fun x hx=>((hf x hx).up y0).pure
 obtain ⟨W,hW⟩:∃ W,plus w y0 = W:=⟨_,rfl⟩
 rw [hW] at hA ⊢
 simp only [hW] at hf
 rw [hn] at hl
 clear hW
 obtain ⟨R,hR⟩:∃ R,firstI may l 0 = R:=⟨_,rfl⟩
 have h0:firstI may (l.drop 0) 0 = R:=hR
 rw [hn,hR]
 have hA':=Lib.hid hA
 have hn':=Lib.hid hn
 have hl':=Lib.hid hl
 have h0':=Lib.hid h0
 have hf':=Lib.hid hf
 have hC':=Lib.hid hC
 clear hA hl hn hR h0 hf hC
 go_enter Tryz.func111,Tryz.ntmps111
 go_wp2
 go_loopw [5,6,9] (fun _ _ iv wr=>∃ k:Nat,k ≤ n ∧ iv = .int .i64 (k:Int) ∧ Hid (firstI may (l.drop k) k = R) ∧ ∃ y,wr = plus W y) (fun _ _ iv _=>n - (intOf iv).toNat)
 case atStart=>exact ⟨0,Nat.zero_le _,rfl,h0',⟨#[],W.drawn⟩,(plus_self W).symm⟩
 case round =>
  obtain ⟨k,hk,rfl,hs,y,rfl⟩:=hrel
  by_cases hlt:k < n
  ·obtain ⟨a,ha⟩:∃ s,l[k]? = some s:=⟨l[k]'(by rw [hn'.out];exact hlt),List.getElem?_eq_getElem _⟩
   obtain ⟨pa,rfl,hc⟩:=hA'.out k a ha
   have q1:=hf'.out a (List.mem_of_getElem? ha)
   have hs1:=(firstI_drop may l k a ha).symm.trans hs.out
   obtain ⟨Z,hZ⟩:∃ Z,may a = Z:=⟨_,rfl⟩
   rw [hZ] at q1 hs1
   obtain ⟨c0,c1,c2,c3,c4,c5,c6,c7,c8p,c8n,c8c,ea⟩:=hC'.out a
   rw [ea] at q1
   have d0:=fun y=>(hc.plus y).c0 _ (by rw [ea];rfl)
   have d1:=fun y=>(hc.plus y).cs 0 _ (by rw [ea];rfl)
   have d2:=fun y=>(hc.plus y).cs 1 _ (by rw [ea];rfl)
   have d3:=fun y=>(hc.plus y).cs 2 _ (by rw [ea];rfl)
   have d4:=fun y=>(hc.plus y).cs 3 _ (by rw [ea];rfl)
   have d5:=fun y=>(hc.plus y).cs 4 _ (by rw [ea];rfl)
   have d6:=fun y=>(hc.plus y).cs 5 _ (by rw [ea];rfl)
   have d7:=fun y=>(hc.plus y).cs 6 _ (by rw [ea];rfl)
   have d8:=fun y=>(hc.plus y).cs 7 _ (by rw [ea];rfl)
   have q1':=Lib.hid q1
   have a6:=Lib.hid (wr_succ k n hlt hl'.out)
   clear q1 hZ hc ha hs ea
   cases Z with
   | false =>
    have hs2:=Lib.hid (show firstI may (l.drop (k + 1)) (k + 1) = R by rw [← hs1,if_neg (by decide)])
    clear hs1
    go_wp2_with (refine pure_call1 q1'.out ?_;rintro e w' ⟨rfl,x,rfl⟩)
    go_roundw
    case rel=>exact ⟨k + 1,hlt,congrArg (Value.int .i64) a6.out,hs2,x,rfl⟩
    case measure=>exact step_less k n hlt a6.out
   | true =>
    have hs2:=Lib.hid (show (k:Int) = R by rw [← hs1,if_pos rfl])
    clear hs1
    go_wp2_with (refine pure_call1 q1'.out ?_;rintro e w' ⟨rfl,x,rfl⟩)
    go_ret
    exact ⟨congrArg (fun z=>Ending.returned (Value.int .i64 z)) hs2.out,x,rfl⟩
  ·obtain rfl:k = n:=by omega
   have hs2:=Lib.hid (show (-1:Int) = R by
    rw [← hs.out,List.drop_of_length_le (by rw [hn'.out];exact Nat.le_refl _)];rfl)
   clear hs hlt hk
   go_wp2
   go_ret
   exact ⟨congrArg (fun z=>Ending.returned (Value.int .i64 z)) hs2.out,y,rfl⟩
set_option maxHeartbeats 8000000 in
theorem first_string (may:ByteArray → Bool) (g:FuncId) (first caps:Array Value) (K:ByteArray → Prop) (w:World) (A:Sl ByteArray) (hA:A.In w 1 strCells K) (hl:A.l.length ≤ 1048576)
  (hent:∀ args w,(callFunc g args).run Tryz.prog w = .ok (.enter g args) w)
  (hf:∀ x ∈ A.l,Kp Tryz.prog w g (first.push (.string x)++caps) (.bool (may x))) :
  Kp Tryz.prog w 145 #[A.v,.func (.func g) first caps] (.int .i64 (firstI may A.l 0)):=by
 intro y0
 obtain ⟨p,cap,l⟩:=A
 simp only [Sl.v] at hl hf ⊢
 obtain ⟨n,hn⟩:∃ n,l.length = n:=⟨_,rfl⟩
 have hA:=hA.row.plus y0
 have hf:=fun x hx=>((hf x hx).up y0).pure
 obtain ⟨W,hW⟩:∃ W,plus w y0 = W:=⟨_,rfl⟩
 rw [hW] at hA ⊢
 simp only [hW] at hf
 rw [hn] at hl
 clear hW
 obtain ⟨R,hR⟩:∃ R,firstI may l 0 = R:=⟨_,rfl⟩
 have h0:firstI may (l.drop 0) 0 = R:=hR
 rw [hn,hR]
 have hA':=Lib.hid hA
 have hn':=Lib.hid hn
 have hl':=Lib.hid hl
 have h0':=Lib.hid h0
 have hf':=Lib.hid hf
 clear hA hl hn hR h0 hf
 go_enter Tryz.func145,Tryz.ntmps145
 go_wp2
 go_loopw [5,6,9] (fun _ _ iv wr=>∃ k:Nat,k ≤ n ∧ iv = .int .i64 (k:Int) ∧ Hid (firstI may (l.drop k) k = R) ∧ ∃ y,wr = plus W y) (fun _ _ iv _=>n - (intOf iv).toNat)
 case atStart=>exact ⟨0,Nat.zero_le _,rfl,h0',⟨#[],W.drawn⟩,(plus_self W).symm⟩
 case round =>
  obtain ⟨k,hk,rfl,hs,y,rfl⟩:=hrel
  by_cases hlt:k < n
  ·obtain ⟨a,ha⟩:∃ s,l[k]? = some s:=⟨l[k]'(by rw [hn'.out];exact hlt),List.getElem?_eq_getElem _⟩
   obtain ⟨pa,rfl,hc⟩:=hA'.out k a ha
   have q1:=hf'.out a (List.mem_of_getElem? ha)
   have hs1:=(firstI_drop may l k a ha).symm.trans hs.out
   obtain ⟨Z,hZ⟩:∃ Z,may a = Z:=⟨_,rfl⟩
   rw [hZ] at q1 hs1
   have d0:=fun y=>(hc.plus y).c0 _ rfl
   simp only [Nat.mul_one] at d0
   have q1':=Lib.hid q1
   have a6:=Lib.hid (wr_succ k n hlt hl'.out)
   clear q1 hZ hc ha hs 
   cases Z with
   | false =>
    have hs2:=Lib.hid (show firstI may (l.drop (k + 1)) (k + 1) = R by rw [← hs1,if_neg (by decide)])
    clear hs1
    go_wp2_with (refine (q1'.out _).mono ?_;rintro e w' ⟨rfl,x,rfl⟩)
    go_roundw
    case rel=>exact ⟨k + 1,hlt,congrArg (Value.int .i64) a6.out,hs2,x,rfl⟩
    case measure=>exact step_less k n hlt a6.out
   | true =>
    have hs2:=Lib.hid (show (k:Int) = R by rw [← hs1,if_pos rfl])
    clear hs1
    go_wp2_with (refine (q1'.out _).mono ?_;rintro e w' ⟨rfl,x,rfl⟩)
    go_ret
    exact ⟨congrArg (fun z=>Ending.returned (Value.int .i64 z)) hs2.out,x,rfl⟩
  ·obtain rfl:k = n:=by omega
   have hs2:=Lib.hid (show (-1:Int) = R by
    rw [← hs.out,List.drop_of_length_le (by rw [hn'.out];exact Nat.le_refl _)];rfl)
   clear hs hlt hk
   go_wp2
   go_ret
   exact ⟨congrArg (fun z=>Ending.returned (Value.int .i64 z)) hs2.out,y,rfl⟩
set_option maxHeartbeats 2000000 in
theorem lit_Header (B:Nat) (nm:ByteArray) (a0:ByteArray) (a1p:Option Addr) (a1n:Nat) (a1c:Nat) (w:World) (hb:w.cell? ⟨B,0,none⟩ = some (.string nm)):Kp Tryz.prog w 27 #[.agg #[.string a0,.slice a1p a1n a1c],.pointer (some ⟨B,0,none⟩)] (.bool (a0.toList == nm.toList)):=by
 intro y0
 have hb:=cell_keep hb y0
 obtain ⟨V,hV⟩:∃ V,plus w y0 = V:=⟨_,rfl⟩
 rw [hV] at hb ⊢
 clear hV
 have hl:=World.block_lt_of_cell? V _ hb
 have hb2:=fun X:Obj=>cell_alloc hb X
 clear hb
 go_enter Tryz.func27,Tryz.ntmps27
 go_wp2
 go_ret
 exact ⟨rfl,plus_of_below ((Below.refl _ _).alloc (Nat.le_refl _) _)⟩
set_option maxHeartbeats 2000000 in
theorem lit_Field (B:Nat) (nm:ByteArray) (a0:ByteArray) (a1:Int) (w:World) (hb:w.cell? ⟨B,0,none⟩ = some (.string nm)):Kp Tryz.prog w 144 #[.agg #[.string a0,.int .i64 a1],.pointer (some ⟨B,0,none⟩)] (.bool (a0.toList == nm.toList)):=by
 intro y0
 have hb:=cell_keep hb y0
 obtain ⟨V,hV⟩:∃ V,plus w y0 = V:=⟨_,rfl⟩
 rw [hV] at hb ⊢
 clear hV
 have hl:=World.block_lt_of_cell? V _ hb
 have hb2:=fun X:Obj=>cell_alloc hb X
 clear hb
 go_enter Tryz.func144,Tryz.ntmps144
 go_wp2
 go_ret
 exact ⟨rfl,plus_of_below ((Below.refl _ _).alloc (Nat.le_refl _) _)⟩
set_option maxHeartbeats 2000000 in
theorem lit_State (B:Nat) (nm:ByteArray) (a0:ByteArray) (a1p:Option Addr) (a1n:Nat) (a1c:Nat) (a2:ByteArray) (a3p:Option Addr) (a3n:Nat) (a3c:Nat) (a4p:Option Addr) (a4n:Nat) (a4c:Nat) (w:World) (hb:w.cell? ⟨B,0,none⟩ = some (.string nm)):Kp Tryz.prog w 33 #[.agg #[.string a0,.slice a1p a1n a1c,.string a2,.slice a3p a3n a3c,.slice a4p a4n a4c],.pointer (some ⟨B,0,none⟩)] (.bool (a0.toList == nm.toList)):=by
 intro y0
 have hb:=cell_keep hb y0
 obtain ⟨V,hV⟩:∃ V,plus w y0 = V:=⟨_,rfl⟩
 rw [hV] at hb ⊢
 clear hV
 have hl:=World.block_lt_of_cell? V _ hb
 have hb2:=fun X:Obj=>cell_alloc hb X
 clear hb
 go_enter Tryz.func33,Tryz.ntmps33
 go_wp2
 go_ret
 exact ⟨rfl,plus_of_below ((Below.refl _ _).alloc (Nat.le_refl _) _)⟩
set_option maxHeartbeats 2000000 in
theorem lit_Action (B:Nat) (nm:ByteArray) (a0:ByteArray) (a1p:Option Addr) (a1n:Nat) (a1c:Nat) (a2p:Option Addr) (a2n:Nat) (a2c:Nat) (w:World) (hb:w.cell? ⟨B,0,none⟩ = some (.string nm)):Kp Tryz.prog w 29 #[.agg #[.string a0,.slice a1p a1n a1c,.slice a2p a2n a2c],.pointer (some ⟨B,0,none⟩)] (.bool (a0.toList == nm.toList)):=by
 intro y0
 have hb:=cell_keep hb y0
 obtain ⟨V,hV⟩:∃ V,plus w y0 = V:=⟨_,rfl⟩
 rw [hV] at hb ⊢
 clear hV
 have hl:=World.block_lt_of_cell? V _ hb
 have hb2:=fun X:Obj=>cell_alloc hb X
 clear hb
 go_enter Tryz.func29,Tryz.ntmps29
 go_wp2
 go_ret
 exact ⟨rfl,plus_of_below ((Below.refl _ _).alloc (Nat.le_refl _) _)⟩
set_option maxHeartbeats 2000000 in
theorem lit_Table (B:Nat) (nm:ByteArray) (a0:ByteArray) (a1p:Option Addr) (a1n:Nat) (a1c:Nat) (a2p:Option Addr) (a2n:Nat) (a2c:Nat) (a3:ByteArray) (a4p:Option Addr) (a4n:Nat) (a4c:Nat) (w:World) (hb:w.cell? ⟨B,0,none⟩ = some (.string nm)):Kp Tryz.prog w 31 #[.agg #[.string a0,.slice a1p a1n a1c,.slice a2p a2n a2c,.string a3,.slice a4p a4n a4c],.pointer (some ⟨B,0,none⟩)] (.bool (a0.toList == nm.toList)):=by
 intro y0
 have hb:=cell_keep hb y0
 obtain ⟨V,hV⟩:∃ V,plus w y0 = V:=⟨_,rfl⟩
 rw [hV] at hb ⊢
 clear hV
 have hl:=World.block_lt_of_cell? V _ hb
 have hb2:=fun X:Obj=>cell_alloc hb X
 clear hb
 go_enter Tryz.func31,Tryz.ntmps31
 go_wp2
 go_ret
 exact ⟨rfl,plus_of_below ((Below.refl _ _).alloc (Nat.le_refl _) _)⟩
set_option maxHeartbeats 2000000 in
theorem lit_string (B:Nat) (nm s:ByteArray) (w:World) (hb:w.cell? ⟨B,0,none⟩ = some (.string nm)):Kp Tryz.prog w 146 #[.string s,.pointer (some ⟨B,0,none⟩)] (.bool (s.toList == nm.toList)):=by
 intro y0
 have hb:=cell_keep hb y0
 obtain ⟨V,hV⟩:∃ V,plus w y0 = V:=⟨_,rfl⟩
 rw [hV] at hb ⊢
 clear hV
 go_enter Tryz.func146,Tryz.ntmps146
 go_wp2
 go_ret
 exact ⟨rfl,_,(plus_self _).symm⟩
end Go.Proofs.YtlmhldcebllckaaGreat
