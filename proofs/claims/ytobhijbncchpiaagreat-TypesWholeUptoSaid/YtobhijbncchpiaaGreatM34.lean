/-
  WHAT IS PROVED HERE: a part of the proof (made narrower and merged by program; the parts: Eg).
-/
import Derived.Test.YtobhijbncchpiaaGreatM33
namespace Go.Proofs.YtobhijbncchpiaaGreat
open Go.RowKit Go.Shelf
theorem heap_at8 {w:World} {o:Obj} {i:Nat} (h:i=w.heap.size):(w.alloc o).heap[i]?=some o:=by
 subst h
 show (w.heap.push o)[w.heap.size]?=_
 simp
theorem heap_below8 {w:World} {o x:Obj} {i:Nat} (h:w.heap[i]?=some x):(w.alloc o).heap[i]?=some x:=by
 show (w.heap.push o)[i]?=_
 have:=(Array.getElem?_eq_some_iff.1 h).1
 rw [Array.getElem?_push,if_neg (by omega)]
 exact h
theorem heap_plus8 {w:World} {x:Obj} {i:Nat} {y:Ext} (h:w.heap[i]?=some x):(plus w y).heap[i]?=some x:=heap_plus h y
theorem Ov.plus {W U:World} {y:Ext} (h:Ov W U):Ov W (Go.Proofs.YtobhijbncchpiaaGreat.plus U y):=by obtain⟨z,rfl⟩:=h;exact⟨_,plus_plus _ _ _⟩
/-- A new type's block. -/
def Blk (W:World) (b:Nat):Prop:=W.heap[b]?=some (.cells #[.int .i64 0,.bool false,.bool false] 75)
theorem blk_new (W:World):Blk (W.alloc (.cells #[.int .i64 0,.bool false,.bool false] 75)) W.heap.size:=heap_at8 rfl
theorem blk_alloc (W:World) (o:Obj) (b:Nat) (h:Blk W b):Blk (W.alloc o) b:=heap_below8 h
theorem blk_plus (W:World) (x:Ext) (b:Nat) (h:Blk W b):Blk (plus W x) b:=heap_plus8 h
theorem blk_frozen (W:World) (b j:Nat) (h:Blk W b):W.frozen? ⟨b,j,none⟩=false:=frozen_of_row W b j _ _ h
theorem blk_cell0 (W:World) (b:Nat) (h:Blk W b):W.cell? ⟨b,0,none⟩=some (.int .i64 0):=cell_lies h rfl
theorem blk_cell1 (W:World) (b:Nat) (h:Blk W b):W.cell? ⟨b,1,none⟩=some (.bool false):=cell_lies h rfl
theorem blk_cell2 (W:World) (b:Nat) (h:Blk W b):W.cell? ⟨b,2,none⟩=some (.bool false):=cell_lies h rfl
structure BF (w:World) (b:Nat):Prop where
 c0:w.cell? ⟨b,0,none⟩=some (.int .i64 0)
 c1:w.cell? ⟨b,1,none⟩=some (.bool false)
 c2:w.cell? ⟨b,2,none⟩=some (.bool false)
 f0:w.frozen? ⟨b,0,none⟩=false
 f1:w.frozen? ⟨b,1,none⟩=false
 f2:w.frozen? ⟨b,2,none⟩=false
 d0:w.drew.cell? ⟨b,0,none⟩=some (.int .i64 0)
 d1:w.drew.cell? ⟨b,1,none⟩=some (.bool false)
 d2:w.drew.cell? ⟨b,2,none⟩=some (.bool false)
 e0:w.drew.frozen? ⟨b,0,none⟩=false
 e1:w.drew.frozen? ⟨b,1,none⟩=false
 e2:w.drew.frozen? ⟨b,2,none⟩=false
theorem bf_of {w:World} {b:Nat} (h:Blk w b):BF w b:=⟨blk_cell0 w b h,blk_cell1 w b h,blk_cell2 w b h,blk_frozen w b 0 h,blk_frozen w b 1 h,blk_frozen w b 2 h,blk_cell0 w.drew b h,blk_cell1 w.drew b h,blk_cell2 w.drew b h,blk_frozen w.drew b 0 h,blk_frozen w.drew b 1 h,blk_frozen w.drew b 2 h⟩
theorem calls_bf {P:Program} {V:World} {f:FuncId} {args:Array Value} {v:Value} (h:Calls P f args V fun e w'=>e=.returned v∧∃ x,w'=plus V x):Calls P f args V fun e w'=>e=.returned v∧∃ x,w'=plus V x∧∀ b,Blk V b→BF (plus V x) b:=h.mono fun _ _ ⟨h1,x,h2⟩=>⟨h1,x,h2,fun b hb=>bf_of (blk_plus _ x b hb)⟩
theorem calls_kp8 {P:Program} {V:World} {f:FuncId} {args:Array Value} {v:Value} (h:Kp P V f args v):Calls P f args V fun e w'=>e=.returned v∧∃ x,w'=plus V x:=by
 have:=h ⟨#[],V.drawn⟩
 rwa [plus_self] at this
/-- What stands after the first example. -/
def K8 (V W:World) (b:Nat) (wx:World):Prop:=(wx.cell? ⟨b,0,none⟩=some (.int .i64 9)∧wx.cell? ⟨b,1,none⟩=some (.bool false)∧wx.cell? ⟨b,2,none⟩=some (.bool false))∧wx.cell? ⟨V.heap.size,0,none⟩=some (.int .u8 5)∧wx.cell? ⟨V.heap.size,1,none⟩=some (.int .i64 0)∧wx.cell? ⟨V.heap.size,2,none⟩=some (.int .u64 0)∧wx.cell? ⟨V.heap.size,3,none⟩=some (.int .u64 0)∧wx.cell? ⟨V.heap.size,4,none⟩=some (.string ⟨#[]⟩)∧wx.cell? ⟨V.heap.size,5,none⟩=some (.string ⟨#[]⟩)∧wx.cell? ⟨V.heap.size,6,none⟩=some (.int .i64 0)∧wx.cell? ⟨V.heap.size,7,none⟩=some (.int .i64 0)∧wx.cell? ⟨V.heap.size,8,none⟩=some (.slice none 0 0)∧Ov W wx
theorem K8.go {V W wx wz:World} {b:Nat} (h:K8 V W b wx) (g:Below wx.heap.size wx wz):K8 V W b wz:=by
 obtain⟨⟨k0,k1,k2⟩,c0,c1,c2,c3,c4,c5,c6,c7,c8,hO⟩:=h
 have cc:∀ a v,wx.cell? a=some v→wz.cell? a=some v:=fun a v e=>(g.cell (block_in e)).trans e
 obtain⟨y,rfl⟩:=plus_of_below g
 exact⟨⟨cc _ _ k0,cc _ _ k1,cc _ _ k2⟩,cc _ _ c0,cc _ _ c1,cc _ _ c2,cc _ _ c3,cc _ _ c4,cc _ _ c5,cc _ _ c6,cc _ _ c7,cc _ _ c8,hO.plus⟩
theorem below_four (U:World) (y1 y2:Ext) (A:Obj) (y3:Ext) (B:Obj):Below U.heap.size U ((plus ((plus (plus U y1) y2).alloc A) y3).alloc B):=by
 have h1:=below_plus U y1
 have h2:=h1.trans ((below_plus (plus U y1) y2).mono h1.size)
 have h3:=h2.alloc h2.size A
 have h4:=h3.trans ((below_plus ((plus (plus U y1) y2).alloc A) y3).mono h3.size)
 exact h4.alloc h4.size B
theorem below_two8 (U:World) (A:Obj) (y3:Ext) (B:Obj):Below U.heap.size U ((plus (U.alloc A) y3).alloc B):=by
 have h3:=(Below.refl U.heap.size U).alloc (Nat.le_refl _) A
 have h4:=h3.trans ((below_plus (U.alloc A) y3).mono h3.size)
 exact h4.alloc h4.size B
theorem set3 {U:World} {b:Nat} (h0:U.cell? ⟨b,0,none⟩=some (.int .i64 0)) (h1:U.cell? ⟨b,1,none⟩=some (.bool false)) (h2:U.cell? ⟨b,2,none⟩=some (.bool false)) :
  (((U.setCell ⟨b,0,none⟩ (.int .i64 9)).setCell ⟨b,1,none⟩ (.bool false)).setCell ⟨b,2,none⟩ (.bool false)).cell? ⟨b,0,none⟩=some (.int .i64 9)∧(((U.setCell ⟨b,0,none⟩ (.int .i64 9)).setCell ⟨b,1,none⟩ (.bool false)).setCell ⟨b,2,none⟩ (.bool false)).cell? ⟨b,1,none⟩=some (.bool false)∧(((U.setCell ⟨b,0,none⟩ (.int .i64 9)).setCell ⟨b,1,none⟩ (.bool false)).setCell ⟨b,2,none⟩ (.bool false)).cell? ⟨b,2,none⟩=some (.bool false):=by
 simp [go_sem,h0,h1,h2]
theorem Ov.set {W U:World} (h:Ov W U) (a:Addr) (v:Value) (ha:W.heap.size≤a.block):Ov W (U.setCell a v):=by
 obtain⟨z,rfl⟩:=h
 exact plus_of_below ((below_plus W z).setCell (p:=a) ha _)
set_option maxRecDepth 100000 in
set_option maxHeartbeats 80000000 in
theorem law_known8 (V:World):Calls Tryz.prog 6 #[] V fun e w'=>e=.returned (.bool true)∧∃ x,w'=plus V x:=by
 go_enter Tryz.func6,Tryz.ntmps6
 go_upto_region 3 with (fail)
 obtain⟨W,hW,hB,hs,ca,fa⟩:=box1 V _ 45
 rw [← hW]
 have ca0:=ca 0 _ rfl ⟨#[],W.drawn⟩
 have ca1:=ca 1 _ rfl ⟨#[],W.drawn⟩
 have ca2:=ca 2 _ rfl ⟨#[],W.drawn⟩
 have ca3:=ca 3 _ rfl ⟨#[],W.drawn⟩
 have ca4:=ca 4 _ rfl ⟨#[],W.drawn⟩
 have ca5:=ca 5 _ rfl ⟨#[],W.drawn⟩
 have ca6:=ca 6 _ rfl ⟨#[],W.drawn⟩
 have ca7:=ca 7 _ rfl ⟨#[],W.drawn⟩
 have ca8:=ca 8 _ rfl ⟨#[],W.drawn⟩
 rw [plus_self] at ca0 ca1 ca2 ca3 ca4 ca5 ca6 ca7 ca8
 have hB':=Lib.hid hB
 clear hW ca fa hB hs
 go_cut [3,4] from 10 to 19 (fun s3 s4 wx=>∃ b:Nat,s3=.pointer (some ⟨b,0,none⟩)∧s4=.int .i64 0∧K8 V W b wx)
 case first =>
  have hS:∀ U,Ov W U→(U.cell? ⟨V.heap.size,0,none⟩=some (.int .u8 5)∧U.cell? ⟨V.heap.size,1,none⟩=some (.int .i64 0)∧U.cell? ⟨V.heap.size,2,none⟩=some (.int .u64 0)∧U.cell? ⟨V.heap.size,3,none⟩=some (.int .u64 0)∧U.cell? ⟨V.heap.size,4,none⟩=some (.string ⟨#[]⟩)∧U.cell? ⟨V.heap.size,5,none⟩=some (.string ⟨#[]⟩)∧U.cell? ⟨V.heap.size,6,none⟩=some (.int .i64 0)∧U.cell? ⟨V.heap.size,7,none⟩=some (.int .i64 0)∧U.cell? ⟨V.heap.size,8,none⟩=some (.slice none 0 0)∧Ov W U):=fun U hU=>by
   obtain⟨z,rfl⟩:=id hU
   exact⟨cell_keep ca0 z,cell_keep ca1 z,cell_keep ca2 z,cell_keep ca3 z,cell_keep ca4 z,cell_keep ca5 z,cell_keep ca6 z,cell_keep ca7 z,cell_keep ca8 z,hU⟩
  have hS':=Lib.hid hS
  have hW0:Ov W W:=⟨⟨#[],W.drawn⟩,(plus_self W).symm⟩
  have hW1:=Lib.hid hW0
  clear hS hW0 ca0 ca1 ca2 ca3 ca4 ca5 ca6 ca7 ca8
  have HL:=Lib.hid known_lit
  have HA:=Lib.hid known_add
  go_region_held3 (fun U=>U.cell? ⟨V.heap.size,0,none⟩=some (.int .u8 5)∧U.cell? ⟨V.heap.size,1,none⟩=some (.int .i64 0)∧U.cell? ⟨V.heap.size,2,none⟩=some (.int .u64 0)∧U.cell? ⟨V.heap.size,3,none⟩=some (.int .u64 0)∧U.cell? ⟨V.heap.size,4,none⟩=some (.string ⟨#[]⟩)∧U.cell? ⟨V.heap.size,5,none⟩=some (.string ⟨#[]⟩)∧U.cell? ⟨V.heap.size,6,none⟩=some (.int .i64 0)∧U.cell? ⟨V.heap.size,7,none⟩=some (.int .i64 0)∧U.cell? ⟨V.heap.size,8,none⟩=some (.slice none 0 0)∧Ov W U) (exact hS'.out _ (by repeat (first | exact hW1.out | assumption | apply Ov.drew | apply Ov.alloc | apply Ov.plus | refine Ov.set ?_ _ _ ?_ | exact Nat.le_refl _ | exact size_plus W.drew _ | exact Nat.le_trans (size_plus W.drew _) (Nat.le_succ _)))) (first|(go_at_call 15;refine (calls_kp8 (HL.out _ _)).mono ?_;rintro e w' ⟨rfl,x,rfl⟩)|(go_at_call 16;refine (calls_bf (HA.out _ _ (by repeat (first|((with_reducible apply heap_at8);simp;done)|(with_reducible apply heap_below8)|(with_reducible apply heap_plus8)|(with_reducible apply heap_drew8))))).mono ?_;rintro e w' ⟨rfl,x,rfl,hk⟩;first|(obtain⟨t0,t1,t2,t3,t4,t5,t6,t7,t8,t9,ta,tb⟩:=hk _ (by repeat (first | exact blk_new _ | with_reducible apply blk_plus | with_reducible apply blk_alloc | with_reducible apply blk_drew));clear hk;try simp only [World.size_alloc] at t0 t1 t2 t3 t4 t5 t6 t7 t8 t9 ta tb) | skip))
  all_goals
   go_wp2_with fail
   go_meet
   refine⟨_,rfl,rfl,?_,by assumption⟩
   first | exact set3 (by assumption) (by assumption) (by assumption) | exact⟨(cell_new _ _ _ _ _ rfl).trans rfl,(cell_new _ _ _ _ _ rfl).trans rfl,(cell_new _ _ _ _ _ rfl).trans rfl⟩
 case rest =>
  obtain⟨b,rfl,rfl,hK⟩:=hcut
  have hK':=Lib.hid hK
  clear hK ca0 ca1 ca2 ca3 ca4 ca5 ca6 ca7 ca8
  go_upto_region 4 with (fail)
  go_cut [5,6] from 20 to 30 (fun s5 s6 wz=>s6=.int .i64 10∧K8 V W b wz)
  case first =>
   go_wp2_with fail
   refine (calls_kp8 (known_lit 1 _)).mono ?_
   rintro e w' ⟨rfl,y1,rfl⟩
   go_wp2_with fail
   refine (calls_kp8 (known_lit 2 _)).mono ?_
   rintro e w' ⟨rfl,y2,rfl⟩
   go_wp2_with fail
   obtain⟨w1,t1,f1,q⟩:=known_eq _ _ (heap_at8 rfl)
   refine q.mono ?_
   rintro e w' ⟨rfl,y3,rfl⟩
   go_wp2_with fail
   go_meet
   exact⟨rfl,hK'.out.go (below_four _ _ _ _ _ _)⟩
  case rest =>
   obtain⟨rfl,hK2⟩:=hcut
   clear hK'
   have hK3:=Lib.hid hK2
   obtain⟨-,c0,c1,c2,c3,c4,c5,c6,c7,c8,-⟩:=hK2
   go_upto_region 5 with (fail)
   go_cut [7,8] from 31 to 38 (fun s7 s8 wz=>s8=.int .i64 9∧K8 V W b wz)
   case first =>
    go_wp2_with fail
    obtain⟨w1,t1,f1,q⟩:=known_bang _ _ (heap_at8 rfl)
    refine q.mono ?_
    rintro e w' ⟨rfl,y3,rfl⟩
    go_wp2_with fail
    go_meet
    exact⟨rfl,hK3.out.go (below_two8 _ _ _ _)⟩
   case rest =>
    obtain⟨rfl,hK4⟩:=hcut
    obtain⟨⟨k0,k1,k2⟩,-,-,-,-,-,-,-,-,-,hO⟩:=hK4
    have hO':=Lib.hid hO
    clear hO c0 c1 c2 c3 c4 c5 c6 c7 c8 hK3
    go_wp2_with fail
    go_ret
    obtain⟨z,rfl⟩:=hO'.out
    exact⟨rfl,plus_of_below (hB'.out.trans ((below_plus W z).mono hB'.out.size))⟩
end Go.Proofs.YtobhijbncchpiaaGreat
