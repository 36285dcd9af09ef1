/-
  WHAT IS PROVED HERE: a part of the proof (made narrower and merged by program; the parts: Zo Zp Zq).
-/
import Derived.Test.YtobhijbncchpiaaGreatM25
namespace Go.Proofs.YtobhijbncchpiaaGreat
open Go.RowKit Go.Shelf
attribute [local go_sem] Oper.semAt_some
mutual
/-- The items of a statement: its own, then those of its blocks. -/
def St.enc (a:Int):St→List It
 | .mk k hd nm e p c l q c2 l2=>.st a (.mk k hd nm e p c l q c2 l2) :: (St.encs a l++St.encs a l2)
def St.encs (a:Int):List St→List It
 | []=>[]
 | s :: l=>s.enc a++St.encs a l
end
theorem St.enc_eq (a:Int) (s:St):s.enc a=.st a s :: (St.encs a s.thn++St.encs a s.els):=by cases s;rw [St.enc];rfl
theorem St.encs_fl (a:Int):∀ (l:List St) (b:Nat),St.encs a l=flI (fun _ s=>s.enc a) b l
 | [],_=>by rw [St.encs];rfl
 | s :: l,b=>by rw [St.encs,St.encs_fl a l (b+1)];rfl
theorem St.encs_len (a:Int) (l:List St):(St.encs a l).length=(l.map fun s=>(s.enc a).length).sum:=by rw [St.encs_fl a l 0];exact flI_len (fun _ s=>St.enc a s) (fun s=>(s.enc a).length) (fun _ _=>rfl) l 0
def BlkAt (L:Sl St):Prop:=∀ (l:Nat) (xs:List It) (S:Nat→Prop) (J Jx:Nat→World→Prop),Rnd Tryz.prog l xs S J Jx→∀ (a:Int) (w:World),(∀ b,S b→w.heap.size≤b)→L.In w 14 St.cells (St.In w)→L.size St.sz≤1048576 →
 ∀ (k:Nat) (W:World),Kq S w W→(∀ b,S b→b < W.heap.size)→Sub xs k (St.encs a L.l)→J k W →
 CallsIn Fence.wide 0 Tryz.prog 78 #[yv l,.int .i64 a,L.v] W (Came S J Jx k (St.encs a L.l).length W)
set_option maxRecDepth 100000 in
set_option maxHeartbeats 8000000 in
theorem tblock1_of (l:Nat) (S:Nat→Prop) (J Jx:Nat→World→Prop) (hJ:Lays J) (a:Int) (i:Int) (skd:Int) (shd snm:ByteArray) (sop slw slh sll:Int) (sehd senm:ByteArray) (shi slo:Int) (sep:Option Addr) (sen sec:Nat) (stp:Option Addr) (stn stc:Nat) (sup:Option Addr) (sun suc:Nat) (c d:Nat) (k m n:Nat) (W:World) (hb:∀ b,S b→b < W.heap.size) (h0:J k W)
  (hc:∀ W1,Kq S W W1→W1.cell? ⟨c,0,none⟩=some (yv l)) (hd:∀ W1,Kq S W W1→W1.cell? ⟨d,0,none⟩=some (.int .i64 a))
  (hy:∀ W1,J k W1→YieldAt Fence.wide 0 Tryz.prog l #[.agg #[.int .u8 10,.int .i64 a,.int .i64 0,.int .u8 skd,.string shd,.string snm,.int .u8 sop,.int .i64 slw,.int .u64 slh,.int .u64 sll,.string sehd,.string senm,.int .i64 shi,.int .i64 slo,.slice sep sen sec,.slice stp stn stc,.slice sup sun suc]] W1 (Came S J Jx k 1 W1))
  (h1:∀ W1,Kq S W W1→J (k+1) W1→CallsIn Fence.wide 0 Tryz.prog 78 #[yv l,.int .i64 a,.slice stp stn stc] W1 (Came S J Jx (k+1) m W1))
  (h2:∀ W1,Kq S W W1→J (k+1+m) W1→CallsIn Fence.wide 0 Tryz.prog 78 #[yv l,.int .i64 a,.slice sup sun suc] W1 (Came S J Jx (k+1+m) n W1)) :
  CallsIn Fence.wide 0 Tryz.prog 146 #[.int .i64 i,.agg #[.int .u8 skd,.string shd,.string snm,.int .u8 sop,.int .i64 slw,.int .u64 slh,.int .u64 sll,.string sehd,.string senm,.int .i64 shi,.int .i64 slo,.slice sep sen sec,.slice stp stn stc,.slice sup sun suc],.pointer (some ⟨c,0,none⟩),.pointer (some ⟨d,0,none⟩)] W (Came S J Jx k (1+(m+n)) W):=by
 have hb':=Lib.hid hb
 have h1':=Lib.hid h1
 have h2':=Lib.hid h2
 have hc':=Lib.hid hc
 have hd':=Lib.hid hd
 have hy':=Lib.hid (fun o:Obj=>hy (W.alloc o) (lays_alloc hJ h0 o))
 have c0:=fun o:Obj=>hc (W.alloc o) (Kq.alloc S W o)
 have d0:=fun o:Obj=>hd (W.alloc o) (Kq.alloc S W o)
 clear hb h1 h2 hc hd hy h0 hJ
 refine callsIn_of_wp Tryz.func146 rfl trivial ?_ rfl
 simp only [Tryz.ntmps146,List.size_toArray,List.length_cons,List.length_nil,Nat.reduceAdd,Nat.reduceSub,Array.replicate_succ,Array.replicate_zero,List.push_toArray,List.append_toArray,List.nil_append,List.cons_append]
 obtain⟨fn,tmps,assign,body,hy1,hR⟩:=hy'.out (.cells #[.int .u8 skd,.string shd,.string snm,.int .u8 sop,.int .i64 slw,.int .u64 slh,.int .u64 sll,.string sehd,.string senm,.int .i64 shi,.int .i64 slo,.slice sep sen sec,.slice stp stn stc,.slice sup sun suc] 47)
 have hR':=Lib.hid hR
 clear hR hy'
 gi_wp2
 refine⟨rfl,(round_wide hR'.out).mono ?_⟩
 rintro e w1 (⟨rfl,hJ1,hk1⟩ | ⟨rfl,hx⟩)
 ·have hA1:=(Kq.alloc S W _).trans hk1
  have e4:=box_kq hb'.out _ _ hk1 12 _ rfl
  have c1:=hc'.out _ hA1
  have d1:=hd'.out _ hA1
  have q1:=Lib.hid (h1'.out w1 hA1 hJ1)
  have hk1':=Lib.hid hk1
  clear c0 d0 hy1 hk1 hA1 hJ1
  gi_wp2
  refine⟨trivial,rfl,CallsIn.mono q1.out ?_⟩
  rintro e w2 (⟨rfl,hJ2,hk2⟩ | ⟨rfl,hx⟩)
  ·have hB2:=hk1'.out.trans hk2
   have hA2:=(Kq.alloc S W _).trans hB2
   have e5:=box_kq hb'.out _ _ hB2 13 _ rfl
   have c2:=hc'.out _ hA2
   have d2:=hd'.out _ hA2
   have q2:=Lib.hid (h2'.out w2 hA2 hJ2)
   have hA2':=Lib.hid hA2
   clear c1 d1 e4 hk2 hB2 hA2 hJ2 q1
   gi_wp2
   refine⟨trivial,rfl,CallsIn.mono q2.out ?_⟩
   rintro e w3 (⟨rfl,hJ3,hk3⟩ | ⟨rfl,hx⟩)
   ·gi_wp2
    go_ret
    exact .inl ⟨rfl,by rw [show k+(1+(m+n))=k+1+m+n by omega];exact hJ3,hA2'.out.trans hk3⟩
   ·gi_wp2
    go_ret
    exact .inr ⟨rfl,hx⟩
  ·gi_wp2
   refine⟨trivial,?_⟩
   gi_wp2
   go_ret
   exact .inr ⟨rfl,hx⟩
 ·clear c0 d0 hy1
  gi_wp2
  refine⟨trivial,?_⟩
  gi_wp2
  refine⟨trivial,?_⟩
  gi_wp2
  go_ret
  exact .inr ⟨rfl,hx⟩
theorem two_boxes (V:World) (x y:Value) (t u:TypeId):((V.alloc (.cells #[x] t)).alloc (.cells #[y] u)).cell? ⟨V.heap.size,0,none⟩=some x∧((V.alloc (.cells #[x] t)).alloc (.cells #[y] u)).cell? ⟨V.heap.size+1,0,none⟩=some y∧((V.alloc (.cells #[x] t)).alloc (.cells #[y] u)).heap.size=V.heap.size+1+1:=by
 obtain⟨W,hW,-,hs,ca,cb,-,-⟩:=box2 V #[x] #[y] t u
 have a:=ca 0 _ rfl ⟨#[],W.drawn⟩
 have b:=cb 0 _ rfl ⟨#[],W.drawn⟩
 rw [plus_self] at a b
 rw [← hW]
 exact⟨a,b,hs⟩
set_option maxRecDepth 100000 in
set_option maxHeartbeats 8000000 in
theorem tblock_of (L:Sl St) (ih:∀ x ∈ L.l,BlkAt x.thnS∧BlkAt x.elsS):BlkAt L:=by
 intro l xs S J Jx hR a w hS hin hz k W hw hb hs h0
 have hlen:=len_le St.sz St.sz_pos L hz
 obtain⟨c,hc⟩:∃ c,W.heap.size=c:=⟨_,rfl⟩
 have hmain:∀ V,Kq S W V→V.cell? ⟨c,0,none⟩=some (yv l)→V.cell? ⟨c+1,0,none⟩=some (.int .i64 a)→c+1 < V.heap.size→J k V →
   CallsIn Fence.wide 0 Tryz.prog 145 #[L.v,.func (.func 146) #[] #[.pointer (some ⟨c,0,none⟩),.pointer (some ⟨c+1,0,none⟩)]] V (Came S J Jx k (St.encs a L.l).length V):=by
  intro V hV hc1 hc2 hsz hJk
  rw [St.encs_len]
  have hbV:∀ b,S b→b < V.heap.size:=fun b h=>Nat.lt_of_lt_of_le (hb b h) hV.size
  have hnc:¬ S c:=fun h=>Nat.lt_irrefl _ (hc ▸ hb c h)
  have hnd:¬ S (c+1):=fun h=>by have:=hb _ h;omega
  have hsf:Sub xs k (flI (fun _ s=>St.enc a s) 0 L.l):=by rw [← St.encs_fl];exact hs
  refine eachr_Stmt St.cells shp_st (fun s=>(St.enc a s).length) 146 #[] #[.pointer (some ⟨c,0,none⟩),.pointer (some ⟨c+1,0,none⟩)] (St.In w) S J Jx hR.lays w hS L hin hlen (enters_of Tryz.func146 (by kernel_rfl) rfl) k V (hw.trans hV) hbV hJk ?_
  intro i x W1 hx hK hJi
  have hmem:x ∈ L.l:=List.mem_of_getElem? hx
  have hxz:x.sz≤1048576:=Nat.le_trans (le_sum_of St.sz L.l x hmem) hz
  have h1z:=St.sz_eq x
  have hxin:=hin.kids x hmem
  have sx:Sub xs (k+upI (fun s=>(St.enc a s).length) L.l i) (St.enc a x):=Sub.at (fun _ s=>St.enc a s) (fun s=>(St.enc a s).length) (fun _ _=>rfl) L.l k 0 i x hsf hx
  rw [St.enc_eq] at sx
  have hwV:Kq S w W1:=(hw.trans hV).trans hK
  have hbW:∀ b,S b→b < W1.heap.size:=fun b h=>Nat.lt_of_lt_of_le (hbV b h) hK.size
  have q:=tblock1_of l S J Jx hR.lays a (i:Int) x.kind x.head x.name x.e.op x.e.lit.w x.e.lit.h x.e.lit.l x.e.head x.e.name x.e.hi x.e.lo x.e.p x.e.args.length x.e.cap x.p x.thn.length x.cap x.q x.els.length x.cbp c (c+1) (k+upI (fun s=>(St.enc a s).length) L.l i) (St.encs a x.thn).length (St.encs a x.els).length W1 hbW hJi
   (fun W2 h=>(hK.trans h).cell _ _ hnc hc1) (fun W2 h=>(hK.trans h).cell _ _ hnd hc2)
   (fun W2 h=>hR.next _ (.st a x) W2 sx.head h)
   (fun W2 h hj=>(ih x hmem).1 l xs S J Jx hR a w hS (St.In.inThn hxin) (show (x.thn.map St.sz).sum≤_ by omega) _ W2 (hwV.trans h) (fun b hb=>Nat.lt_of_lt_of_le (hbW b hb) h.size) sx.tail.left hj)
   (fun W2 h hj=>(ih x hmem).2 l xs S J Jx hR a w hS (St.In.inEls hxin) (show (x.els.map St.sz).sum≤_ by omega) _ W2 (hwV.trans h) (fun b hb=>Nat.lt_of_lt_of_le (hbW b hb) h.size) sx.tail.right hj)
  rw [show (St.enc a x).length=1+((St.encs a x.thn).length+(St.encs a x.els).length) by rw [St.enc_eq];simp;omega]
  exact q
 have hmain':=Lib.hid hmain
 have h0':=Lib.hid h0
 have hR':=Lib.hid hR
 have hb':=Lib.hid hb
 have hc':=Lib.hid hc
 obtain⟨p,cap,ll⟩:=L
 simp only [Sl.v] at hmain' ⊢
 generalize ll.length=n1 at hmain' ⊢
 clear hmain h0 hR hb hc hin hz hs hw hS hlen ih
 refine callsIn_of_wp Tryz.func78 rfl trivial ?_ rfl
 simp only [Tryz.ntmps78,List.size_toArray,List.length_cons,List.length_nil,Nat.reduceAdd,Nat.reduceSub,Array.replicate_succ,Array.replicate_zero,List.push_toArray,List.append_toArray,List.nil_append,List.cons_append]
 gi_wp2
 have hA:=(Kq.alloc S W (.cells #[yv l] 133)).trans (Kq.alloc S _ (.cells #[.int .i64 a] 3))
 obtain⟨b1,b2,bs⟩:=two_boxes W (yv l) (.int .i64 a) 133 3
 have e:=hc'.out
 refine⟨trivial,rfl,CallsIn.mono (by rw [e] at b1 b2 bs ⊢;exact hmain'.out _ hA b1 b2 (by rw [bs];omega) (lays_alloc hR'.out.lays (lays_alloc hR'.out.lays h0'.out _) _)) ?_⟩
 rintro r w' (⟨rfl,hJ,hk⟩ | ⟨rfl,hx⟩)
 ·gi_wp2
  go_ret
  exact .inl ⟨rfl,hJ,hA.trans hk⟩
 ·gi_wp2
  go_ret
  exact .inr ⟨rfl,hx⟩
theorem tblocks_at:∀ s:St,BlkAt s.thnS∧BlkAt s.elsS:=fun s=>St.ind (Q:=fun s=>BlkAt s.thnS∧BlkAt s.elsS) (fun s h1 h2=>⟨tblock_of s.thnS fun x hx=>h1 x hx,tblock_of s.elsS fun x hx=>h2 x hx⟩) s
theorem blockT_in (L:Sl St):BlkAt L:=tblock_of L fun x _=>tblocks_at x
open Go.Shelf
attribute [local go_sem] Oper.semAt_some
theorem St.enc_len (a b:Int):∀ s:St,(s.enc a).length=(s.enc b).length:=fun s=>St.ind (Q:=fun s=>(s.enc a).length=(s.enc b).length) (fun s h1 h2=>by
 rw [St.enc_eq,St.enc_eq,List.length_cons,List.length_cons,List.length_append,List.length_append,St.encs_len,St.encs_len,St.encs_len,St.encs_len,List.map_congr_left h1,List.map_congr_left h2]) s
theorem St.encs_len2 (a b:Int) (l:List St):(St.encs a l).length=(St.encs b l).length:=by rw [St.encs_len,St.encs_len,List.map_congr_left fun s _=>St.enc_len a b s]
def encA (a:Nat) (x:Ac):List It:=.num 8 a 0 :: (ptI 9 a x.params.l.length++St.encs (a:Int) x.body.l)
def lenA (x:Ac):Nat:=x.params.l.length+(St.encs 0 x.body.l).length+1
theorem encA_len (a:Nat) (x:Ac):(encA a x).length=lenA x:=by simp [encA,lenA,ptI_len,St.encs_len2 (a:Int) 0 x.body.l]
def lenH (x:Hr):Nat:=x.fields.l.length+1
theorem encH_len (a:Nat) (x:Hr):(encH a x.fields.l.length).length=lenH x:=by simp [encH,lenH,ptI_len]
def lenS (x:Sa):Nat:=x.takes.l.length+x.cases.l.length+2
theorem encS_len (a:Nat) (x:Sa):(encS a x.takes.l.length x.cases.l.length).length=lenS x:=by simp [encS,lenS,ptI_len];omega
def lenT (x:Ta):Nat:=x.keys.l.length+x.actions.l.length+2
theorem encT_len (a:Nat) (x:Ta):(encT a x.keys.l.length x.actions.l.length).length=lenT x:=by simp [encT,lenT,ptI_len];omega
def e1 (p:Pr):List It:=flI (fun a h=>encH a h.fields.l.length) 0 p.headers.l
def e2 (p:Pr):List It:=flI (fun a (_:Fd)=>[.num 3 a 0]) 0 p.metas.l
def e3 (p:Pr):List It:=flI (fun a s=>encS a s.takes.l.length s.cases.l.length) 0 p.states.l
def e4 (p:Pr):List It:=flI encA 0 p.actions.l
def e5 (p:Pr):List It:=flI (fun a x=>encT a x.keys.l.length x.actions.l.length) 0 p.tables.l
def e6 (p:Pr):List It:=St.encs (-1) p.control.l
def e7 (p:Pr):List It:=flI (fun a (_:ByteArray)=>[.num 15 a 0]) 0 p.emit.l
/-- A program's items, in their order. -/
def encP (p:Pr):List It:=e1 p++(e2 p++(e3 p++(e4 p++(e5 p++(e6 p++e7 p)))))
theorem cell_new1 (V:World) (x:Value) (t:TypeId):(V.alloc (.cells #[x] t)).cell? ⟨V.heap.size,0,none⟩=some x:=by
 obtain⟨W,hW,-,hs,ca,-⟩:=box1 V #[x] t
 have a:=ca 0 _ rfl ⟨#[],W.drawn⟩
 rw [plus_self] at a
 rw [← hW]
 exact a
set_option maxRecDepth 100000 in
set_option maxHeartbeats 8000000 in
theorem meta_in (l:Nat) (xs:List It) (S:Nat→Prop) (J Jx:Nat→World→Prop) (hR:Rnd Tryz.prog l xs S J Jx) (a:Nat) (nm:ByteArray) (w0:Int) (c k:Nat) (W:World) (hs:xs[k]?=some (.num 3 a 0)) (hc:W.cell? ⟨c,0,none⟩=some (yv l)) (h0:J k W) :
  CallsIn Fence.wide 0 Tryz.prog 70 #[.int .i64 (a:Int),.agg #[.string nm,.int .i64 w0],.pointer (some ⟨c,0,none⟩)] W (Came S J Jx k 1 W):=by
 have q1:=Lib.hid (fun o:Obj=>one_in l 3 (a:Int) S J Jx k (W.alloc o) (hR.one hs (lays_alloc hR.lays h0 o)))
 have c0:=fun o:Obj=>cell_alloc hc o
 clear hR hs h0
 refine callsIn_of_wp Tryz.func70 rfl trivial ?_ rfl
 simp only [Tryz.ntmps70,List.size_toArray,List.length_cons,List.length_nil,Nat.reduceAdd,Nat.reduceSub,Array.replicate_succ,Array.replicate_zero,List.push_toArray,List.append_toArray,List.nil_append,List.cons_append]
 gi_wp2
 refine⟨trivial,rfl,CallsIn.mono (q1.out _) ?_⟩
 rintro e w' (⟨rfl,hJ2,hk2⟩ | ⟨rfl,hx⟩)
 ·gi_wp2
  go_ret
  exact .inl ⟨rfl,hJ2,(Kq.alloc S W _).trans hk2⟩
 ·gi_wp2
  go_ret
  exact .inr ⟨rfl,hx⟩
set_option maxRecDepth 100000 in
set_option maxHeartbeats 8000000 in
theorem emit_in (l:Nat) (xs:List It) (S:Nat→Prop) (J Jx:Nat→World→Prop) (hR:Rnd Tryz.prog l xs S J Jx) (a:Nat) (nm:ByteArray) (c k:Nat) (W:World) (hs:xs[k]?=some (.num 15 a 0)) (hc:W.cell? ⟨c,0,none⟩=some (yv l)) (h0:J k W) :
  CallsIn Fence.wide 0 Tryz.prog 80 #[.int .i64 (a:Int),.string nm,.pointer (some ⟨c,0,none⟩)] W (Came S J Jx k 1 W):=by
 have q1:=Lib.hid (one_in l 15 (a:Int) S J Jx k W (hR.one hs h0))
 clear hR hs h0
 refine callsIn_of_wp Tryz.func80 rfl trivial ?_ rfl
 simp only [Tryz.ntmps80,List.size_toArray,List.length_cons,List.length_nil,Nat.reduceAdd,Nat.reduceSub,Array.replicate_succ,Array.replicate_zero,List.push_toArray,List.append_toArray,List.nil_append,List.cons_append]
 gi_wp2
 refine⟨trivial,rfl,CallsIn.mono q1.out ?_⟩
 rintro e w' (⟨rfl,hJ2,hk2⟩ | ⟨rfl,hx⟩)
 ·gi_wp2
  go_ret
  exact .inl ⟨rfl,hJ2,hk2⟩
 ·gi_wp2
  go_ret
  exact .inr ⟨rfl,hx⟩
set_option maxRecDepth 100000 in
set_option maxHeartbeats 8000000 in
theorem items1_of (l:Nat) (S:Nat→Prop) (J Jx:Nat→World→Prop) (hJ:Lays J) (p0:Option Addr) (s0 c0:Nat) (p1:Option Addr) (s1 c1:Nat) (p2:Option Addr) (s2 c2:Nat) (p3:Option Addr) (s3 c3:Nat) (p4:Option Addr) (s4 c4:Nat) (p5:Option Addr) (s5 c5:Nat) (p6:Option Addr) (s6 c6:Nat) (n0 n1 n2 n3 n4 n5 n6:Nat) (k:Nat) (pb:Nat) (W:World) (hb:∀ b,S b→b < W.heap.size) (hpb:¬ S pb) (hp:CellsAt W ⟨pb,0,none⟩ [.slice p0 s0 c0,.slice p1 s1 c1,.slice p2 s2 c2,.slice p3 s3 c3,.slice p4 s4 c4,.slice p5 s5 c5,.slice p6 s6 c6]) (h0:J k W)
  (q0:∀ V,Kq S W V→V.cell? ⟨W.heap.size,0,none⟩=some (yv l)→J (k) V→CallsIn Fence.wide 0 Tryz.prog 67 #[.slice p0 s0 c0,.func (.func 68) #[yv l] #[]] V (Came S J Jx (k) n0 V))
  (q1:∀ V,Kq S W V→V.cell? ⟨W.heap.size,0,none⟩=some (yv l)→J (k+n0) V→CallsIn Fence.wide 0 Tryz.prog 69 #[.slice p1 s1 c1,.func (.func 70) #[] #[.pointer (some ⟨W.heap.size,0,none⟩)]] V (Came S J Jx (k+n0) n1 V))
  (q2:∀ V,Kq S W V→V.cell? ⟨W.heap.size,0,none⟩=some (yv l)→J (k+n0+n1) V→CallsIn Fence.wide 0 Tryz.prog 72 #[.slice p2 s2 c2,.func (.func 73) #[yv l] #[]] V (Came S J Jx (k+n0+n1) n2 V))
  (q3:∀ V,Kq S W V→V.cell? ⟨W.heap.size,0,none⟩=some (yv l)→J (k+n0+n1+n2) V→CallsIn Fence.wide 0 Tryz.prog 74 #[.slice p3 s3 c3,.func (.func 75) #[yv l] #[]] V (Came S J Jx (k+n0+n1+n2) n3 V))
  (q4:∀ V,Kq S W V→V.cell? ⟨W.heap.size,0,none⟩=some (yv l)→J (k+n0+n1+n2+n3) V→CallsIn Fence.wide 0 Tryz.prog 76 #[.slice p4 s4 c4,.func (.func 77) #[yv l] #[]] V (Came S J Jx (k+n0+n1+n2+n3) n4 V))
  (q5:∀ V,Kq S W V→V.cell? ⟨W.heap.size,0,none⟩=some (yv l)→J (k+n0+n1+n2+n3+n4) V→CallsIn Fence.wide 0 Tryz.prog 78 #[yv l,.int .i64 (-1),.slice p5 s5 c5] V (Came S J Jx (k+n0+n1+n2+n3+n4) n5 V))
  (q6:∀ V,Kq S W V→V.cell? ⟨W.heap.size,0,none⟩=some (yv l)→J (k+n0+n1+n2+n3+n4+n5) V→CallsIn Fence.wide 0 Tryz.prog 79 #[.slice p6 s6 c6,.func (.func 80) #[] #[.pointer (some ⟨W.heap.size,0,none⟩)]] V (Came S J Jx (k+n0+n1+n2+n3+n4+n5) n6 V)) :
  CallsIn Fence.wide 0 Tryz.prog 66 #[yv l,.pointer (some ⟨pb,0,none⟩)] W (fun e w'=>(∃ v,e=.returned v)∧((J (k+n0+n1+n2+n3+n4+n5+n6) w'∧Kq S W w')∨∃ i,Jx i w')):=by
 have q0':=Lib.hid q0
 have q1':=Lib.hid q1
 have q2':=Lib.hid q2
 have q3':=Lib.hid q3
 have q4':=Lib.hid q4
 have q5':=Lib.hid q5
 have q6':=Lib.hid q6
 have hb':=Lib.hid hb
 have h0':=Lib.hid (fun o:Obj=>lays_alloc hJ h0 o)
 have hP:∀ V,Kq S W V→∀ (j:Nat) (v:Value),[.slice p0 s0 c0,.slice p1 s1 c1,.slice p2 s2 c2,.slice p3 s3 c3,.slice p4 s4 c4,.slice p5 s5 c5,.slice p6 s6 c6][j]?=some v→V.cell? ⟨pb,j,none⟩=some v:=fun V h j v hj=>h.cell ⟨pb,j,none⟩ v hpb (by have:=hp j v hj;rw [show (⟨pb,0,none⟩:Addr).add j=⟨pb,j,none⟩ by simp [Addr.add];exact fun h=>h.symm] at this;exact this)
 have hP':=Lib.hid hP
 have f0:=fun o:Obj=>cell_alloc (hp.c0 _ rfl) o
 clear q0 q1 q2 q3 q4 q5 q6 hb h0 hp hpb hJ hP
 refine callsIn_of_wp Tryz.func66 rfl trivial ?_ rfl
 simp only [Tryz.ntmps66,List.size_toArray,List.length_cons,List.length_nil,Nat.reduceAdd,Nat.reduceSub,Array.replicate_succ,Array.replicate_zero,List.push_toArray,List.append_toArray,List.nil_append,List.cons_append]
 gi_wp2
 have g0:=Lib.hid (q0'.out _ (Kq.alloc S W (.cells #[yv l] 133)) (cell_new1 W (yv l) 133) (h0'.out _))
 refine⟨trivial,rfl,CallsIn.mono g0.out ?_⟩
 rintro e w0 (⟨rfl,hJ0,hk0⟩ | ⟨rfl,hx⟩)
 ·have hA0:=hk0
  have hW0:=(Kq.alloc S W _).trans hA0
  have b0:=box_kq hb'.out _ _ hA0 0 _ rfl
  have f1:=hP'.out _ hW0 1 _ rfl
  have g1:=Lib.hid (q1'.out _ hW0 b0 hJ0)
  have hA0':=Lib.hid hA0
  clear g0 hk0 hA0 hJ0 hW0 f0
  gi_wp2
  refine⟨trivial,rfl,CallsIn.mono g1.out ?_⟩
  rintro e w1 (⟨rfl,hJ1,hk1⟩ | ⟨rfl,hx⟩)
  ·have hA1:=hA0'.out.trans hk1
   have hW1:=(Kq.alloc S W _).trans hA1
   have b1:=box_kq hb'.out _ _ hA1 0 _ rfl
   have f2:=hP'.out _ hW1 2 _ rfl
   have g2:=Lib.hid (q2'.out _ hW1 b1 hJ1)
   have hA1':=Lib.hid hA1
   clear g1 hk1 hA1 hJ1 hW1 f1 b0
   gi_wp2
   refine⟨trivial,rfl,CallsIn.mono g2.out ?_⟩
   rintro e w2 (⟨rfl,hJ2,hk2⟩ | ⟨rfl,hx⟩)
   ·have hA2:=hA1'.out.trans hk2
    have hW2:=(Kq.alloc S W _).trans hA2
    have b2:=box_kq hb'.out _ _ hA2 0 _ rfl
    have f3:=hP'.out _ hW2 3 _ rfl
    have g3:=Lib.hid (q3'.out _ hW2 b2 hJ2)
    have hA2':=Lib.hid hA2
    clear g2 hk2 hA2 hJ2 hW2 f2 b1
    gi_wp2
    refine⟨trivial,rfl,CallsIn.mono g3.out ?_⟩
    rintro e w3 (⟨rfl,hJ3,hk3⟩ | ⟨rfl,hx⟩)
    ·have hA3:=hA2'.out.trans hk3
     have hW3:=(Kq.alloc S W _).trans hA3
     have b3:=box_kq hb'.out _ _ hA3 0 _ rfl
     have f4:=hP'.out _ hW3 4 _ rfl
     have g4:=Lib.hid (q4'.out _ hW3 b3 hJ3)
     have hA3':=Lib.hid hA3
     clear g3 hk3 hA3 hJ3 hW3 f3 b2
     gi_wp2
     refine⟨trivial,rfl,CallsIn.mono g4.out ?_⟩
     rintro e w4 (⟨rfl,hJ4,hk4⟩ | ⟨rfl,hx⟩)
     ·have hA4:=hA3'.out.trans hk4
      have hW4:=(Kq.alloc S W _).trans hA4
      have b4:=box_kq hb'.out _ _ hA4 0 _ rfl
      have f5:=hP'.out _ hW4 5 _ rfl
      have g5:=Lib.hid (q5'.out _ hW4 b4 hJ4)
      have hA4':=Lib.hid hA4
      clear g4 hk4 hA4 hJ4 hW4 f4 b3
      gi_wp2
      refine⟨trivial,rfl,CallsIn.mono g5.out ?_⟩
      rintro e w5 (⟨rfl,hJ5,hk5⟩ | ⟨rfl,hx⟩)
      ·have hA5:=hA4'.out.trans hk5
       have hW5:=(Kq.alloc S W _).trans hA5
       have b5:=box_kq hb'.out _ _ hA5 0 _ rfl
       have f6:=hP'.out _ hW5 6 _ rfl
       have g6:=Lib.hid (q6'.out _ hW5 b5 hJ5)
       have hA5':=Lib.hid hA5
       clear g5 hk5 hA5 hJ5 hW5 f5 b4
       gi_wp2
       refine⟨trivial,rfl,CallsIn.mono g6.out ?_⟩
       rintro e w6 (⟨rfl,hJ6,hk6⟩ | ⟨rfl,hx⟩)
       ·have hA6:=hA5'.out.trans hk6
        have hW6:=(Kq.alloc S W _).trans hA6
        have hW':=Lib.hid hW6
        clear hA6 hk6 hW6
        gi_wp2
        go_end0
        exact⟨⟨_,rfl⟩,.inl ⟨hJ6,hW'.out⟩⟩
       ·gi_wp2
        go_end0
        exact⟨⟨_,rfl⟩,.inr hx⟩
      ·gi_wp2
       refine⟨trivial,?_⟩
       gi_wp2
       go_end0
       exact⟨⟨_,rfl⟩,.inr hx⟩
     ·gi_wp2
      refine⟨trivial,?_⟩
      gi_wp2
      refine⟨trivial,?_⟩
      gi_wp2
      go_end0
      exact⟨⟨_,rfl⟩,.inr hx⟩
    ·gi_wp2
     refine⟨trivial,?_⟩
     gi_wp2
     refine⟨trivial,?_⟩
     gi_wp2
     refine⟨trivial,?_⟩
     gi_wp2
     go_end0
     exact⟨⟨_,rfl⟩,.inr hx⟩
   ·gi_wp2
    refine⟨trivial,?_⟩
    gi_wp2
    refine⟨trivial,?_⟩
    gi_wp2
    refine⟨trivial,?_⟩
    gi_wp2
    refine⟨trivial,?_⟩
    gi_wp2
    go_end0
    exact⟨⟨_,rfl⟩,.inr hx⟩
  ·gi_wp2
   refine⟨trivial,?_⟩
   gi_wp2
   refine⟨trivial,?_⟩
   gi_wp2
   refine⟨trivial,?_⟩
   gi_wp2
   refine⟨trivial,?_⟩
   gi_wp2
   refine⟨trivial,?_⟩
   gi_wp2
   go_end0
   exact⟨⟨_,rfl⟩,.inr hx⟩
 ·gi_wp2
  refine⟨trivial,?_⟩
  gi_wp2
  refine⟨trivial,?_⟩
  gi_wp2
  refine⟨trivial,?_⟩
  gi_wp2
  refine⟨trivial,?_⟩
  gi_wp2
  refine⟨trivial,?_⟩
  gi_wp2
  refine⟨trivial,?_⟩
  gi_wp2
  go_end0
  exact⟨⟨_,rfl⟩,.inr hx⟩
theorem items1_in (l:Nat) (p:Pr) (S:Nat→Prop) (J Jx:Nat→World→Prop) (hR:Rnd Tryz.prog l (encP p) S J Jx) (w:World) (hS:∀ b,S b→w.heap.size≤b) (hin:p.In w) (hz:p.sz≤1048576) (pb:Nat) (W:World) (hw:Kq S w W) (hb:∀ b,S b→b < W.heap.size) (hpb:¬ S pb) (hp:CellsAt W ⟨pb,0,none⟩ p.cells) (h0:J 0 W) :
  CallsIn Fence.wide 0 Tryz.prog 66 #[yv l,.pointer (some ⟨pb,0,none⟩)] W (fun e w'=>(∃ v,e=.returned v)∧((J (encP p).length w'∧Kq S W w')∨∃ i,Jx i w')):=by
 have hs:Sub (encP p) 0 (encP p):=fun j x h=>by rw [Nat.zero_add];exact h
 obtain⟨i0,i1,i2,i3,i4,i5,i6⟩:=hin
 have z:=hz
 unfold Pr.sz at z
 have hent:∀ V,Kq S W V→∀ b,S b→b < V.heap.size:=fun V h b q=>Nat.lt_of_lt_of_le (hb b q) h.size
 have hnb:¬ S W.heap.size:=fun h=>Nat.lt_irrefl _ (hb _ h)
 have s1:Sub (encP p) 0 (e1 p):=hs.left
 have r1:=hs.right
 have s2:=r1.left
 have r2:=r1.right
 have s3:=r2.left
 have r3:=r2.right
 have s4:=r3.left
 have r4:=r3.right
 have s5:=r4.left
 have r5:=r4.right
 have s6:=r5.left
 have s7:=r5.right
 have l1:(e1 p).length=(p.headers.l.map lenH).sum:=flI_len _ _ (fun a x=>encH_len a x) _ _
 have l2:(e2 p).length=(p.metas.l.map fun _=>1).sum:=flI_len (fun a (_:Fd)=>[It.num 3 a 0]) (fun _=>1) (fun _ _=>rfl) _ _
 have l3:(e3 p).length=(p.states.l.map lenS).sum:=flI_len _ _ (fun a x=>encS_len a x) _ _
 have l4:(e4 p).length=(p.actions.l.map lenA).sum:=flI_len _ _ (fun a x=>encA_len a x) _ _
 have l5:(e5 p).length=(p.tables.l.map lenT).sum:=flI_len _ _ (fun a x=>encT_len a x) _ _
 have l7:(e7 p).length=(p.emit.l.map fun _=>1).sum:=flI_len (fun a (_:ByteArray)=>[It.num 15 a 0]) (fun _=>1) (fun _ _=>rfl) _ _
 have hlen:(encP p).length=0+(e1 p).length+(e2 p).length+(e3 p).length+(e4 p).length+(e5 p).length+(e6 p).length+(e7 p).length:=by
  unfold encP
  simp only [List.length_append]
  omega
 rw [hlen]
 refine items1_of l S J Jx hR.lays p.headers.p p.headers.l.length p.headers.cap p.metas.p p.metas.l.length p.metas.cap p.states.p p.states.l.length p.states.cap p.actions.p p.actions.l.length p.actions.cap p.tables.p p.tables.l.length p.tables.cap p.control.p p.control.l.length p.control.cap p.emit.p p.emit.l.length p.emit.cap (e1 p).length (e2 p).length (e3 p).length (e4 p).length (e5 p).length (e6 p).length (e7 p).length 0 pb W hb hpb hp h0 ?_ ?_ ?_ ?_ ?_ ?_ ?_
 ·intro V hV _ hJ
  rw [l1]
  refine eachr_Header Hr.cells shp_hr lenH _ #[yv l] #[] (Hr.In w) S J Jx hR.lays w hS p.headers i0 (len_le Hr.sz (fun x=>by unfold Hr.sz;omega) _ (by unfold Sl.size at *;omega)) (enters_of Tryz.func68 (by kernel_rfl) rfl) _ V (hw.trans hV) (hent V hV) hJ ?_
  intro i x W1 hx hK hJi
  have hm:x ∈ p.headers.l:=List.mem_of_getElem? hx
  have hl:x.fields.l.length≤1048576:=by
   have:=le_sum_of Hr.sz p.headers.l x hm
   have h2:=length_le_sum Fd.sz (fun y=>by unfold Fd.sz;omega) x.fields.l
   unfold Hr.sz Sl.size at *
   omega
  exact theader_in l (encP p) S J Jx hR i x.name x.fields.p x.fields.l.length x.fields.cap hl _ (by have:=Sub.at _ _ (fun a y=>encH_len a y) p.headers.l 0 0 i x s1 hx;rw [Nat.zero_add i] at this;exact this) W1 (hent W1 (hV.trans hK)) hJi
 ·intro V hV hc hJ
  rw [l2]
  refine eachr_Field Fd.cells shp_fd (fun _=>1) _ #[] #[.pointer (some ⟨W.heap.size,0,none⟩)] (Fd.In w) S J Jx hR.lays w hS p.metas i1 (len_le Fd.sz (fun x=>by unfold Fd.sz;omega) _ (by unfold Sl.size at *;omega)) (enters_of Tryz.func70 (by kernel_rfl) rfl) _ V (hw.trans hV) (hent V hV) hJ ?_
  intro i x W1 hx hK hJi
  exact meta_in l (encP p) S J Jx hR i x.name x.w W.heap.size _ W1 (by have:=Sub.at (fun a (_:Fd)=>[It.num 3 a 0]) (fun _=>1) (fun _ _=>rfl) p.metas.l _ 0 i x s2 hx;rw [Nat.zero_add i] at this;exact this.head) (hK.cell _ _ hnb hc) hJi
 ·intro V hV _ hJ
  rw [l3]
  refine eachr_State Sa.cells shp_sa lenS _ #[yv l] #[] (Sa.In w) S J Jx hR.lays w hS p.states i2 (len_le Sa.sz (fun x=>by unfold Sa.sz;omega) _ (by unfold Sl.size at *;omega)) (enters_of Tryz.func73 (by kernel_rfl) rfl) _ V (hw.trans hV) (hent V hV) hJ ?_
  intro i x W1 hx hK hJi
  have hm:x ∈ p.states.l:=List.mem_of_getElem? hx
  have q0:=le_sum_of Sa.sz p.states.l x hm
  have q1:=length_le_sum strSize (fun y=>by unfold strSize;omega) x.takes.l
  have q2:=length_le_sum Ca.sz (fun y=>by unfold Ca.sz;omega) x.cases.l
  exact tstate_in l (encP p) S J Jx hR i x.name x.to x.takes.p x.keys.p x.cases.p x.takes.l.length x.takes.cap x.keys.l.length x.keys.cap x.cases.l.length x.cases.cap (by unfold Sa.sz Sl.size at *;omega) (by unfold Sa.sz Sl.size at *;omega) _ (by have:=Sub.at _ _ (fun a y=>encS_len a y) p.states.l _ 0 i x s3 hx;rw [Nat.zero_add i] at this;exact this) W1 (hent W1 (hV.trans hK)) hJi
 ·intro V hV _ hJ
  rw [l4]
  refine eachr_Action Ac.cells shp_ac lenA _ #[yv l] #[] (Ac.In w) S J Jx hR.lays w hS p.actions i3 (len_le Ac.sz (fun x=>by unfold Ac.sz;omega) _ (by unfold Sl.size at *;omega)) (enters_of Tryz.func75 (by kernel_rfl) rfl) _ V (hw.trans hV) (hent V hV) hJ ?_
  intro i x W1 hx hK hJi
  have hm:x ∈ p.actions.l:=List.mem_of_getElem? hx
  have q0:=le_sum_of Ac.sz p.actions.l x hm
  have q1:=length_le_sum Fd.sz (fun y=>by unfold Fd.sz;omega) x.params.l
  have q2:x.body.size St.sz≤1048576:=by unfold Ac.sz Sl.size at *;omega
  rw [show lenA x=x.params.l.length+(St.encs (i:Int) x.body.l).length+1 by unfold lenA;rw [St.encs_len2 (i:Int) 0]]
  exact taction_in l (encP p) S J Jx hR i x.name x.params.p x.body.p x.params.l.length x.params.cap x.body.l.length x.body.cap (St.encs (i:Int) x.body.l) (by unfold Ac.sz Sl.size at *;omega) _ (by have:=Sub.at _ _ (fun a y=>encA_len a y) p.actions.l _ 0 i x s4 hx;rw [Nat.zero_add i] at this;exact this) W1 (hent W1 (hV.trans hK)) hJi
   (fun k' W2 h hs' hj=>blockT_in x.body l (encP p) S J Jx hR (i:Int) w hS (i3.kids x hm).body q2 k' W2 (((hw.trans hV).trans hK).trans h) (hent W2 ((hV.trans hK).trans h)) hs' hj)
 ·intro V hV _ hJ
  rw [l5]
  refine eachr_Table Ta.cells shp_ta lenT _ #[yv l] #[] (Ta.In w) S J Jx hR.lays w hS p.tables i4 (len_le Ta.sz (fun x=>by unfold Ta.sz;omega) _ (by unfold Sl.size at *;omega)) (enters_of Tryz.func77 (by kernel_rfl) rfl) _ V (hw.trans hV) (hent V hV) hJ ?_
  intro i x W1 hx hK hJi
  have hm:x ∈ p.tables.l:=List.mem_of_getElem? hx
  have q0:=le_sum_of Ta.sz p.tables.l x hm
  have q1:=length_le_sum Ke.sz (fun y=>by unfold Ke.sz;omega) x.keys.l
  have q2:=length_le_sum strSize (fun y=>by unfold strSize;omega) x.actions.l
  exact ttable_in l (encP p) S J Jx hR i x.name x.dflt.name x.keys.p x.actions.p x.dflt.args.p x.keys.l.length x.keys.cap x.actions.l.length x.actions.cap x.dflt.args.l.length x.dflt.args.cap (by unfold Ta.sz Sl.size at *;omega) (by unfold Ta.sz Sl.size at *;omega) _ (by have:=Sub.at _ _ (fun a y=>encT_len a y) p.tables.l _ 0 i x s5 hx;rw [Nat.zero_add i] at this;exact this) W1 (hent W1 (hV.trans hK)) hJi
 ·intro V hV _ hJ
  exact blockT_in p.control l (encP p) S J Jx hR (-1) w hS i5 (by unfold Sl.size at *;omega) _ V (hw.trans hV) (hent V hV) s6 hJ
 ·intro V hV hc hJ
  rw [l7]
  refine eachr_string (fun _=>1) _ #[] #[.pointer (some ⟨W.heap.size,0,none⟩)] strOk S J Jx hR.lays w hS p.emit i6 (len_le strSize (fun x=>by unfold strSize;omega) _ (by unfold Sl.size at *;omega)) (enters_of Tryz.func80 (by kernel_rfl) rfl) _ V (hw.trans hV) (hent V hV) hJ ?_
  intro i x W1 hx hK hJi
  exact emit_in l (encP p) S J Jx hR i x W.heap.size _ W1 (by have:=Sub.at (fun a (_:ByteArray)=>[It.num 15 a 0]) (fun _=>1) (fun _ _=>rfl) p.emit.l _ 0 i x s7 hx;rw [Nat.zero_add i] at this;exact this.head) (hK.cell _ _ hnb hc) hJi
open Go.Shelf
theorem cell_of_no {W:World} {a:Addr} {o:Obj} (h:W.heap[a.block]?=some o) (ho:o.isCells=false):W.cell? a=none:=by
 unfold World.cell?
 rw [h]
 cases o <;> first | rfl|(exact absurd ho (by simp [Obj.isCells]))
theorem cell_putObj {W:World} {l:Nat} {o o':Obj} (h:W.heap[l]?=some o) (ho:o.isCells=false) (ho':o'.isCells=false) (a:Addr):(W.putObj l o').cell? a=W.cell? a:=by
 have hlt:l < W.heap.size:=(Array.getElem?_eq_some_iff.1 h).1
 by_cases e:a.block=l
 ·rw [cell_of_no (by rw [e];exact World.putObj_heap_same hlt) ho',cell_of_no (by rw [e];exact h) ho]
 ·unfold World.cell?
  rw [World.putObj_heap_other e]
theorem Kq.putObj {S:Nat→Prop} {W:World} {l:Nat} {o:Obj} (o':Obj) (h:W.heap[l]?=some o) (ho:o.isCells=false) (ho':o'.isCells=false) (hs:S l):Kq S W (W.putObj l o'):=⟨by simp,fun a v _ hv=>(cell_putObj h ho ho' a).trans hv,fun B hb hB=>(Below.refl B W).grown (grownBy_putObj' W l o') hb (fun k e=>by cases e;exact hB l hs)⟩
theorem Kq.mono {S T:Nat→Prop} {W W':World} (h:Kq S W W') (hs:∀ b,S b→T b):Kq T W W':=⟨h.size,fun a v n=>h.cell a v (fun q=>n (hs _ q)),fun B hb hB=>h.low B hb (fun b q=>hB b (hs b q))⟩
theorem heap_plus {W:World} {k:Nat} {o:Obj} (h:W.heap[k]?=some o) (y:Ext):(plus W y).heap[k]?=some o :=
 ((below_plus W y).block k (Array.getElem?_eq_some_iff.1 h).1).trans h
/-- How the body of a round may be left: it goes on; it returns. -/
def nextPost (B:Nat) (S:Nat→Prop) (I:Nat→World→Prop) (Ix:World→Prop) (k:Nat) (W:World):Exit→Act→World→Prop
 | .normal,_,W'=>KeepsFrom B W W'∧Kq S W W'∧I (k+1) W'
 | .ret,_,W'=>KeepsFrom B W W'∧Ix W'
 | _,_,_=>False
theorem wpIn_rangeFunc_next {P:Program} {g:Operand} {ps:Array Tmp} {assign body:Code} {Q:Exit→Act→World→Prop} {a:Act} {w:World}
  {gf:Nat} {lb:Array Value} (hg:a.eval g=.func (.func gf) #[] lb) (eg:∀ args w,(callFunc gf args).run P w=.ok (.enter gf args) w)
  {α:Type} (xs:List α) (encs:α→Value) (S:Nat→Prop)
  (hseq:∀ (l:Nat) (J Jx:Nat→World→Prop) (W:World),w.heap.size≤l→l < W.heap.size→Kq (fun b=>b=l) w W→Lays J→Next P l encs xs (fun b=>S b∨b=l) J Jx→J 0 W→CallsIn Fence.wide 0 P gf (#[.func (.yield l) #[] #[]]++lb) W fun e W'=>(∃ v,e=.returned v)∧((J xs.length W'∧Kq (fun b=>S b∨b=l) W W')∨∃ i,Jx i W'))
  (hps:ps.size=1)
  (I:Nat→World→Prop) (Ix:World→Prop) (hI:∀ k l W W',w.heap.size≤l→I k W→Kq (fun b=>b=l) W W'→I k W') (hIx:∀ l W W',w.heap.size≤l→Ix W→Kq (fun b=>b=l) W W'→Ix W') (h0:I 0 w)
  (hround:∀ (l k:Nat) (x:α) (W:World),w.heap.size≤l→l < W.heap.size→xs[k]?=some x→I k W →
   assign.wpIn (Fence.wide.inRound l) 0 P (Exit.then (fun a' W'=>KeepsFrom w.heap.size W W'∧Kq S W W'∧∀ W2,Kq (fun b=>b=l) W' W2→W2.heap.size=W'.heap.size→body.wpIn (Fence.wide.inRound l) 0 P (nextPost w.heap.size S I Ix k W2) a' W2) (fun _ _ _=>False))
    { tmps:=(ps.zip #[encs x]).foldl (fun t (p,v)=>t.setIfInBounds p v) a.tmps,defers:=[] } W)
  (hdone:∀ (D:Nat) (W:World),w.heap.size≤D→I xs.length W→W.heap[D]?=some (.deferred (some []))→Q .normal { a with defers:={ target:=.collected D,args:=#[] } :: a.defers } W)
  (hstop:∀ (D:Nat) (W:World),w.heap.size≤D→Ix W→W.heap[D]?=some (.deferred (some []))→Code.ret.wpIn Fence.wide 0 P Q { a with defers:={ target:=.collected D,args:=#[] } :: a.defers } W) :
  (Code.rangeFunc g ps assign body).wpIn Fence.wide 0 P Q a w:=by
 refine wpIn_rangeFunc ?_
 intro fn hfn
 rw [show Fence.wide.round=none from rfl]
 obtain⟨rec,hrec⟩:∃ rec:LoopState→Option Code→Loop,rec=fun st pe=>{ state:=st,pending:=pe,fn,tmps:=a.tmps,params:=ps,assign,body,defers:=w.heap.size }:=⟨_,rfl⟩
 obtain⟨W1,hW1⟩:∃ W1,(w.alloc (.deferred (some []))).alloc (.loop (rec .ready none))=W1:=⟨_,rfl⟩
 have hL1:W1.heap[w.heap.size+1]?=some (.loop (rec .ready none)):=by
  rw [← hW1];have:=World.alloc_heap_new (w.alloc (.deferred (some []))) (.loop (rec .ready none));rwa [World.size_alloc] at this
 have hK1:W1.heap[w.heap.size]?=some (.deferred (some [])):=by
  rw [← hW1];exact (Below.heap_alloc _ _ _ (by simp)).trans (World.alloc_heap_new w _)
 have hq1:∀ T,Kq T w W1:=fun T=>by rw [← hW1];exact (Kq.alloc T w _).trans (Kq.alloc T _ _)
 have hI1:I 0 W1:=hI 0 (w.heap.size+1) w W1 (by omega) h0 (hq1 _)
 have hs1:W1.heap.size=w.heap.size+2:=by rw [← hW1];simp
 refine⟨w.heap.size+1,[{ target:=.collected w.heap.size,args:=#[] }],W1,{ target:=.fn (.func gf) lb,args:=#[.func (.yield (w.heap.size+1)) #[] #[]] },W1,gf,
  #[.func (.yield (w.heap.size+1)) #[] #[]]++lb,W1,?_,?_,?_,?_,hdd 0,?_⟩
 ·rw [← hW1,hrec];exact run_enterLoop_outer _ _ _ _ _
 ·simp only [resolve,hg]
  simp [go_sem]
 ·intro f' hf';trivial
 ·simp [invoke,go_sem,eg]
 ·refine (hseq (w.heap.size+1)
   (fun k W=>I k W∧W.heap[w.heap.size+1]?=some (.loop (rec .ready none))∧W.heap[w.heap.size]?=some (.deferred (some [])))
   (fun _ W=>Ix W∧W.heap[w.heap.size+1]?=some (.loop (rec .done (some .ret)))∧W.heap[w.heap.size]?=some (.deferred (some [])))
   W1 (by omega) (by omega) (hq1 _) (fun k W y h=>⟨hI k (w.heap.size+1) W _ (by omega) h.1 (Kq.plus _ W y),heap_plus h.2.1 y,heap_plus h.2.2 y⟩) ?_ ⟨hI1,hL1,hK1⟩).mono ?_
  ·rintro k x W hx ⟨hi,hl,hk⟩
   have hlt:w.heap.size+1 < W.heap.size:=(Array.getElem?_eq_some_iff.1 hl).1
   have hy:=run_yield (P:=P) (args:=#[encs x]) hl (by rw [hrec];exact hps.symm)
   rw [hrec] at hy
   refine⟨fn,_,assign,body,hy,roundIn_of_wpIn hfn (wpIn_mono (hround _ k x W (by omega) hlt hx hi) ?_)⟩
   clear hy
   rintro e a' Wa hp
   cases e with
   | normal =>
    obtain⟨hkfa,hkpa,hbody⟩:=hp
    have hl':=hkfa.same _ _ (by omega) hl rfl
    have hk':=hkfa.same _ _ (Nat.le_refl _) hk rfl
    have hlt':w.heap.size+1 < Wa.heap.size:=(Array.getElem?_eq_some_iff.1 hl').1
    refine⟨_,run_beginRound hl' (by rw [hrec]),?_⟩
    have hl2:(Wa.putObj (w.heap.size+1) (.loop { rec .ready none with state:=.busy })).heap[w.heap.size+1]?=some (.loop { rec .ready none with state:=.busy }):=World.putObj_heap_same hlt'
    have hk2:(Wa.putObj (w.heap.size+1) (.loop { rec .ready none with state:=.busy })).heap[w.heap.size]?=some (.deferred (some [])):=(World.putObj_heap_other (by omega)).trans hk'
    have hw2:∀ T:Nat→Prop,T (w.heap.size+1)→Kq T Wa (Wa.putObj (w.heap.size+1) (.loop { rec .ready none with state:=.busy })):=fun T ht=>Kq.putObj _ hl' rfl rfl ht
    refine wpIn_mono (hbody _ (hw2 _ rfl) (by simp)) ?_
    have fin:∀ (jump:Option Code) (W3:World),KeepsFrom w.heap.size (Wa.putObj (w.heap.size+1) (.loop { rec .ready none with state:=.busy })) W3 →
      (Instr.endRound (w.heap.size+1) jump).run P W3=.ok (.bool jump.isNone) (W3.putObj (w.heap.size+1) (.loop (rec (if jump.isNone then .ready else .done) jump))) ∧
      W3.heap[w.heap.size+1]?=some (.loop { rec .ready none with state:=.busy }) ∧
      (W3.putObj (w.heap.size+1) (.loop (rec (if jump.isNone then .ready else .done) jump))).heap[w.heap.size+1]?=some (.loop (rec (if jump.isNone then .ready else .done) jump)) ∧
      (W3.putObj (w.heap.size+1) (.loop (rec (if jump.isNone then .ready else .done) jump))).heap[w.heap.size]?=some (.deferred (some [])):=fun jump W3 hk3=>by
     have hl3:=hk3.same _ _ (by omega) hl2 rfl
     have:=run_endRound (P:=P) jump hl3
     rw [hrec] at this ⊢
     exact⟨this,by rw [hrec] at hl3;exact hl3,World.putObj_heap_same (Array.getElem?_eq_some_iff.1 hl3).1,(World.putObj_heap_other (by omega)).trans (hk3.same _ _ (Nat.le_refl _) hk2 rfl)⟩
    rintro e a3 W3 hp
    cases e with
    | normal =>
     obtain⟨hk3,hkp3,hi3⟩:=hp
     obtain⟨hr,hl3,hl4,hk4⟩:=fin none W3 hk3
     exact⟨_,_,hr,.inl ⟨rfl,⟨hI _ (w.heap.size+1) _ _ (by omega) hi3 (Kq.putObj _ hl3 rfl rfl rfl),hl4,hk4⟩,((hkpa.mono fun _ h=>.inl h).trans ((hw2 _ (.inr rfl)).trans (hkp3.mono fun _ h=>.inl h))).trans (Kq.putObj _ hl3 rfl rfl (.inr rfl))⟩⟩
    | ret =>
     obtain⟨hk3,hi3⟩:=hp
     obtain⟨hr,hl3,hl4,hk4⟩:=fin (some .ret) W3 hk3
     exact⟨_,_,hr,.inr ⟨rfl,k,hIx (w.heap.size+1) _ _ (by omega) hi3 (Kq.putObj _ hl3 rfl rfl rfl),hl4,hk4⟩⟩
    | exit id=>exact hp.elim
    | goto t=>exact hp.elim
    | panic ch=>exact hp.elim
    | outgrown=>exact hp.elim
   | ret=>exact hp.elim
   | exit id=>exact hp.elim
   | goto t=>exact hp.elim
   | panic ch=>exact hp.elim
   | outgrown=>exact hp.elim
  ·rintro e W2 ⟨⟨v,rfl⟩,(⟨⟨hi,hl,hk⟩,_⟩ | ⟨_,hi,hl,hk⟩)⟩
   ·exact⟨none,_,by have:=run_endLoop (P:=P) hl (by rw [hrec];simp);rw [hrec] at this;exact this,hdone _ _ (Nat.le_refl _) (hI _ (w.heap.size+1) _ _ (by omega) hi (Kq.putObj _ hl rfl rfl rfl)) ((World.putObj_heap_other (by omega)).trans hk)⟩
   ·exact⟨some .ret,_,by have:=run_endLoop (P:=P) hl (by rw [hrec];simp);rw [hrec] at this;exact this,hstop _ _ (Nat.le_refl _) (hIx (w.heap.size+1) _ _ (by omega) hi (Kq.putObj _ hl rfl rfl rfl)) ((World.putObj_heap_other (by omega)).trans hk)⟩
end Go.Proofs.YtobhijbncchpiaaGreat
