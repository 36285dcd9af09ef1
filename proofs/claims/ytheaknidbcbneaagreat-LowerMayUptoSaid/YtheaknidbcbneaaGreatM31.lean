/-
  WHAT IS PROVED HERE: a part of the proof (made narrower and merged by program; the parts: Lse Lpe).
-/
import Derived.Test.YtheaknidbcbneaaGreatM30
import Derived.Test.YtheaknidbcbneaaGreatM9
set_option maxRecDepth 100000
set_option maxHeartbeats 8000000
set_option linter.all false
namespace Go.Proofs.YtheaknidbcbneaaGreat
open Go.RowKit Go.Proofs.Tryz
open Below renaming refl→Zc
open Ending renaming returned→Zf
open Lib renaming hid→Zg
open List renaming drop_of_length_le→Zh,getElem?_eq_some_iff→Zj
open Nat renaming le_refl→Zp,zero_le→Zq
open Go.Proofs.Tryz renaming prog→Zr
open Value renaming bool→Zs,int→Zt
open Go.RowKit Go.Shelf
def US:Ex:=.mk 5 ⟨0,0,0⟩ ⟨#[]⟩ ⟨#[]⟩ 0 0 none 0 []
def UM:Ex:=.mk 1 ⟨0,0,1⟩ ⟨#[]⟩ ⟨#[]⟩ 0 0 none 0 []
def UE(b:Nat):Ex:=.mk 23 ⟨0,0,0⟩ ⟨#[]⟩ ⟨#[]⟩ 0 0 (some ⟨b,0,none⟩) 2 [US,UM]
def SM:Pr:={ headers:=⟨none,0,[]⟩,metas:=⟨none,0,[]⟩,states:=⟨none,0,[]⟩,actions:=⟨none,0,[]⟩,tables:=⟨none,0,[]⟩,control:=⟨none,0,[]⟩,emit:=⟨none,0,[]⟩ }
theorem Tv{α:Type}(W:World)(C:Nat)(cells:α→List Value)(K:α→Prop):Sl.In W C cells K ⟨none,0,[]⟩ :=
 ⟨Zp _,Zq _,fun i x h=>by simp at h,fun x h=>by cases h⟩
theorem Ha(W:World):SM.In W:=⟨Tv _ _ _ _,Tv _ _ _ _,Tv _ _ _ _,Tv _ _ _ _,Tv _ _ _ _,Tv _ _ _ _,Tv _ _ _ _⟩
theorem Hc:ST SM:=⟨fun x h=>(by cases h),fun x h=>(by cases h),fun x h=>(by cases h)⟩
theorem LM(op n)(h:(Lit.int .u8 op).wf=true)(hn:(Lit.int .u64 n).wf=true)(W:World):(Ex.mk op ⟨0,0,n⟩ ⟨#[]⟩ ⟨#[]⟩ 0 0 none 0 []).In W:=.mk _ h ⟨rfl,rfl,hn⟩ rfl rfl (Zq _) (Zq _) (Zp _) (Zq _) (fun i x h=>by simp[Ex.args]at h) (fun x h=>by simp[Ex.args]at h)
theorem OE{W:World}{b:Nat}{cs:Array Value}{t:TypeId}{z:Nat × Nat}{l:List Ex}(h:W.heap[b]?=some (.cells cs t z))(VK:cs.toList=(l.map Ex.cells).flatten):Z2 W 9 Ex.cells (some ⟨b,0,none⟩) l:=by
 intro i x hx;refine⟨_,rfl,fun j u hu=>?_⟩;have hj:j<9:=(Zj.1 hu).1;rw[Addr.add_lit,Addr.add_lit,Nat.zero_add];refine (cell_of_row W b _ _ _ _ h).trans ?_;rw[←Array.getElem?_toList,VK,Sw Ex.cells 9 l i j x (fun _ _=>rfl) hx hj,hu]
theorem Lg{b:Nat}{W:World}{t:TypeId}{z:Nat × Nat}(h:W.heap[b]?=some (.cells #[.int .u8 5,.int .i64 0,.int .u64 0,.int .u64 0,.string ⟨#[]⟩,.string ⟨#[]⟩,.int .i64 0,.int .i64 0,.slice none 0 0,.int .u8 1,.int .i64 0,.int .u64 0,.int .u64 1,.string ⟨#[]⟩,.string ⟨#[]⟩,.int .i64 0,.int .i64 0,.slice none 0 0] t z)):(UE b).In W :=
 .mk _ rfl ⟨rfl,rfl,rfl⟩ rfl rfl (Zq _) (Zq _) (Zp _) (show (2:Nat)≤maxLen by decide) (OE h rfl) (fun x hx=>by
  have hx':x∈[US,UM]:=hx;simp only[List.mem_cons,List.not_mem_nil,or_false]at hx';rcases hx' with rfl|rfl <;> exact LM _ _ rfl rfl _)
theorem LP(n:Nat):Ex.may (n+1) US=true∧Ex.may (n+1) UM=true:=by
 refine⟨?_,?_⟩ <;> simp[Ex.may,US,UM,Ex.op,Ex.args,Ex.fits,Ex.lit,Ex.head,Ex.name,Ex.hi,Ex.lo,SG,Re,Tr,TU,VB,SQ,UV,TC,TD,Uf,Ue,UW]
theorem Lh(b:Nat):(UE b).may 16=true:=by
 rw[Ex.may];simp[UE,Ex.op,Ex.args,Ex.fits,Ex.lit,Ex.head,Ex.name,Ex.hi,Ex.lo,SG,Tr,TU,VB,SQ,UV,TC,TD,Uf,Ue,UW,LP]
theorem Li(b:Nat):∃k,(UE b).ty SM (-1)=(0,⟨k,true,false⟩):=by
 simp only[UE,US,UM,Ex.ty,Ex.tys,Ex.free,Ex.frees];exact⟨_,rfl⟩
theorem Lj(b:Nat):(UE b).wt≤1048576:=by
 simp only[UE,US,UM,Ex.wt,Ex.wts];decide
theorem Hb:SM.sz≤1048576:=by decide
theorem IK(W:World)(b:Nat)(h:W.heap[b]?=some (.cells #[.int .u8 5,.int .i64 0,.int .u64 0,.int .u64 0,.string ⟨#[]⟩,.string ⟨#[]⟩,.int .i64 0,.int .i64 0,.slice none 0 0,.int .u8 1,.int .i64 0,.int .u64 0,.int .u64 1,.string ⟨#[]⟩,.string ⟨#[]⟩,.int .i64 0,.int .i64 0,.slice none 0 0] 65 (0,0))):∃k,Kp Zr W 35 #[.agg #[.slice none 0 0,.slice none 0 0,.slice none 0 0,.slice none 0 0,.slice none 0 0,.slice none 0 0,.slice none 0 0],.int .i64 (-1),.agg #[.int .u8 23,.int .i64 0,.int .u64 0,.int .u64 0,.string ⟨#[]⟩,.string ⟨#[]⟩,.int .i64 0,.int .i64 0,.slice (some ⟨b,0,none⟩) 2 2]] (.tuple #[.agg #[.int .i64 k,.bool true,.bool false],.int .i64 0]):=by
 obtain⟨k,hk⟩:=Li b;have q:=G9 SM Hb Hc (-1) (UE b) (Lh b) W (Ha W) (Lg h) (Lj b);rw[hk]at q;exact⟨k,q⟩
theorem PT{w W:World}{r:Nat}{es:Array MapEntry}(h:Yf w r es)(hB:Below w.heap.size w W):Yf W r es:=by
 obtain⟨n,hn⟩:=h;exact⟨n,(hB.block r (Array.getElem?_eq_some_iff.1 hn).1).trans hn⟩
theorem Hp(X:World)(r b:Nat)(hm:Yf X r (Xz 26))(h:X.heap[b]?=some (.cells #[.int .u8 5,.int .i64 0,.int .u64 0,.int .u64 0,.string ⟨#[]⟩,.string ⟨#[]⟩,.int .i64 0,.int .i64 0,.slice none 0 0,.int .u8 1,.int .i64 0,.int .u64 0,.int .u64 1,.string ⟨#[]⟩,.string ⟨#[]⟩,.int .i64 0,.int .i64 0,.slice none 0 0] 65 (0,0))) :
  Ww X 37 #[.agg #[.slice none 0 0,.slice none 0 0,.slice none 0 0,.slice none 0 0,.slice none 0 0,.slice none 0 0,.slice none 0 0,.int .i64 (-1),.map (some r)],.agg #[.int .u8 23,.int .i64 0,.int .u64 0,.int .u64 0,.string ⟨#[]⟩,.string ⟨#[]⟩,.int .i64 0,.int .i64 0,.slice (some ⟨b,0,none⟩) 2 2],.int .i64 1] [(⟨5,9,0,0,⟨0,0⟩⟩:Nd),⟨1,9,0,0,⟨0,1⟩⟩,⟨20,1,0,0,⟨0,0⟩⟩,⟨7,1,0,0,⟨0,0⟩⟩]:=by
 have h1:Ww X 37 #[.agg #[.slice none 0 0,.slice none 0 0,.slice none 0 0,.slice none 0 0,.slice none 0 0,.slice none 0 0,.slice none 0 0,.int .i64 (-1),.map (some r)],.agg #[.int .u8 5,.int .i64 0,.int .u64 0,.int .u64 0,.string ⟨#[]⟩,.string ⟨#[]⟩,.int .i64 0,.int .i64 0,.slice none 0 0],.int .i64 0] [⟨5,9,0,0,⟨0,0⟩⟩] :=
  PG none 0 0 none 0 0 none 0 0 none 0 0 none 0 0 none 0 0 none 0 0 (-1) 0 r 5 0 0 0 0 0 ⟨#[]⟩ ⟨#[]⟩ none 0 ⟨5,9,0,0,⟨0,0⟩⟩ X fun V hV=>Jh none 0 0 none 0 0 none 0 0 none 0 0 none 0 0 none 0 0 none 0 0 (-1) 0 r V (PT hm hV) 0 0 0 0 0 ⟨#[]⟩ ⟨#[]⟩ none 0 0
 have h2:Ww X 37 #[.agg #[.slice none 0 0,.slice none 0 0,.slice none 0 0,.slice none 0 0,.slice none 0 0,.slice none 0 0,.slice none 0 0,.int .i64 (-1),.map (some r)],.agg #[.int .u8 1,.int .i64 0,.int .u64 0,.int .u64 1,.string ⟨#[]⟩,.string ⟨#[]⟩,.int .i64 0,.int .i64 0,.slice none 0 0],.int .i64 9] [⟨1,9,0,0,⟨0,1⟩⟩] :=
  PG none 0 0 none 0 0 none 0 0 none 0 0 none 0 0 none 0 0 none 0 0 (-1) 9 r 1 0 0 1 0 0 ⟨#[]⟩ ⟨#[]⟩ none 0 ⟨1,9,0,0,⟨0,1⟩⟩ X fun V hV=>Jg none 0 0 none 0 0 none 0 0 none 0 0 none 0 0 none 0 0 none 0 0 (-1) 9 r V (PT hm hV) 0 1 0 0 ⟨#[]⟩ ⟨#[]⟩ none 0 0
 have h3:Ry X 118 #[.agg #[.slice none 0 0,.slice none 0 0,.slice none 0 0,.slice none 0 0,.slice none 0 0,.slice none 0 0,.slice none 0 0,.int .i64 (-1),.map (some r)],.agg #[.int .u8 5,.int .i64 0,.int .u64 0,.int .u64 0,.string ⟨#[]⟩,.string ⟨#[]⟩,.int .i64 0,.int .i64 0,.slice none 0 0],.agg #[.int .u8 1,.int .i64 0,.int .u64 0,.int .u64 1,.string ⟨#[]⟩,.string ⟨#[]⟩,.int .i64 0,.int .i64 0,.slice none 0 0]] [⟨5,9,0,0,⟨0,0⟩⟩] [⟨1,9,0,0,⟨0,1⟩⟩] :=
  KG none 0 0 none 0 0 none 0 0 none 0 0 none 0 0 none 0 0 none 0 0 (-1) r 5 0 0 0 0 0 ⟨#[]⟩ ⟨#[]⟩ none 0 0 1 0 0 1 0 0 ⟨#[]⟩ ⟨#[]⟩ none 0 0 [⟨5,9,0,0,⟨0,0⟩⟩] [⟨1,9,0,0,⟨0,1⟩⟩] X (K7 0 0 0 0 0 ⟨#[]⟩ ⟨#[]⟩ none 0 0 X) h1 h2 (by simp) (by decide)
 have Z1:=OE (l:=[US,UM]) h rfl;obtain⟨a0,ha0,hc0⟩:=Z1 0 US rfl;obtain⟨a1,ha1,Vc⟩:=Z1 1 UM rfl;obtain rfl:=Option.some.inj ha0;obtain rfl:=Option.some.inj ha1;exact KJ none 0 0 none 0 0 none 0 0 none 0 0 none 0 0 none 0 0 none 0 0 (-1) 1 r 0 0 0 0 0 ⟨#[]⟩ ⟨#[]⟩ b 0 2 _ X (JE none 0 0 none 0 0 none 0 0 none 0 0 none 0 0 none 0 0 none 0 0 (-1) r 0 0 0 0 0 ⟨#[]⟩ ⟨#[]⟩ b 0 2 5 0 0 0 0 0 ⟨#[]⟩ ⟨#[]⟩ none 0 0 1 0 0 1 0 0 ⟨#[]⟩ ⟨#[]⟩ none 0 0 [⟨5,9,0,0,⟨0,0⟩⟩] [⟨1,9,0,0,⟨0,1⟩⟩] X hm hc0 Vc h3 (by simp) (by decide))
theorem L6(w:World)(b:Nat)(h:w.heap[b]?=some (.cells #[.int .u8 5,.int .i64 0,.int .u64 0,.int .u64 0,.string ⟨#[]⟩,.string ⟨#[]⟩,.int .i64 0,.int .i64 0,.slice none 0 0,.int .u8 1,.int .i64 0,.int .u64 0,.int .u64 1,.string ⟨#[]⟩,.string ⟨#[]⟩,.int .i64 0,.int .i64 0,.slice none 0 0] 65 (0,0))) :
  Calls Zr 13 #[.agg #[.slice none 0 0,.slice none 0 0,.slice none 0 0,.slice none 0 0,.slice none 0 0,.slice none 0 0,.slice none 0 0],.agg #[.int .u8 23,.int .i64 0,.int .u64 0,.int .u64 0,.string ⟨#[]⟩,.string ⟨#[]⟩,.int .i64 0,.int .i64 0,.slice (some ⟨b,0,none⟩) 2 2]] w fun e w'=>∃v,e=.returned (.tuple #[v,.int .i64 0])∧(∃z,w'=plus w z)∧Y7 w' w.heap.size v [(⟨5,9,0,0,⟨0,0⟩⟩:Nd),⟨1,9,0,0,⟨0,1⟩⟩,⟨20,1,0,0,⟨0,0⟩⟩,⟨7,1,0,0,⟨0,0⟩⟩]:=by
 obtain⟨W,hW,ZY,hz,ca,cb,-,-⟩:=Vy w #[.slice none 0 0,.slice none 0 0,.slice none 0 0,.slice none 0 0,.slice none 0 0,.slice none 0 0,.slice none 0 0] #[.int .u8 23,.int .i64 0,.int .u64 0,.int .u64 0,.string ⟨#[]⟩,.string ⟨#[]⟩,.int .i64 0,.int .i64 0,.slice (some ⟨b,0,none⟩) 2 2] 76 65;have c0_0:=ca 0 _ rfl;have c0_1:=ca 1 _ rfl;have c0_2:=ca 2 _ rfl;have c0_3:=ca 3 _ rfl;have c0_4:=ca 4 _ rfl;have c0_5:=ca 5 _ rfl;have c0_6:=ca 6 _ rfl;have c1_0:=cb 0 _ rfl;have c1_1:=cb 1 _ rfl;have c1_2:=cb 2 _ rfl;have c1_3:=cb 3 _ rfl;have c1_4:=cb 4 _ rfl;have c1_5:=cb 5 _ rfl;have c1_6:=cb 6 _ rfl;have c1_7:=cb 7 _ rfl;have c1_8:=cb 8 _ rfl;obtain⟨zW,hzW⟩:=ZS ZY;have hbl:=(Array.getElem?_eq_some_iff.1 h).1;have Vn:W.heap[b]?=some (.cells #[.int .u8 5,.int .i64 0,.int .u64 0,.int .u64 0,.string ⟨#[]⟩,.string ⟨#[]⟩,.int .i64 0,.int .i64 0,.slice none 0 0,.int .u8 1,.int .i64 0,.int .u64 0,.int .u64 1,.string ⟨#[]⟩,.string ⟨#[]⟩,.int .i64 0,.int .i64 0,.slice none 0 0] 65 (0,0)):=(ZY.block b hbl).trans h;have hbW:b<W.heap.size:=Nat.lt_of_lt_of_le hbl ZY.size;obtain⟨k,hOf⟩:=IK W b Vn;have qO:=Zg (YN hOf);have YG:=Zg ZY;have qC:=Zg (fun U (hU:Below W.heap.size W U) r (hm:Yf U r (Xz 26))=>(Hp U r b hm ((hU.block b hbW).trans Vn)).at);have qM:=Zg (fun U=>JD none 0 0 none 0 0 none 0 0 none 0 0 none 0 0 none 0 0 none 0 0 U);clear h ca cb hzW hbl Vn hbW hOf ZY;go_enter func13,ntmps13;go_upto_region 1 with (fail)
 rw[←hW];clear hW;rw[←ZK W];go_wp2_with fail;rw[ZK];refine qO.out.mono ?_;rintro e w' ⟨rfl,y1,rfl⟩;go_upto_region 6 with (fail)
 have Xq:Below W.heap.size W ((Go.Proofs.YtheaknidbcbneaaGreat.plus W y1).alloc (.cells #[.int .i64 k,.bool true,.bool false] 101)):=(Z9 W y1).alloc (Z9 W y1).size _;have f0_0:=ZL (c0_0 y1) (.cells #[.int .i64 k,.bool true,.bool false] 101);have f0_1:=ZL (c0_1 y1) (.cells #[.int .i64 k,.bool true,.bool false] 101);have f0_2:=ZL (c0_2 y1) (.cells #[.int .i64 k,.bool true,.bool false] 101);have f0_3:=ZL (c0_3 y1) (.cells #[.int .i64 k,.bool true,.bool false] 101);have f0_4:=ZL (c0_4 y1) (.cells #[.int .i64 k,.bool true,.bool false] 101);have f0_5:=ZL (c0_5 y1) (.cells #[.int .i64 k,.bool true,.bool false] 101);have f0_6:=ZL (c0_6 y1) (.cells #[.int .i64 k,.bool true,.bool false] 101);have f1_0:=ZL (c1_0 y1) (.cells #[.int .i64 k,.bool true,.bool false] 101);have f1_1:=ZL (c1_1 y1) (.cells #[.int .i64 k,.bool true,.bool false] 101);have f1_2:=ZL (c1_2 y1) (.cells #[.int .i64 k,.bool true,.bool false] 101);have f1_3:=ZL (c1_3 y1) (.cells #[.int .i64 k,.bool true,.bool false] 101);have f1_4:=ZL (c1_4 y1) (.cells #[.int .i64 k,.bool true,.bool false] 101);have f1_5:=ZL (c1_5 y1) (.cells #[.int .i64 k,.bool true,.bool false] 101);have f1_6:=ZL (c1_6 y1) (.cells #[.int .i64 k,.bool true,.bool false] 101);have f1_7:=ZL (c1_7 y1) (.cells #[.int .i64 k,.bool true,.bool false] 101);have f1_8:=ZL (c1_8 y1) (.cells #[.int .i64 k,.bool true,.bool false] 101);generalize (Go.Proofs.YtheaknidbcbneaaGreat.plus W y1).alloc (.cells #[.int .i64 k,.bool true,.bool false] 101)=X at Xq f0_0 f0_1 f0_2 f0_3 f0_4 f0_5 f0_6 f1_0 f1_1 f1_2 f1_3 f1_4 f1_5 f1_6 f1_7 f1_8 ⊢;have WE:Hid (∀U,Below X.heap.size X U→(U.cell? ⟨w.heap.size,0,none⟩=some (.slice none 0 0)∧U.cell? ⟨w.heap.size,1,none⟩=some (.slice none 0 0)∧U.cell? ⟨w.heap.size,2,none⟩=some (.slice none 0 0)∧U.cell? ⟨w.heap.size,3,none⟩=some (.slice none 0 0)∧U.cell? ⟨w.heap.size,4,none⟩=some (.slice none 0 0)∧U.cell? ⟨w.heap.size,5,none⟩=some (.slice none 0 0)∧U.cell? ⟨w.heap.size,6,none⟩=some (.slice none 0 0)∧U.cell? ⟨w.heap.size+1,0,none⟩=some (.int .u8 23)∧U.cell? ⟨w.heap.size+1,1,none⟩=some (.int .i64 0)∧U.cell? ⟨w.heap.size+1,2,none⟩=some (.int .u64 0)∧U.cell? ⟨w.heap.size+1,3,none⟩=some (.int .u64 0)∧U.cell? ⟨w.heap.size+1,4,none⟩=some (.string ⟨#[]⟩)∧U.cell? ⟨w.heap.size+1,5,none⟩=some (.string ⟨#[]⟩)∧U.cell? ⟨w.heap.size+1,6,none⟩=some (.int .i64 0)∧U.cell? ⟨w.heap.size+1,7,none⟩=some (.int .i64 0)∧U.cell? ⟨w.heap.size+1,8,none⟩=some (.slice (some ⟨b,0,none⟩) 2 2)∧Below X.heap.size X U)):=Zg fun U hU=>⟨Yx hU f0_0,Yx hU f0_1,Yx hU f0_2,Yx hU f0_3,Yx hU f0_4,Yx hU f0_5,Yx hU f0_6,Yx hU f1_0,Yx hU f1_1,Yx hU f1_2,Yx hU f1_3,Yx hU f1_4,Yx hU f1_5,Yx hU f1_6,Yx hU f1_7,Yx hU f1_8,hU⟩;have qC2:=Zg (fun U (hU:Below X.heap.size X U) r (hm:Yf U r (Xz 26))=>qC.out U (Xq.trans (hU.mono Xq.size)) r hm);have hB1':=Zg Xq;clear f0_0 f0_1 f0_2 f0_3 f0_4 f0_5 f0_6 f1_0 f1_1 f1_2 f1_3 f1_4 f1_5 f1_6 f1_7 f1_8 c0_0 c0_1 c0_2 c0_3 c0_4 c0_5 c0_6 c1_0 c1_1 c1_2 c1_3 c1_4 c1_5 c1_6 c1_7 c1_8 Xq qC qO
 go_region_held3 (fun U=>U.cell? ⟨w.heap.size,0,none⟩=some (.slice none 0 0)∧U.cell? ⟨w.heap.size,1,none⟩=some (.slice none 0 0)∧U.cell? ⟨w.heap.size,2,none⟩=some (.slice none 0 0)∧U.cell? ⟨w.heap.size,3,none⟩=some (.slice none 0 0)∧U.cell? ⟨w.heap.size,4,none⟩=some (.slice none 0 0)∧U.cell? ⟨w.heap.size,5,none⟩=some (.slice none 0 0)∧U.cell? ⟨w.heap.size,6,none⟩=some (.slice none 0 0)∧U.cell? ⟨w.heap.size+1,0,none⟩=some (.int .u8 23)∧U.cell? ⟨w.heap.size+1,1,none⟩=some (.int .i64 0)∧U.cell? ⟨w.heap.size+1,2,none⟩=some (.int .u64 0)∧U.cell? ⟨w.heap.size+1,3,none⟩=some (.int .u64 0)∧U.cell? ⟨w.heap.size+1,4,none⟩=some (.string ⟨#[]⟩)∧U.cell? ⟨w.heap.size+1,5,none⟩=some (.string ⟨#[]⟩)∧U.cell? ⟨w.heap.size+1,6,none⟩=some (.int .i64 0)∧U.cell? ⟨w.heap.size+1,7,none⟩=some (.int .i64 0)∧U.cell? ⟨w.heap.size+1,8,none⟩=some (.slice (some ⟨b,0,none⟩) 2 2)∧Below X.heap.size X U) (exact WE.out _ (by repeat (first|exact Zc _ _|assumption|apply Wy|apply U6))) (first|(go_at_call 36;refine (qM.out _).mono ?_;rintro e w' ⟨r,rfl,hm,⟨z1,rfl⟩⟩;replace hm:=Zg hm)|(go_at_call 37;refine (qC2.out _ (by repeat (first|exact Zc _ _|assumption|apply Wy|apply U6)) r (by first|exact hm.out|exact hm.out.plus _)).mono ?_;rintro e w' ⟨v,rfl,⟨z2,rfl⟩,ho⟩));rename_i hSS
 clear hSS WE qC2 qM hm;have hX2:Below X.heap.size X (Go.Proofs.YtheaknidbcbneaaGreat.plus (Go.Proofs.YtheaknidbcbneaaGreat.plus X.drew z1) z2):=U6 (U6 (Wy (Zc _ _)));have hE:=Zg (YG.out.trans ((hB1'.out.trans (hX2.mono hB1'.out.size)).mono YG.out.size));have hF:=Zg (ho.lower (Nat.le_trans YG.out.size (Nat.le_trans hB1'.out.size (U6 (z:=z1) (Wy (Zc X.heap.size X))).size)));clear ho hX2;go_wp2_with fail;go_ret2;exact⟨v,rfl,ZS hE.out,hF.out⟩
theorem GL{W:World}{b:Nat}{cs:Array Value}{t:TypeId}{z:Nat × Nat}{l:List Nd}(h:W.heap[b]?=some (.cells cs t z))(VK:cs.toList=(l.map Nd.cells).flatten):Z2 W 6 Nd.cells (some ⟨b,0,none⟩) l:=by
 intro i x hx;refine⟨_,rfl,fun j u hu=>?_⟩;have hj:j<6:=(Zj.1 hu).1;rw[Addr.add_lit,Addr.add_lit,Nat.zero_add];refine (cell_of_row W b _ _ _ _ h).trans ?_;rw[←Array.getElem?_toList,VK,Sw Nd.cells 6 l i j x (fun _ _=>rfl) hx hj,hu]
theorem LF(w):Kp Zr w 5 #[] (.bool true):=by
 intro y0;obtain⟨V,hV⟩:=Zv (plus w y0);rw[hV];clear hV;go_enter func5,ntmps5;go_upto_region 2 with (fail)
 have hb1:(V.alloc (.cells #[.int .u8 5,.int .i64 0,.int .u64 0,.int .u64 0,.string ⟨#[]⟩,.string ⟨#[]⟩,.int .i64 0,.int .i64 0,.slice none 0 0,.int .u8 1,.int .i64 0,.int .u64 0,.int .u64 1,.string ⟨#[]⟩,.string ⟨#[]⟩,.int .i64 0,.int .i64 0,.slice none 0 0] 65)).heap.size=V.heap.size+1:=by simp
 obtain⟨W,hW⟩:=Zv ((V.alloc (.cells #[.int .u8 5,.int .i64 0,.int .u64 0,.int .u64 0,.string ⟨#[]⟩,.string ⟨#[]⟩,.int .i64 0,.int .i64 0,.slice none 0 0,.int .u8 1,.int .i64 0,.int .u64 0,.int .u64 1,.string ⟨#[]⟩,.string ⟨#[]⟩,.int .i64 0,.int .i64 0,.slice none 0 0] 65)).alloc (.cells #[.int .u8 23,.int .i64 0,.int .u64 0,.int .u64 0,.string ⟨#[]⟩,.string ⟨#[]⟩,.int .i64 0,.int .i64 0,.slice (some ⟨V.heap.size,0,none⟩) 2 2] 65));have ZY:Below V.heap.size V W:=hW▸((Zc V.heap.size V).alloc (Zp _) _).alloc (by simp) _;have hh:W.heap[V.heap.size]?=some (.cells #[.int .u8 5,.int .i64 0,.int .u64 0,.int .u64 0,.string ⟨#[]⟩,.string ⟨#[]⟩,.int .i64 0,.int .i64 0,.slice none 0 0,.int .u8 1,.int .i64 0,.int .u64 0,.int .u64 1,.string ⟨#[]⟩,.string ⟨#[]⟩,.int .i64 0,.int .i64 0,.slice none 0 0] 65 (0,0)):=by
  have h2:=((Zc (V.heap.size+1) (V.alloc (.cells #[.int .u8 5,.int .i64 0,.int .u64 0,.int .u64 0,.string ⟨#[]⟩,.string ⟨#[]⟩,.int .i64 0,.int .i64 0,.slice none 0 0,.int .u8 1,.int .i64 0,.int .u64 0,.int .u64 1,.string ⟨#[]⟩,.string ⟨#[]⟩,.int .i64 0,.int .i64 0,.slice none 0 0] 65))).alloc (by simp) (.cells #[.int .u8 23,.int .i64 0,.int .u64 0,.int .u64 0,.string ⟨#[]⟩,.string ⟨#[]⟩,.int .i64 0,.int .i64 0,.slice (some ⟨V.heap.size,0,none⟩) 2 2] 65)).block V.heap.size (Nat.lt_succ_self _);rw[hW]at h2;exact h2.trans (heap_alloc_new V _)
 have e1_0:W.cell? ⟨V.heap.size+1,0,none⟩=_:=hW▸Z4 (V.alloc (.cells #[.int .u8 5,.int .i64 0,.int .u64 0,.int .u64 0,.string ⟨#[]⟩,.string ⟨#[]⟩,.int .i64 0,.int .i64 0,.slice none 0 0,.int .u8 1,.int .i64 0,.int .u64 0,.int .u64 1,.string ⟨#[]⟩,.string ⟨#[]⟩,.int .i64 0,.int .i64 0,.slice none 0 0] 65)) #[.int .u8 23,.int .i64 0,.int .u64 0,.int .u64 0,.string ⟨#[]⟩,.string ⟨#[]⟩,.int .i64 0,.int .i64 0,.slice (some ⟨V.heap.size,0,none⟩) 2 2] 65 _ 0 hb1.symm;have e1_1:W.cell? ⟨V.heap.size+1,1,none⟩=_:=hW▸Z4 (V.alloc (.cells #[.int .u8 5,.int .i64 0,.int .u64 0,.int .u64 0,.string ⟨#[]⟩,.string ⟨#[]⟩,.int .i64 0,.int .i64 0,.slice none 0 0,.int .u8 1,.int .i64 0,.int .u64 0,.int .u64 1,.string ⟨#[]⟩,.string ⟨#[]⟩,.int .i64 0,.int .i64 0,.slice none 0 0] 65)) #[.int .u8 23,.int .i64 0,.int .u64 0,.int .u64 0,.string ⟨#[]⟩,.string ⟨#[]⟩,.int .i64 0,.int .i64 0,.slice (some ⟨V.heap.size,0,none⟩) 2 2] 65 _ 1 hb1.symm;have e1_2:W.cell? ⟨V.heap.size+1,2,none⟩=_:=hW▸Z4 (V.alloc (.cells #[.int .u8 5,.int .i64 0,.int .u64 0,.int .u64 0,.string ⟨#[]⟩,.string ⟨#[]⟩,.int .i64 0,.int .i64 0,.slice none 0 0,.int .u8 1,.int .i64 0,.int .u64 0,.int .u64 1,.string ⟨#[]⟩,.string ⟨#[]⟩,.int .i64 0,.int .i64 0,.slice none 0 0] 65)) #[.int .u8 23,.int .i64 0,.int .u64 0,.int .u64 0,.string ⟨#[]⟩,.string ⟨#[]⟩,.int .i64 0,.int .i64 0,.slice (some ⟨V.heap.size,0,none⟩) 2 2] 65 _ 2 hb1.symm;have e1_3:W.cell? ⟨V.heap.size+1,3,none⟩=_:=hW▸Z4 (V.alloc (.cells #[.int .u8 5,.int .i64 0,.int .u64 0,.int .u64 0,.string ⟨#[]⟩,.string ⟨#[]⟩,.int .i64 0,.int .i64 0,.slice none 0 0,.int .u8 1,.int .i64 0,.int .u64 0,.int .u64 1,.string ⟨#[]⟩,.string ⟨#[]⟩,.int .i64 0,.int .i64 0,.slice none 0 0] 65)) #[.int .u8 23,.int .i64 0,.int .u64 0,.int .u64 0,.string ⟨#[]⟩,.string ⟨#[]⟩,.int .i64 0,.int .i64 0,.slice (some ⟨V.heap.size,0,none⟩) 2 2] 65 _ 3 hb1.symm;have e1_4:W.cell? ⟨V.heap.size+1,4,none⟩=_:=hW▸Z4 (V.alloc (.cells #[.int .u8 5,.int .i64 0,.int .u64 0,.int .u64 0,.string ⟨#[]⟩,.string ⟨#[]⟩,.int .i64 0,.int .i64 0,.slice none 0 0,.int .u8 1,.int .i64 0,.int .u64 0,.int .u64 1,.string ⟨#[]⟩,.string ⟨#[]⟩,.int .i64 0,.int .i64 0,.slice none 0 0] 65)) #[.int .u8 23,.int .i64 0,.int .u64 0,.int .u64 0,.string ⟨#[]⟩,.string ⟨#[]⟩,.int .i64 0,.int .i64 0,.slice (some ⟨V.heap.size,0,none⟩) 2 2] 65 _ 4 hb1.symm;have e1_5:W.cell? ⟨V.heap.size+1,5,none⟩=_:=hW▸Z4 (V.alloc (.cells #[.int .u8 5,.int .i64 0,.int .u64 0,.int .u64 0,.string ⟨#[]⟩,.string ⟨#[]⟩,.int .i64 0,.int .i64 0,.slice none 0 0,.int .u8 1,.int .i64 0,.int .u64 0,.int .u64 1,.string ⟨#[]⟩,.string ⟨#[]⟩,.int .i64 0,.int .i64 0,.slice none 0 0] 65)) #[.int .u8 23,.int .i64 0,.int .u64 0,.int .u64 0,.string ⟨#[]⟩,.string ⟨#[]⟩,.int .i64 0,.int .i64 0,.slice (some ⟨V.heap.size,0,none⟩) 2 2] 65 _ 5 hb1.symm
 have e1_6:W.cell? ⟨V.heap.size+1,6,none⟩=_:=hW▸Z4 (V.alloc (.cells #[.int .u8 5,.int .i64 0,.int .u64 0,.int .u64 0,.string ⟨#[]⟩,.string ⟨#[]⟩,.int .i64 0,.int .i64 0,.slice none 0 0,.int .u8 1,.int .i64 0,.int .u64 0,.int .u64 1,.string ⟨#[]⟩,.string ⟨#[]⟩,.int .i64 0,.int .i64 0,.slice none 0 0] 65)) #[.int .u8 23,.int .i64 0,.int .u64 0,.int .u64 0,.string ⟨#[]⟩,.string ⟨#[]⟩,.int .i64 0,.int .i64 0,.slice (some ⟨V.heap.size,0,none⟩) 2 2] 65 _ 6 hb1.symm;have e1_7:W.cell? ⟨V.heap.size+1,7,none⟩=_:=hW▸Z4 (V.alloc (.cells #[.int .u8 5,.int .i64 0,.int .u64 0,.int .u64 0,.string ⟨#[]⟩,.string ⟨#[]⟩,.int .i64 0,.int .i64 0,.slice none 0 0,.int .u8 1,.int .i64 0,.int .u64 0,.int .u64 1,.string ⟨#[]⟩,.string ⟨#[]⟩,.int .i64 0,.int .i64 0,.slice none 0 0] 65)) #[.int .u8 23,.int .i64 0,.int .u64 0,.int .u64 0,.string ⟨#[]⟩,.string ⟨#[]⟩,.int .i64 0,.int .i64 0,.slice (some ⟨V.heap.size,0,none⟩) 2 2] 65 _ 7 hb1.symm;have e1_8:W.cell? ⟨V.heap.size+1,8,none⟩=_:=hW▸Z4 (V.alloc (.cells #[.int .u8 5,.int .i64 0,.int .u64 0,.int .u64 0,.string ⟨#[]⟩,.string ⟨#[]⟩,.int .i64 0,.int .i64 0,.slice none 0 0,.int .u8 1,.int .i64 0,.int .u64 0,.int .u64 1,.string ⟨#[]⟩,.string ⟨#[]⟩,.int .i64 0,.int .i64 0,.slice none 0 0] 65)) #[.int .u8 23,.int .i64 0,.int .u64 0,.int .u64 0,.string ⟨#[]⟩,.string ⟨#[]⟩,.int .i64 0,.int .i64 0,.slice (some ⟨V.heap.size,0,none⟩) 2 2] 65 _ 8 hb1.symm;rw[hW];have qP:=Zg (L6 W V.heap.size hh);have YG:=Zg ZY;clear hW ZY hh hb1;go_wp2_with fail;refine qP.out.mono ?_;rintro e w' ⟨v,rfl,⟨z,rfl⟩,ho⟩;obtain⟨p,c,rfl,hc,hr⟩:=ho.form;simp only[List.length_cons,List.length_nil,Nat.zero_add,Nat.reduceAdd]at hc ho ⊢;have Yz:=YG.out.trans ((Z9 W z).mono YG.out.size);obtain⟨Y,hY⟩:=Zv (Go.Proofs.YtheaknidbcbneaaGreat.plus W z);rw[hY]at hr Yz ⊢;obtain⟨Z,hZ⟩:=Zv (Y.alloc (.cells #[.int .u8 5,.int .i64 9,.int .i64 0,.int .i64 0,.int .u64 0,.int .u64 0,.int .u8 1,.int .i64 9,.int .i64 0,.int .i64 0,.int .u64 0,.int .u64 1,.int .u8 20,.int .i64 1,.int .i64 0,.int .i64 0,.int .u64 0,.int .u64 0,.int .u8 7,.int .i64 1,.int .i64 0,.int .i64 0,.int .u64 0,.int .u64 0] 79));have hBZ:Below Y.heap.size Y Z:=hZ▸(Zc Y.heap.size Y).alloc (Zp _) _;have qS:=Zg (YN (Gt p (some ⟨Y.heap.size,0,none⟩) 4 c 4 [(⟨5,9,0,0,⟨0,0⟩⟩:Nd),⟨1,9,0,0,⟨0,1⟩⟩,⟨20,1,0,0,⟨0,0⟩⟩,⟨7,1,0,0,⟨0,0⟩⟩] Z (V3 hr hBZ) (GL (hZ▸heap_alloc_new Y _) rfl) rfl (by decide)));have hE:=Zg (Yz.trans (hBZ.mono Yz.size));have hZ':=Zg hZ;clear hY hZ hBZ Yz hr ho hc qP YG e1_0 e1_1 e1_2 e1_3 e1_4 e1_5 e1_6 e1_7 e1_8;go_wp2_with fail;rw[hZ'.out];refine qS.out.mono ?_;rintro e w' ⟨rfl,x,rfl⟩;go_wp2_with fail;go_ret;exact⟨rfl,ZS (hE.out.trans ((Z9 Z x).mono hE.out.size))⟩
def XC{α:Type}(f:α→Bool):Nat→List α→Int
 | _,[]=>-1
 | k,x :: l=>if f x then (k:Int) else XC f (k+1) l
theorem RU{α:Type}(f:α→Bool)(l:List α)(k:Nat)(x:α)(hx:l[k]?=some x):XC f k (l.drop k)=if f x then (k:Int) else XC f (k+1) (l.drop (k+1)):=by
 obtain⟨h1,rfl⟩:=Zj.1 hx;rw[List.drop_eq_getElem_cons h1,XC]
theorem Ra{α:Type}(f:α→Bool):∀(l:List α) (k:Nat),decide (0≤XC f k l)=l.any f
 | [],k=>by simp[XC]
 | x :: l,k=>by
  rw[XC,List.any_cons];cases f x with
  | true=>simp
  | false=>simpa using Ra f l (k+1)
theorem K9(w:World)(p:Option Addr)(c:Nat)(l:List Int)(v)(hA:Z2 w 1 (fun x=>[.int .i64 x]) p l)(hl:l.length≤1048576):Kp Zr w 58 #[.slice p l.length c,.int .i64 v] (.int .i64 (XC (fun x=>v==x) 0 l)):=by
 intro y0;obtain⟨n,hn⟩:=Zv l.length;have hA:=hA.plus y0;obtain⟨W,hW⟩:=Zv (plus w y0);rw[hW]at hA ⊢;rw[hn]at hl;clear hW;obtain⟨R,hR⟩:=Zv (XC (fun x=>v==x) 0 l);have h0:XC (fun x=>v==x) 0 (l.drop 0)=R:=hR;rw[hn,hR];have ZR:=Zg hA;have ZJ:=Zg hn;have ZX:=Zg hl;have Yd:=Zg h0;clear hA hl hn hR h0;go_enter func58,ntmps58;go_wp2;go_loopw [5,8] (fun _ iv wr=>∃k:Nat,k≤n∧iv=.int .i64 (k:Int)∧Hid (XC (fun x=>v==x) k (l.drop k)=R)∧∃y,wr=plus W y) (fun _ iv _=>n-(intOf iv).toNat)
 case atStart=>exact⟨0,Zq _,rfl,Yd,⟨#[],W.drawn⟩,(ZK W).symm⟩
 case round =>
  obtain⟨k,hk,rfl,hs,y,rfl⟩:=hrel;by_cases Zz:k<n
  ·obtain⟨a,ha⟩:=Z6 l k (by rw[ZJ.out];exact Zz)
   obtain⟨pa,rfl,hc⟩:=ZR.out k a ha;have ZB:(if (v==a) then (k:Int) else XC (fun x=>v==x) (k+1) (l.drop (k+1)))=R:=by rw[←RU (fun x=>v==x) l k a ha];exact hs.out
   have d0:=fun y=>(hc.plus y).c0 _ rfl;simp only[Nat.mul_one]at d0;have a6:=Zg (Yo k n Zz ZX.out);have k0:¬((k:Int)<0):=by omega
   have k1:(k:Int)<(n:Int):=by omega
   clear hc ha hs;by_cases q:v=a
   ·have ZD:=Zg (show (k:Int)=R by rw[←ZB,q];simp)
    have e1:(v==a)=true:=by rw[q];simp
    clear ZB;go_wp2;go_ret;exact⟨congrArg (fun z=>Zf (Zt .i64 z)) ZD.out,_,rfl⟩
   ·have e1:(v==a)=false:=by simpa using q
    have ZD:=Zg (show XC (fun x=>v==x) (k+1) (l.drop (k+1))=R by rw[←ZB,e1];simp);clear ZB;go_wp2;go_roundw
    case rel=>exact⟨k+1,Zz,congrArg (Zt .i64) a6.out,ZD,_,rfl⟩
    case measure=>exact YF k n Zz a6.out
  ·obtain rfl:k=n:=by omega
   have ZD:=Zg (show (-1:Int)=R by
    rw[←hs.out,Zh (by rw[ZJ.out];exact Zp _)];rfl)
   clear hs Zz hk;go_wp2;go_ret;exact⟨congrArg (fun z=>Zf (Zt .i64 z)) ZD.out,y,rfl⟩
theorem KX(w p n c v I)(h:Kp Zr w 58 #[.slice p n c,.int .i64 v] (.int .i64 I)):Kp Zr w 29 #[.slice p n c,.int .i64 v] (.bool (decide (0≤I))):=by
 intro y0;have h:=h.up y0;obtain⟨V,hV⟩:=Zv (plus w y0);rw[hV]at h ⊢;have h':=Zg h;clear h hV;by_cases q:0≤I;all_goals
  go_enter func29,ntmps29;go_wp2_with fail;refine (YN h'.out).mono ?_;rintro r w' ⟨rfl,x1,rfl⟩;go_wp2_with fail;go_ret;exact⟨congrArg (fun z=>Zf (Zs z)) (by simp[q]),x1,rfl⟩
theorem RY(w:World)(p:Option Addr)(c:Nat)(l:List Int)(v)(hA:Z2 w 1 (fun x=>[.int .i64 x]) p l)(hl:l.length≤1048576):Kp Zr w 29 #[.slice p l.length c,.int .i64 v] (.bool (l.any fun x=>v==x)):=by
 rw[←Ra (fun x=>v==x) l 0];exact KX w p l.length c v _ (K9 w p c l v hA hl)
theorem Ja(w:World)(p:Option Addr)(c:Nat)(l:List Int)(v)(hA:Z2 w 1 (fun x=>[.int .u8 x]) p l)(hl:l.length≤1048576):Kp Zr w 126 #[.slice p l.length c,.int .u8 v] (.int .i64 (XC (fun x=>v==x) 0 l)):=by
 intro y0;obtain⟨n,hn⟩:=Zv l.length;have hA:=hA.plus y0;obtain⟨W,hW⟩:=Zv (plus w y0);rw[hW]at hA ⊢;rw[hn]at hl;clear hW;obtain⟨R,hR⟩:=Zv (XC (fun x=>v==x) 0 l);have h0:XC (fun x=>v==x) 0 (l.drop 0)=R:=hR;rw[hn,hR];have ZR:=Zg hA;have ZJ:=Zg hn;have ZX:=Zg hl;have Yd:=Zg h0;clear hA hl hn hR h0;go_enter func126,ntmps126;go_wp2;go_loopw [5,8] (fun _ iv wr=>∃k:Nat,k≤n∧iv=.int .i64 (k:Int)∧Hid (XC (fun x=>v==x) k (l.drop k)=R)∧∃y,wr=plus W y) (fun _ iv _=>n-(intOf iv).toNat)
 case atStart=>exact⟨0,Zq _,rfl,Yd,⟨#[],W.drawn⟩,(ZK W).symm⟩
 case round =>
  obtain⟨k,hk,rfl,hs,y,rfl⟩:=hrel;by_cases Zz:k<n
  ·obtain⟨a,ha⟩:=Z6 l k (by rw[ZJ.out];exact Zz)
   obtain⟨pa,rfl,hc⟩:=ZR.out k a ha;have ZB:(if (v==a) then (k:Int) else XC (fun x=>v==x) (k+1) (l.drop (k+1)))=R:=by rw[←RU (fun x=>v==x) l k a ha];exact hs.out
   have d0:=fun y=>(hc.plus y).c0 _ rfl;simp only[Nat.mul_one]at d0;have a6:=Zg (Yo k n Zz ZX.out);have k0:¬((k:Int)<0):=by omega
   have k1:(k:Int)<(n:Int):=by omega
   clear hc ha hs;by_cases q:v=a
   ·have ZD:=Zg (show (k:Int)=R by rw[←ZB,q];simp)
    have e1:(v==a)=true:=by rw[q];simp
    clear ZB;go_wp2;go_ret;exact⟨congrArg (fun z=>Zf (Zt .i64 z)) ZD.out,_,rfl⟩
   ·have e1:(v==a)=false:=by simpa using q
    have ZD:=Zg (show XC (fun x=>v==x) (k+1) (l.drop (k+1))=R by rw[←ZB,e1];simp);clear ZB;go_wp2;go_roundw
    case rel=>exact⟨k+1,Zz,congrArg (Zt .i64) a6.out,ZD,_,rfl⟩
    case measure=>exact YF k n Zz a6.out
  ·obtain rfl:k=n:=by omega
   have ZD:=Zg (show (-1:Int)=R by
    rw[←hs.out,Zh (by rw[ZJ.out];exact Zp _)];rfl)
   clear hs Zz hk;go_wp2;go_ret;exact⟨congrArg (fun z=>Zf (Zt .i64 z)) ZD.out,y,rfl⟩
theorem KZ(w p n c v I)(h:Kp Zr w 126 #[.slice p n c,.int .u8 v] (.int .i64 I)):Kp Zr w 91 #[.slice p n c,.int .u8 v] (.bool (decide (0≤I))):=by
 intro y0;have h:=h.up y0;obtain⟨V,hV⟩:=Zv (plus w y0);rw[hV]at h ⊢;have h':=Zg h;clear h hV;by_cases q:0≤I;all_goals
  go_enter func91,ntmps91;go_wp2_with fail;refine (YN h'.out).mono ?_;rintro r w' ⟨rfl,x1,rfl⟩;go_wp2_with fail;go_ret;exact⟨congrArg (fun z=>Zf (Zs z)) (by simp[q]),x1,rfl⟩
theorem KY(w:World)(p:Option Addr)(c:Nat)(l:List Int)(v)(hA:Z2 w 1 (fun x=>[.int .u8 x]) p l)(hl:l.length≤1048576):Kp Zr w 91 #[.slice p l.length c,.int .u8 v] (.bool (l.any fun x=>v==x)):=by
 rw[←Ra (fun x=>v==x) l 0];exact KZ w p l.length c v _ (Ja w p c l v hA hl)
theorem K8(w:World)(p:Option Addr)(c:Nat)(l:List Bool)(v)(hA:Z2 w 1 (fun x=>[.bool x]) p l)(hl:l.length≤1048576):Kp Zr w 125 #[.slice p l.length c,.bool v] (.int .i64 (XC (fun x=>v==x) 0 l)):=by
 intro y0;obtain⟨n,hn⟩:=Zv l.length;have hA:=hA.plus y0;obtain⟨W,hW⟩:=Zv (plus w y0);rw[hW]at hA ⊢;rw[hn]at hl;clear hW;obtain⟨R,hR⟩:=Zv (XC (fun x=>v==x) 0 l);have h0:XC (fun x=>v==x) 0 (l.drop 0)=R:=hR;rw[hn,hR];have ZR:=Zg hA;have ZJ:=Zg hn;have ZX:=Zg hl;have Yd:=Zg h0;clear hA hl hn hR h0;go_enter func125,ntmps125;go_wp2;go_loopw [5,8] (fun _ iv wr=>∃k:Nat,k≤n∧iv=.int .i64 (k:Int)∧Hid (XC (fun x=>v==x) k (l.drop k)=R)∧∃y,wr=plus W y) (fun _ iv _=>n-(intOf iv).toNat)
 case atStart=>exact⟨0,Zq _,rfl,Yd,⟨#[],W.drawn⟩,(ZK W).symm⟩
 case round =>
  obtain⟨k,hk,rfl,hs,y,rfl⟩:=hrel;by_cases Zz:k<n
  ·obtain⟨a,ha⟩:=Z6 l k (by rw[ZJ.out];exact Zz)
   obtain⟨pa,rfl,hc⟩:=ZR.out k a ha;have ZB:(if (v==a) then (k:Int) else XC (fun x=>v==x) (k+1) (l.drop (k+1)))=R:=by rw[←RU (fun x=>v==x) l k a ha];exact hs.out
   have d0:=fun y=>(hc.plus y).c0 _ rfl;simp only[Nat.mul_one]at d0;have a6:=Zg (Yo k n Zz ZX.out);have k0:¬((k:Int)<0):=by omega
   have k1:(k:Int)<(n:Int):=by omega
   clear hc ha hs;by_cases q:v=a
   ·have ZD:=Zg (show (k:Int)=R by rw[←ZB,q];simp)
    have e1:(v==a)=true:=by rw[q];simp
    clear ZB;go_wp2;go_ret;exact⟨congrArg (fun z=>Zf (Zt .i64 z)) ZD.out,_,rfl⟩
   ·have e1:(v==a)=false:=by simpa using q
    have ZD:=Zg (show XC (fun x=>v==x) (k+1) (l.drop (k+1))=R by rw[←ZB,e1];simp);clear ZB;go_wp2;go_roundw
    case rel=>exact⟨k+1,Zz,congrArg (Zt .i64) a6.out,ZD,_,rfl⟩
    case measure=>exact YF k n Zz a6.out
  ·obtain rfl:k=n:=by omega
   have ZD:=Zg (show (-1:Int)=R by
    rw[←hs.out,Zh (by rw[ZJ.out];exact Zp _)];rfl)
   clear hs Zz hk;go_wp2;go_ret;exact⟨congrArg (fun z=>Zf (Zt .i64 z)) ZD.out,y,rfl⟩
theorem KW(w p n c v I)(h:Kp Zr w 125 #[.slice p n c,.bool v] (.int .i64 I)):Kp Zr w 88 #[.slice p n c,.bool v] (.bool (decide (0≤I))):=by
 intro y0;have h:=h.up y0;obtain⟨V,hV⟩:=Zv (plus w y0);rw[hV]at h ⊢;have h':=Zg h;clear h hV;by_cases q:0≤I;all_goals
  go_enter func88,ntmps88;go_wp2_with fail;refine (YN h'.out).mono ?_;rintro r w' ⟨rfl,x1,rfl⟩;go_wp2_with fail;go_ret;exact⟨congrArg (fun z=>Zf (Zs z)) (by simp[q]),x1,rfl⟩
theorem KV(w:World)(p:Option Addr)(c:Nat)(l:List Bool)(v)(hA:Z2 w 1 (fun x=>[.bool x]) p l)(hl:l.length≤1048576):Kp Zr w 88 #[.slice p l.length c,.bool v] (.bool (l.any fun x=>v==x)):=by
 rw[←Ra (fun x=>v==x) l 0];exact KW w p l.length c v _ (K8 w p c l v hA hl)
end Go.Proofs.YtheaknidbcbneaaGreat
