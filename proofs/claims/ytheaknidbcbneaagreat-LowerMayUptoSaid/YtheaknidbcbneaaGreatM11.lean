/-
  WHAT IS PROVED HERE: a part of the proof (made narrower and merged by program; the parts: Lry Wa Lou Lrw Lrx Lrz).
-/
import Derived.Laws.OwnMore
import Derived.OwnWalkIn
import Derived.Lib.AppendZeros
import Derived.Test.YtheaknidbcbneaaGreatM9
import Derived.Test.YtheaknidbcbneaaGreatM10
import Derived.Test.YtheaknidbcbneaaGreatM2
set_option maxRecDepth 100000
set_option maxHeartbeats 8000000
set_option linter.all false
namespace Go.Proofs.YtheaknidbcbneaaGreat
open Go.RowKit Go.Proofs.Tryz
open Below renaming refl→Zc
open Lib renaming hid→Zg
open List renaming getElem?_eq_getElem→Zi,getElem?_eq_some_iff→Zj,mem_cons_self→Zk,mem_of_getElem?→Zl
open Nat renaming le_refl→Zp,zero_le→Zq
open Go.Proofs.Tryz renaming prog→Zr
open Value renaming int→Zt
open Go.RowKit
def T8:List (Int × Int):=[(1,1),(2,2),(3,3),(4,4),(5,5),(6,6),(7,7),(8,8),(9,7),(10,9),(14,13),(15,14),(11,10),(12,11),(13,12),(16,15),(17,16),(18,17),(19,18),(21,19),(22,20),(20,18),(24,19),(23,20),(25,15),(26,17)]
def Xz(n:Nat):Array MapEntry:=((List.range n).map fun (i:Nat)=>(⟨.int .u8 (T8.getD i (0,0)).1,.int .u8 (T8.getD i (0,0)).2,i⟩:MapEntry)).toArray
def wN(V:World)(n:Nat):World:=V.alloc (.map (Xz n) n)
theorem Xw(V:World)(n:Nat)(k v:Int)(hk:T8.getD n (0,0)=(k,v))(hn:Instr.findNow (.int .u8) (.int .u8 k) (Xz n).toList 0=some none) :
  (Instr.mapUpdate 104 (.map (some V.heap.size)) (.int .u8 k) (.int .u8 v)).run Zr (wN V n)=.ok () (wN V (n+1)):=by
 unfold wN;rw[Qw Tryz.underlying104 Tryz.underlying5 V _ n _ _ hn];have e:Xz (n+1)=(Xz n).push ⟨.int .u8 k,.int .u8 v,n⟩:=by
  unfold Xz;rw[List.range_succ,List.map_append];simp only[List.map_cons,List.map_nil,hk];simp
 rw[e]
theorem MT(n:Nat):SP (Xz n).toList:=by
 intro e he;simp only[Xz,List.mem_map]at he;obtain⟨j,_,rfl⟩:=he;exact⟨_,rfl⟩
def Tm(op:Int):Int:=((T8.find? fun p=>op==p.1).map (·.2)).getD 0
theorem Lk(op:Int):(WA (.int .u8 0) op (Xz 26).toList).1=.int .u8 (Tm op):=by
 have h:∀(l:List (Int × Int)) (s:Nat),(WA (.int .u8 0) op ((l.zipIdx s).map fun q=>(⟨.int .u8 q.1.1,.int .u8 q.1.2,q.2⟩:MapEntry))).1=.int .u8 (((l.find? fun p=>op==p.1).map (·.2)).getD 0):=by
  intro l;induction l with
  | nil=>intro s;rfl
  | cons a l ih =>
   intro s;rw[List.zipIdx_cons,List.map_cons,WA,List.find?_cons];by_cases hib:op=a.1
   ·subst hib
    simp
   ·have h2:=ih (s+1)
    simp only[beq_iff_eq,hib,if_false];rw[show (op==a.1)=false by simpa using hib];exact h2
 exact (congrArg Prod.fst (congrArg (WA (.int .u8 0) op) (show (Xz 26).toList=(T8.zipIdx 0).map fun q=>(⟨.int .u8 q.1.1,.int .u8 q.1.2,q.2⟩:MapEntry) from rfl))).trans (h T8 0)
theorem UP{w:World}{m:Nat}(h:Yf w m (Xz 26))(op):(Instr.lookup 104 (.map (some m)) (.int .u8 op) false).run Zr w=.ok (.int .u8 (Tm op)) w:=by
 have hz:(zeroValue 5).run Zr w=.ok (.int .u8 0) w:=by kernel_rfl
 obtain⟨n,hb⟩:=h;obtain⟨q,h1,h2⟩:=RP (.int .u8 0) op (Xz 26).toList 0 (MT 26);have hc:(Instr.checkKey (Xz 26).isEmpty 10000 5 (.int .u8 op)).run Zr w=.ok () w:=MapKept.run_checkKey (k:=.int .u8 op) Tryz.underlying5 (by simp[MapKept.IsKey]) _ 9999;have hg:=Lk op;rcases h2 with⟨a,v,rfl,hv⟩|⟨rfl,hv⟩
 ·rw[hv]at hg
  simp only at hg;subst hg;simp[Instr.lookup,run_underlying Tryz.underlying104,MapKept.run_getObj_map hb,hc,MapKept.run_findKey Tryz.underlying5 h1,Result.andThen]
 ·rw[hv]at hg
  simp only at hg;simp[Instr.lookup,run_underlying Tryz.underlying104,MapKept.run_getObj_map hb,hc,MapKept.run_findKey Tryz.underlying5 h1,Result.andThen,hz,←hg]
theorem LD(V:World):Calls Zr 64 #[] V fun e w'=>∃r,e=.returned (.map (some r))∧Yf w' r (Xz 26)∧∃z,w'=plus V z:=by
 have u0:(Instr.makeMap 104 none).run Zr V=.ok (.map (some V.heap.size)) (wN V 0):=rfl;have v0:(Instr.mapUpdate 104 (.map (some V.heap.size)) (.int .u8 1) (.int .u8 1)).run Zr (wN V 0)=.ok () (wN V 1):=Xw V 0 _ _ rfl rfl;have v1:(Instr.mapUpdate 104 (.map (some V.heap.size)) (.int .u8 2) (.int .u8 2)).run Zr (wN V 1)=.ok () (wN V 2):=Xw V 1 _ _ rfl rfl;have v2:(Instr.mapUpdate 104 (.map (some V.heap.size)) (.int .u8 3) (.int .u8 3)).run Zr (wN V 2)=.ok () (wN V 3):=Xw V 2 _ _ rfl rfl;have v3:(Instr.mapUpdate 104 (.map (some V.heap.size)) (.int .u8 4) (.int .u8 4)).run Zr (wN V 3)=.ok () (wN V 4):=Xw V 3 _ _ rfl rfl;have v4:(Instr.mapUpdate 104 (.map (some V.heap.size)) (.int .u8 5) (.int .u8 5)).run Zr (wN V 4)=.ok () (wN V 5):=Xw V 4 _ _ rfl rfl;have v5:(Instr.mapUpdate 104 (.map (some V.heap.size)) (.int .u8 6) (.int .u8 6)).run Zr (wN V 5)=.ok () (wN V 6):=Xw V 5 _ _ rfl rfl;have v6:(Instr.mapUpdate 104 (.map (some V.heap.size)) (.int .u8 7) (.int .u8 7)).run Zr (wN V 6)=.ok () (wN V 7):=Xw V 6 _ _ rfl rfl;have v7:(Instr.mapUpdate 104 (.map (some V.heap.size)) (.int .u8 8) (.int .u8 8)).run Zr (wN V 7)=.ok () (wN V 8):=Xw V 7 _ _ rfl rfl;have v8:(Instr.mapUpdate 104 (.map (some V.heap.size)) (.int .u8 9) (.int .u8 7)).run Zr (wN V 8)=.ok () (wN V 9):=Xw V 8 _ _ rfl rfl;have v9:(Instr.mapUpdate 104 (.map (some V.heap.size)) (.int .u8 10) (.int .u8 9)).run Zr (wN V 9)=.ok () (wN V 10):=Xw V 9 _ _ rfl rfl;have v10:(Instr.mapUpdate 104 (.map (some V.heap.size)) (.int .u8 14) (.int .u8 13)).run Zr (wN V 10)=.ok () (wN V 11):=Xw V 10 _ _ rfl rfl;have v11:(Instr.mapUpdate 104 (.map (some V.heap.size)) (.int .u8 15) (.int .u8 14)).run Zr (wN V 11)=.ok () (wN V 12):=Xw V 11 _ _ rfl rfl;have v12:(Instr.mapUpdate 104 (.map (some V.heap.size)) (.int .u8 11) (.int .u8 10)).run Zr (wN V 12)=.ok () (wN V 13):=Xw V 12 _ _ rfl rfl;have v13:(Instr.mapUpdate 104 (.map (some V.heap.size)) (.int .u8 12) (.int .u8 11)).run Zr (wN V 13)=.ok () (wN V 14):=Xw V 13 _ _ rfl rfl;have v14:(Instr.mapUpdate 104 (.map (some V.heap.size)) (.int .u8 13) (.int .u8 12)).run Zr (wN V 14)=.ok () (wN V 15):=Xw V 14 _ _ rfl rfl;have v15:(Instr.mapUpdate 104 (.map (some V.heap.size)) (.int .u8 16) (.int .u8 15)).run Zr (wN V 15)=.ok () (wN V 16):=Xw V 15 _ _ rfl rfl;have v16:(Instr.mapUpdate 104 (.map (some V.heap.size)) (.int .u8 17) (.int .u8 16)).run Zr (wN V 16)=.ok () (wN V 17):=Xw V 16 _ _ rfl rfl;have v17:(Instr.mapUpdate 104 (.map (some V.heap.size)) (.int .u8 18) (.int .u8 17)).run Zr (wN V 17)=.ok () (wN V 18):=Xw V 17 _ _ rfl rfl;have v18:(Instr.mapUpdate 104 (.map (some V.heap.size)) (.int .u8 19) (.int .u8 18)).run Zr (wN V 18)=.ok () (wN V 19):=Xw V 18 _ _ rfl rfl;have v19:(Instr.mapUpdate 104 (.map (some V.heap.size)) (.int .u8 21) (.int .u8 19)).run Zr (wN V 19)=.ok () (wN V 20):=Xw V 19 _ _ rfl rfl;have v20:(Instr.mapUpdate 104 (.map (some V.heap.size)) (.int .u8 22) (.int .u8 20)).run Zr (wN V 20)=.ok () (wN V 21):=Xw V 20 _ _ rfl rfl
 have v21:(Instr.mapUpdate 104 (.map (some V.heap.size)) (.int .u8 20) (.int .u8 18)).run Zr (wN V 21)=.ok () (wN V 22):=Xw V 21 _ _ rfl rfl;have v22:(Instr.mapUpdate 104 (.map (some V.heap.size)) (.int .u8 24) (.int .u8 19)).run Zr (wN V 22)=.ok () (wN V 23):=Xw V 22 _ _ rfl rfl;have v23:(Instr.mapUpdate 104 (.map (some V.heap.size)) (.int .u8 23) (.int .u8 20)).run Zr (wN V 23)=.ok () (wN V 24):=Xw V 23 _ _ rfl rfl;have v24:(Instr.mapUpdate 104 (.map (some V.heap.size)) (.int .u8 25) (.int .u8 15)).run Zr (wN V 24)=.ok () (wN V 25):=Xw V 24 _ _ rfl rfl;have v25:(Instr.mapUpdate 104 (.map (some V.heap.size)) (.int .u8 26) (.int .u8 17)).run Zr (wN V 25)=.ok () (wN V 26):=Xw V 25 _ _ rfl rfl;go_enter func64,ntmps64;go_wp2;go_ret;refine⟨_,rfl,⟨26,Px _ _⟩,?_⟩;obtain⟨x,h⟩:=ZS ((Zc V.heap.size V).alloc (Zp _) (.map (Xz 26) 26));exact⟨x,h⟩
theorem JD(q0p q0n q0c q1p q1n q1c q2p q2n q2c q3p q3n q3c q4p q4n q4c q5p q5n q5c q6p q6n q6c)(w:World):Calls Zr 36 #[.agg #[.slice q0p q0n q0c,.slice q1p q1n q1c,.slice q2p q2n q2c,.slice q3p q3n q3c,.slice q4p q4n q4c,.slice q5p q5n q5c,.slice q6p q6n q6c]] w fun e w'=>∃r,e=.returned (.agg #[.slice q0p q0n q0c,.slice q1p q1n q1c,.slice q2p q2n q2c,.slice q3p q3n q3c,.slice q4p q4n q4c,.slice q5p q5n q5c,.slice q6p q6n q6c,.int .i64 (-1),.map (some r)])∧Yf w' r (Xz 26)∧∃z,w'=plus w z:=by
 obtain⟨W,hW,ZY,hz,ca,cb,fa,fb⟩:=Vy w #[.slice q0p q0n q0c,.slice q1p q1n q1c,.slice q2p q2n q2c,.slice q3p q3n q3c,.slice q4p q4n q4c,.slice q5p q5n q5c,.slice q6p q6n q6c] #[.slice none 0 0,.slice none 0 0,.slice none 0 0,.slice none 0 0,.slice none 0 0,.slice none 0 0,.slice none 0 0,.int .i64 0,.map none] 76 106;have a0:∀z,(Go.Proofs.YtheaknidbcbneaaGreat.plus W.drew z).cell? ⟨w.heap.size,0,none⟩=_:=ca 0 _ rfl;have e0:=ca 0 _ rfl ⟨#[],W.drawn⟩;have a1:∀z,(Go.Proofs.YtheaknidbcbneaaGreat.plus W.drew z).cell? ⟨w.heap.size,1,none⟩=_:=ca 1 _ rfl;have e1:=ca 1 _ rfl ⟨#[],W.drawn⟩;have a2:∀z,(Go.Proofs.YtheaknidbcbneaaGreat.plus W.drew z).cell? ⟨w.heap.size,2,none⟩=_:=ca 2 _ rfl;have e2:=ca 2 _ rfl ⟨#[],W.drawn⟩;have a3:∀z,(Go.Proofs.YtheaknidbcbneaaGreat.plus W.drew z).cell? ⟨w.heap.size,3,none⟩=_:=ca 3 _ rfl;have e3:=ca 3 _ rfl ⟨#[],W.drawn⟩;have a4:∀z,(Go.Proofs.YtheaknidbcbneaaGreat.plus W.drew z).cell? ⟨w.heap.size,4,none⟩=_:=ca 4 _ rfl;have e4:=ca 4 _ rfl ⟨#[],W.drawn⟩;have a5:∀z,(Go.Proofs.YtheaknidbcbneaaGreat.plus W.drew z).cell? ⟨w.heap.size,5,none⟩=_:=ca 5 _ rfl;have e5:=ca 5 _ rfl ⟨#[],W.drawn⟩;have a6:∀z,(Go.Proofs.YtheaknidbcbneaaGreat.plus W.drew z).cell? ⟨w.heap.size,6,none⟩=_:=ca 6 _ rfl;have e6:=ca 6 _ rfl ⟨#[],W.drawn⟩;rw[ZK]at e0 e1 e2 e3 e4 e5 e6;have b0:∀z,(Go.Proofs.YtheaknidbcbneaaGreat.plus W.drew z).cell? ⟨w.heap.size+1,0,none⟩=_:=cb 0 _ rfl;have b1:∀z,(Go.Proofs.YtheaknidbcbneaaGreat.plus W.drew z).cell? ⟨w.heap.size+1,1,none⟩=_:=cb 1 _ rfl;have b2:∀z,(Go.Proofs.YtheaknidbcbneaaGreat.plus W.drew z).cell? ⟨w.heap.size+1,2,none⟩=_:=cb 2 _ rfl;have b3:∀z,(Go.Proofs.YtheaknidbcbneaaGreat.plus W.drew z).cell? ⟨w.heap.size+1,3,none⟩=_:=cb 3 _ rfl;have b4:∀z,(Go.Proofs.YtheaknidbcbneaaGreat.plus W.drew z).cell? ⟨w.heap.size+1,4,none⟩=_:=cb 4 _ rfl;have b5:∀z,(Go.Proofs.YtheaknidbcbneaaGreat.plus W.drew z).cell? ⟨w.heap.size+1,5,none⟩=_:=cb 5 _ rfl;have b6:∀z,(Go.Proofs.YtheaknidbcbneaaGreat.plus W.drew z).cell? ⟨w.heap.size+1,6,none⟩=_:=cb 6 _ rfl;have b7:∀z,(Go.Proofs.YtheaknidbcbneaaGreat.plus W.drew z).cell? ⟨w.heap.size+1,7,none⟩=_:=cb 7 _ rfl;have b8:∀z,(Go.Proofs.YtheaknidbcbneaaGreat.plus W.drew z).cell? ⟨w.heap.size+1,8,none⟩=_:=cb 8 _ rfl;have YG:=Zg ZY;have hF:=Zg (fun V=>LD V);have gb:∀z o,(Go.Proofs.YtheaknidbcbneaaGreat.plus W.drew z).frozen? ⟨w.heap.size+1,o,none⟩=false:=fb;clear ca cb fa fb ZY hz;go_enter func36,ntmps36;go_upto_region 1 with (fail)
 rw[←hW];clear hW;go_region_law (go_simp;go_at_call 64;refine (hF.out _).mono ?_;rintro e w' ⟨r,rfl,hm,z,rfl⟩);all_goals go_wp2
 all_goals have YP:=PU hm (b0 z)
 all_goals refine bodyPost_ret (v:=.agg #[.slice q0p q0n q0c,.slice q1p q1n q1c,.slice q2p q2n q2c,.slice q3p q3n q3c,.slice q4p q4n q4c,.slice q5p q5n q5c,.slice q6p q6n q6c,.int .i64 (-1),.map (some r)]) (by simp[results,Tryz.results36,go_sem,b0 z,b1 z,b2 z,b3 z,b4 z,b5 z,b6 z,b7 z,b8 z]) rfl ⟨r,rfl,?_,?_⟩
 all_goals first
  | exact id (map_set (map_set (map_set (map_set (map_set (map_set (map_set (map_set (map_set hm _ _ _ YP) _ _ _ YP) _ _ _ YP) _ _ _ YP) _ _ _ YP) _ _ _ YP) _ _ _ YP) _ _ _ YP) _ _ _ YP)
  | exact ZS (XP (XP (XP (XP (XP (XP (XP (XP (XP (YG.out.trans ((Z9 W z).mono YG.out.size)) (Nat.le_succ _) _ _) (Nat.le_succ _) _ _) (Nat.le_succ _) _ _) (Nat.le_succ _) _ _) (Nat.le_succ _) _ _) (Nat.le_succ _) _ _) (Nat.le_succ _) _ _) (Nat.le_succ _) _ _) (Nat.le_succ _) _ _)
theorem Sw{α:Type}(f:α→List Value)(C:Nat):∀(l:List α) (i j:Nat) (x:α),(∀y∈l,(f y).length=C)→l[i]?=some x→j<C→((l.map f).flatten)[i*C+j]?=(f x)[j]?
 | [],i,j,x,_,h,_=>by simp at h
 | a :: l,0,j,x,hC,h,hj=>by
  simp only[List.getElem?_cons_zero,Option.some.injEq]at h;subst h;have h1:=hC a (Zk ..);rw[List.map_cons,List.flatten_cons,Nat.zero_mul,Nat.zero_add,List.getElem?_append_left (by omega)]
 | a :: l,i+1,j,x,hC,h,hj=>by
  simp only[List.getElem?_cons_succ]at h;have h1:=hC a (Zk ..);have e:(i+1)*C+j=C+(i*C+j):=by rw[Nat.succ_mul];omega
  rw[List.map_cons,List.flatten_cons,e,List.getElem?_append_right (by omega),h1,Nat.add_sub_cancel_left];exact Sw f C l i j x (fun y hy=>hC y (List.mem_cons_of_mem _ hy)) h hj
theorem S5{α:Type}(f:α→List Value)(C:Nat):∀(l:List α),(∀y∈l,(f y).length=C)→((l.map f).flatten).length=l.length*C
 | [],_=>by simp
 | a :: l,hC=>by
  have h1:=hC a (Zk ..);have h2:=S5 f C l (fun y hy=>hC y (List.mem_cons_of_mem _ hy));rw[List.map_cons,List.flatten_cons,List.length_append,h1,h2,List.length_cons,Nat.succ_mul,Nat.add_comm]
theorem M7{α:Type}(f:α→List Value)(l:List α)(u:Value)(h:u∈(l.map f).flatten):∃y∈l,u∈f y:=by
 rw[List.mem_flatten]at h;obtain⟨L,hL,hu⟩:=h;rw[List.mem_map]at hL;obtain⟨y,hy,rfl⟩:=hL;exact⟨y,hy,hu⟩
theorem GK{α:Type}{w:World}{C:Nat}{f:α→List Value}{ad:Addr}{l:List α}(Z1:Z2 w C f (some ad) l)(hC:∀y∈l,(f y).length=C)(hC0:0<C) :
  ∀j u,((l.map f).flatten)[j]?=some u→w.cell? (ad.add j)=some u:=by
 intro j u hu;have hj:j<l.length*C:=by rw[←S5 f C l hC];exact (Zj.1 hu).1
 have hd:j / C<l.length:=Nat.div_lt_of_lt_mul (by rw[Nat.mul_comm];exact hj);have hx:l[j / C]?=some l[j / C]:=Zi hd;have e:j=j / C*C+j % C:=by rw[Nat.mul_comm];exact (Nat.div_add_mod j C).symm
 have hm:j % C<C:=Nat.mod_lt _ hC0;rw[e,Sw f C l _ _ _ hC hx hm]at hu;obtain⟨a,ha,hc⟩:=Z1 _ _ hx;obtain rfl:ad=a:=by simpa using ha
 have:=hc _ _ hu;rw[Addr.add_add,←e]at this;exact this
theorem I9{α:Type}{w:World}{base:Nat}{e:TypeId}{C n g cap:Nat}{f:α→List Value}{l:List α}(h:w.ownsRow base e C (.slice (some ⟨g,0,none⟩) n cap) n ((l.map f).flatten))(hC:∀y∈l,(f y).length=C):Z2 w C f (some ⟨g,0,none⟩) l:=by
 intro i x hx;refine⟨_,rfl,fun j v hv=>?_⟩;have hj:j<C:=by have:=(Zj.1 hv).1;rw[hC x (Zl hx)]at this;exact this
 have hl:=S5 f C l hC;have h1:=h.1;have hi:i<l.length:=(Zj.1 hx).1;have hk:i*C+j<n*C:=by
  rw[←h1,hl];exact Nat.lt_of_lt_of_le (show i*C+j<(i+1)*C by rw[Nat.succ_mul];omega) (Nat.mul_le_mul_right C hi)
 rw[Addr.add_lit,Addr.add_lit,Nat.zero_add];rw[h.cellAt _ hk,Sw f C l i j x hC hx hj,hv]
section
variable {P:Program} {w:World}
theorem GN(base:Nat)(t ty e:TypeId)(i:TypeInfo)(size:Nat)(ht:P.underlying t=some (.slice e))(hi:P.info? e=some i)(v:Value)(n:Nat)(xs:List Value)(c)(YK:w.ownsRow base e size v n xs) :
  (Builtin.append_ #[t,t] ty #[v,.slice none 0 c]).run P w=.ok v w:=by
 rcases YK.2 with⟨rfl,rfl⟩|⟨g,cap,cur,rfl,_,_,hnc,_⟩
 ·simp[Builtin.append_,run_underlying ht,sizeOf,typeInfo,hi,Builtin.lenOf,Builtin.firstCells]
 ·simp[Builtin.append_,run_underlying ht,sizeOf,typeInfo,hi,Builtin.lenOf,Builtin.firstCells,hnc,storeCells]
theorem Nt{α:Type}{ops:Array Oper}{rest:List Oper}{o:Oper}{a:Act}{Q:Exit→Act→World→Prop}(VL:o.guard=none)(s x:Operand)(t:TypeId)(ho:o.op=.call { callee:=.builtin .append,args:=#[s,x],argTypes:=#[t,t] })(base:Nat)(e:TypeId)(i:TypeInfo)(z:Value)(size bytes:Nat)(ht:P.underlying t=some (.slice e))(hi:P.info? e=some i)(hz:i.zero=some z)(hsize:i.size=size)(hby:i.bytes=bytes)(hzs:z.cells.size=size)(Yq:0<size)(v:Value)(n:Nat)(xs:List Value)(hs:a.eval s=v)(YK:w.ownsRow base e size v n xs)(p m c)(l:List α)(f:α→List Value)(hx:a.eval x=.slice p m c)(hm:l.length=m)(Z1:Z2 w size f p l)(hC:∀y∈l,(f y).length=size)(h1:∀y∈l,∀u∈f y,u.oneCell'=true)(h63:n+m≤maxLen)(hbytes:(n+m)*bytes≤140737488355328)(Um:base≤w.heap.size)(h:∀v' w',w'.ownsRow base e size v' (n+m) (xs++(l.map f).flatten)→w.grownBy w' v.ownBlock→wpList P ops Q rest (a.put o.dst v') w'):wpList P ops Q (o :: rest) a w:=by
 cases p with
 | none =>
  obtain rfl:l=[]:=by
   cases l with
   | nil=>rfl
   | cons y l=>obtain⟨_,h,_⟩:=Z1 0 y rfl;cases h
  obtain rfl:m=0:=by rw[←hm];rfl
  refine wpList_plain VL fun K hK=>?_;have X6:=GN (P:=P) (w:=w) base t o.type e i size ht hi v n xs c YK;unfold Oper.wp;simp[execOp,ho,resolve,invoke,builtin,hs,hx,X6,Result.andThen];exact hK _ _ (h v w (by simpa using YK) (World.grownBy.mk rfl rfl rfl (Zp _) fun _ _ _=>rfl))
 | some ad =>
  exact wpList_append_own w VL s x t ho base e i z size bytes ht hi hz hsize hby hzs Yq v n xs hs YK ad m c _ hx (by rw[S5 f size l hC,hm]) (GK Z1 hC Yq)
   (fun u hu=>by obtain⟨y,hy,hu⟩:=M7 f l u hu;exact h1 y hy u hu) h63 hbytes Um fun v' w' h2 h3 _=>h v' w' h2 h3
end
theorem J2(V:Array Value)(act cp)(cn cc:Nat)(w:World)(hb:65536<cn) :
  Calls Zr 16 #[.agg V,.int .i64 act,.slice cp cn cc] w fun e w'=>e=.returned (.tuple #[.int .i64 0,.bool false])∧∃x,w'=plus w x:=by
 have hb8:(65536:Int)<(cn:Int):=by omega
 have eb8:decide ((65536:Int)<(cn:Int))=true:=decide_eq_true hb8;go_enter func16,ntmps16;go_wp2;refine bodyPost_ret (v:=.tuple #[.int .i64 0,.bool false]) (by simp[results,Tryz.results16,go_sem]) rfl ⟨rfl,?_⟩;exact ZS ((Zc _ _).alloc (Zp _) _)
theorem R5(p:Pg)(mr:Nat)(act)(c:Sl Nd)(w:World)(hp:p.In w)(hz:p.sz≤1048576)(hc:c.In w 6 Nd.cells Nd.In)(hm:Yf w mr (X9 20)) :
  Kp Zr w 16 #[X0 p mr,.int .i64 act,c.v] (.tuple #[.int .i64 (YR (p.env act) c.l).1,.bool (YR (p.env act) c.l).2]):=by
 intro y;unfold YR;by_cases h:c.l.length≤65536
 ·rw[if_pos h]
  exact J3 _ _ _ _ _ _ _ _ _ _ _ _ _ _ _ _ _ _ _ _ _ _ _ _ _ _ _ _ _ _ _ _ _ _ _ _ mr act c.p c.l.length c.cap c.l (p.env act) (plus w y) (hm.plus y) (hc.row.plus y) rfl hc.kids
   (fun n A z hn hA hl ht ho hx=>Kz p mr act n A _ ((hp.plus y).plus z) hz (hc.kids n hn) hA hl ht ho hx) h
 ·rw[if_neg h]
  exact J2 _ act c.p c.l.length c.cap (plus w y) (by omega)
theorem R8:(Zr.info? 79).map (fun i=>(i.zero,i.size,i.bytes))=some (some (.agg #[.int .u8 0,.int .i64 0,.int .i64 0,.int .i64 0,.int .u64 0,.int .u64 0]),6,48):=by kernel_rfl
theorem PY:∀(x:Nd),x.cells.length=6:=fun _=>rfl
theorem PZ(x:Nd):∀u∈x.cells,u.oneCell'=true:=by
 intro u hu;simp only[Nd.cells,List.mem_cons,List.not_mem_nil,or_false]at hu;rcases hu with rfl|rfl|rfl|rfl|rfl|rfl <;> rfl
def Y7(w:World)(base:Nat)(v:Value)(l:List Nd):Prop:=w.ownsRow base 79 6 v l.length ((l.map Nd.cells).flatten)
theorem Y7.nil(w:World)(base:Nat):Y7 w base (.slice none 0 0) []:=World.ownsRow_nil _ _ _ _
theorem Y7.form{w:World}{base:Nat}{v:Value}{l:List Nd}(h:Y7 w base v l):∃p c,v=.slice p l.length c∧l.length≤c∧Z2 w 6 Nd.cells p l:=by
 rcases h.2 with⟨hv,hn⟩|⟨g,cap,cur,hv,hb,hg,hn,hm,hs,hx⟩
 ·obtain rfl:=List.length_eq_zero_iff.1 hn
  exact⟨none,0,hv,Zp _,fun i x hx=>by simp at hx⟩
 ·subst hv
  exact⟨_,cap,rfl,hn,I9 h (fun y _=>PY y)⟩
theorem Y7.lower{w:World}{base base':Nat}{v:Value}{l:List Nd}(h:Y7 w base v l)(hb:base'≤base):Y7 w base' v l:=by
 refine⟨h.1,?_⟩;rcases h.2 with hn|⟨g,cap,cur,hv,hg,rest⟩
 ·exact .inl hn
 ·exact .inr ⟨g,cap,cur,hv,Nat.le_trans hb hg,rest⟩
theorem KS(n:Nat)(w:World)(hn:n≤1048576):Calls Zr 142 #[.slice none 0 0,.int .i64 (n:Int)] w fun e w'=>∃v,e=.returned v∧Y7 w' w.heap.size v []∧Below w.heap.size w w':=by
 obtain⟨i0,hi,W5,hz1,Ym⟩:=info_parts R8;have j0:¬((n:Int)<0):=by omega
 have w0:wrap64 (n:Int)=(n:Int):=Rw _ (by omega);by_cases h0:n=0
 ·subst h0
  go_enter func142,ntmps142;go_wp2;go_ret;exact⟨_,rfl,Y7.nil _ _,Zc _ _⟩
 ·have j1:(0:Int)<(n:Int):=by omega
  have j1b:decide ((0:Int)<(n:Int))=true:=decide_eq_true j1;have j1c:decide (0<n)=true:=decide_eq_true (by omega);have happ:=Lib.run_append_nil_zeros (P:=Zr) w 35 3 35 79 i0 (.agg #[.int .u8 0,.int .i64 0,.int .i64 0,.int .i64 0,.int .u64 0,.int .u64 0]) .i64 .i64 Tryz.underlying35 Tryz.underlying3 hi W5 n (by omega) (by rw[hz1];decide) (by omega) (by rw[Ym];omega);obtain⟨cap,Vd⟩:=Zv (grownCap w n 0 79);have Vc:n≤cap:=Vd▸grownCap_ge w n 0 _;have X3:cap≤maxLen:=Vd▸grownCap_le_maxLen w n 0 _ (by simp only[maxLen];omega);rw[Vd]at happ;obtain⟨cur,hcur⟩:=Zv (Builtin.zeroCells (Value.agg #[.int .u8 0,.int .i64 0,.int .i64 0,.int .i64 0,.int .u64 0,.int .u64 0]).cells n++Builtin.zeroCells (Value.agg #[.int .u8 0,.int .i64 0,.int .i64 0,.int .i64 0,.int .u64 0,.int .u64 0]).cells (cap-n));have VK:cur.size=cap*6:=by
   rw[←hcur,Array.size_append,size_zeroCells,size_zeroCells];show n*6+(cap-n)*6=cap*6
   omega
  rw[hcur]at happ;have YK:Y7 (w.drew.alloc (.cells cur 79)) w.heap.size (.slice (some ⟨w.heap.size,0,none⟩) 0 cap) []:=World.ownsRow_made w.drew cur cap (Zp _) X3 VK;have T1:Below w.heap.size w (w.drew.alloc (.cells cur 79)):=(Wy (Zc w.heap.size w)).alloc (Zp _) _;have hc0:¬((cap:Int)<0):=by omega
  replace happ:=Zg happ;replace YK:=Zg YK;replace T1:=Zg T1;clear Vd hcur VK h0;go_enter func142,ntmps142;go_wp2_with (at_builtin;refine Lib.wpList_append_run _ rfl _ _ _ _ rfl _ _ rfl rfl _ _ happ.out ?_);go_wp2;go_ret;exact⟨_,rfl,YK.out,T1.out⟩
abbrev Y9(l:List (Sl Nd)):List Nd:=l.flatMap (·.l)
theorem RI(l:List (Sl Nd))(k:Nat)(x:Sl Nd)(h:l[k]?=some x):Y9 (l.take (k+1))=Y9 (l.take k)++x.l:=by
 rw[List.take_add_one,h];simp[Y9]
theorem Q7(l:List (Sl Nd))(k:Nat):(Y9 (l.take k)).length≤(Y9 l).length:=by
 have h:Y9 l=Y9 (l.take k)++Y9 (l.drop k):=by
  conv=>lhs;rw[←List.take_append_drop k l]
  exact List.flatMap_append
 rw[h,List.length_append];omega
theorem V3{α:Type}{w W:World}{C:Nat}{cells:α→List Value}{p:Option Addr}{l:List α}(h:Z2 w C cells p l)(hB:Below w.heap.size w W):Z2 W C cells p l:=fun i x hx=>by
 obtain⟨a,hp,hc⟩:=h i x hx;exact⟨a,hp,V5 (hB:=hB) hc⟩
theorem RD{base:Nat}{V w w':World}{v:Value}{n:Nat}{xs:List Value}{e:TypeId}{size:Nat}(hB:Below base V w)(hb:base≤w.heap.size)(h:w.ownsRow base e size v n xs)(hg:w.grownBy w' v.ownBlock):Below base V w' :=
 hB.grown hg hb (fun j e=>(h.lt j e).1)
theorem KK(p:Option Addr)(n c:Nat)(parts:List (Sl Nd))(w:World)(Z1:Z2 w 1 YY p parts)(hn:parts.length=n)(hk:∀x∈parts,Z2 w 6 Nd.cells x.p x.l)(hb:(Y9 parts).length≤1048576)(XG:n≤1048576) :
  Calls Zr 113 #[.slice p n c] w fun e w'=>∃v,e=.returned v∧Y7 w' w.heap.size v (Y9 parts)∧Below w.heap.size w w':=by
 have T6:=Zg Z1;have ZJ:=Zg hn;have hk':=Zg hk;have YI:=Zg hb;have hn2':=Zg XG;clear Z1 hn hk hb XG;go_enter func113,ntmps113;go_wp2_with fail;go_loopw [3,5,11] (fun s3 _ iv wr=>∃k:Nat,k≤n∧s3=.int .i64 ((Y9 (parts.take k)).length:Int)∧iv=.int .i64 (k:Int)∧wr=w) (fun _ _ iv _=>n-(intOf iv).toNat)
 case atStart=>exact⟨0,Zq _,rfl,rfl,rfl⟩
 case round =>
  obtain⟨k,hkn,rfl,rfl,rfl⟩:=hrel;by_cases Zz:k<n
  ·obtain⟨⟨xp,xc,xl⟩,hx⟩:∃s,parts[k]?=some s:=⟨parts[k]'(by rw[ZJ.out];exact Zz),Zi _⟩
   obtain⟨pa,rfl,g1⟩:=T6.out k _ hx;have Uo:=congrArg List.length (RI parts k _ hx);rw[List.length_append]at Uo;have WM:=Q7 parts (k+1);have hbb:=YI.out;obtain⟨xn,Wn⟩:=Zv xl.length;obtain⟨S0,hS0⟩:=Zv ((Y9 (parts.take k)).length);have u0:=g1.c0 _ rfl;simp only[Sl.v,Wn,Nat.mul_one]at u0;simp only[Wn,hS0]at Uo;rw[hS0];have a5:=Zg (Rw ((S0:Int)+(xn:Int)) (by omega));have a6:=Zg (Yo k n Zz hn2'.out);have a7:¬((S0:Int)+(xn:Int)<0):=by omega
   have ZD:=Zg (show (((Y9 (parts.take (k+1))).length:Nat):Int)=(S0:Int)+(xn:Int) by rw[Uo];omega);have j0:¬((k:Int)<0):=by omega
   have j1:(k:Int)<(n:Int):=by omega
   have hbd:(S0:Int)+(xn:Int)≤1048576:=by omega
   have hbd0:0≤(S0:Int)+(xn:Int):=by omega
   clear hx Uo WM hbb Wn hS0 g1;go_wp2_with fail;go_roundw
   case rel=>exact⟨k+1,Zz,by rw[ZD.out],congrArg (Zt .i64) (by first|omega|exact a6.out),by first|rfl|trivial⟩
   case measure=>first|exact YF k n Zz a6.out|exact Wg k n Zz
  ·obtain rfl:k=n:=by omega
   have htk:parts.take k=parts:=List.take_of_length_le (by rw[ZJ.out];exact Zp _);rw[htk];obtain⟨L,hL⟩:=Zv ((Y9 parts).length);have hG:=Zg (KS L wr (by rw[←hL];exact YI.out));rw[hL];have hL':=Zg hL;clear htk hL Zz hkn;go_wp2_with fail;refine hG.out.mono ?_;rintro e w1 ⟨v0,rfl,ho,Xq⟩;have ho0:Hid (Y7 w1 wr.heap.size v0 (Y9 (parts.take 0))):=Zg ho;have hB0:=Zg Xq;clear ho Xq hG;go_wp2_with fail;go_loopw [6,8,27] (fun v _ iv wx=>∃m:Nat,m≤k∧iv=.int .i64 (m:Int)∧Hid (Y7 wx wr.heap.size v (Y9 (parts.take m)))∧Hid (Below wr.heap.size wr wx)) (fun _ _ iv _=>k-(intOf iv).toNat)
   case atStart=>exact⟨0,Zq _,rfl,ho0,hB0⟩
   case round =>
    clear ho0 hB0;rename_i V0 _ _ _ _ _ _ _
    obtain⟨m,hm,rfl,ho,hB⟩:=hrel;by_cases Zz:m<k
    ·obtain⟨⟨xp,xc,xl⟩,hx⟩:∃s,parts[m]?=some s:=⟨parts[m]'(by rw[ZJ.out];exact Zz),Zi _⟩
     obtain⟨pa,rfl,g1⟩:=T6.out m _ hx;have u0:=(V5 (hB:=hB.out) g1).c0 _ rfl;have hr:=Zg (V3 (hk'.out _ (Zl hx)) hB.out);have htk:=Zg (RI parts m _ hx);have WM:=Q7 parts (m+1);have Uo:=congrArg List.length (RI parts m _ hx);rw[List.length_append]at Uo;have hbb:=YI.out;obtain⟨xn,Wn⟩:=Zv xl.length;obtain⟨AL,hAL⟩:=Zv (Y9 (parts.take m));obtain⟨i0,hi0,Ws,WH,hi3⟩:=info_parts R8;simp only[hAL]at htk Uo ho;simp only[Wn]at Uo;have hbd:=Zg (show AL.length+xn≤1048576 by omega);have hxn':=Zg Wn;simp only[Sl.v,Wn,Nat.mul_one]at u0;have ho':=Zg (show wr.ownsRow _ 79 6 u6 AL.length ((AL.map Nd.cells).flatten) from ho.out);have hi0':=Zg hi0;have hi1':=Zg Ws;have hi2':=Zg WH;have hi3':=Zg hi3;have a6:=Zg (Yo m k Zz hn2'.out);have j0:¬((m:Int)<0):=by omega
     have j1:(m:Int)<(k:Int):=by omega
     have hbs:=hB.out.size;clear hx Uo WM hbb Wn hAL g1 ho hi0 Ws WH hi3;go_wp2_with (at_builtin;refine Nt rfl _ _ 35 rfl _ 79 i0 _ 6 48 Tryz.underlying35 hi0'.out hi1'.out hi2'.out hi3'.out rfl (by decide) u6 AL.length _ rfl ho'.out xp xn xc xl Nd.cells rfl hxn'.out hr.out (fun y _=>PY y) (fun y _=>PZ y) (by have:=hbd.out;simp only[maxLen];omega) (by have:=hbd.out;omega) hbs ?_);intro v' w' h3 h4;have Yz:=Zg (RD hB.out hbs ho'.out h4);have ho2:Hid (Y7 w' _ v' (Y9 (parts.take (m+1)))):=Zg (by
      rw[htk.out];unfold Y7;rw[List.length_append,List.map_append,List.flatten_append,hxn'.out];exact h3)
     clear h3 h4 ho' hB hr htk u0;go_wp2_with fail;go_roundw
     case rel=>exact⟨m+1,Zz,congrArg (Zt .i64) (by first|omega|exact a6.out),ho2,Yz⟩
     case measure=>first|exact YF m k Zz a6.out|exact Wg m k Zz
    ·obtain rfl:m=k:=by omega
     have hF:Hid (Y7 wr _ u6 (Y9 parts)):=Zg (by
      have:=ho.out;rwa [List.take_of_length_le (by rw[ZJ.out];exact Zp _)]at this)
     clear ho;go_wp2_with fail;go_ret;exact⟨_,rfl,hF.out,hB.out⟩
theorem RJ(X:World)(x:Nd):ZG (X.alloc (.cells #[.int .u8 x.op,.int .i64 x.w,.int .i64 x.a,.int .i64 x.b,.int .u64 x.v.h,.int .u64 x.v.l] 79)) ⟨X.heap.size,0,none⟩ x.cells:=fun j u hu=>by
 rw[Addr.add_lit,Nat.zero_add];exact (Z4 X _ _ _ j rfl).trans (by simpa [Nd.cells]using hu)
theorem PX{W:World}{base:Nat}(v:Value){l:List Nd}{ops:Array Oper}{o:Oper}{a:Act}{K:Act→World→Prop}{Q:Exit→Act→World→Prop}{E:Prop}(h:Y7 W base v l)(Um:base≤W.heap.size)(hb:l.length≤1048576)(y:Nd)(g:Nat)(VJ:ZG W ⟨g,0,none⟩ y.cells)(VL:o.guard=none)(s x:Operand)(ho:o.op=.call { callee:=.builtin .append,args:=#[s,x],argTypes:=#[35,35] })(hs:a.eval s=v)(hx:a.eval x=.slice (some ⟨g,0,none⟩) 1 1)(k:∀v' w',Y7 w' base v' (l++[y])→W.grownBy w' v.ownBlock→K (a.put o.dst v') w'):if Region.wanted o (yielded ops a.tmps)=true then Oper.wp Zr o a W K Q else E:=by
 obtain⟨i0,hi0,Ws,WH,hi3⟩:=info_parts R8;refine step_append_lies W VL s x 35 ho base 79 i0 _ 6 48 Tryz.underlying35 hi0 Ws WH hi3 rfl (by decide) v l.length _ hs h ⟨g,0,none⟩ 1 1 y.cells hx rfl VJ (PZ y)
  (by decide) (by simp only[maxLen];omega) (by omega) Um _ rfl fun g' cap w' h3 h4 _ _=>k _ w' (by
   unfold Y7;rw[List.length_append,List.map_append,List.flatten_append];simpa using h3) h4
theorem J4(x:Nd)(p:Option Addr)(n c:Nat)(parts:List (Sl Nd))(w:World)(Z1:Z2 w 1 YY p parts)(hn:parts.length=n)(hk:∀x∈parts,Z2 w 6 Nd.cells x.p x.l)(hb:(Y9 parts).length≤1048576)(XG:n≤1048576) :
  Calls Zr 65 #[.agg #[.int .u8 x.op,.int .i64 x.w,.int .i64 x.a,.int .i64 x.b,.int .u64 x.v.h,.int .u64 x.v.l],.slice p n c] w fun e w'=>∃v,e=.returned v∧Y7 w' w.heap.size v (Y9 parts++[x])∧Below w.heap.size w w':=by
 obtain⟨W,hW,ZY,hz,ca,-⟩:=Vx w #[.int .u8 x.op,.int .i64 x.w,.int .i64 x.a,.int .i64 x.b,.int .u64 x.v.h,.int .u64 x.v.l] 79;have a0:∀z,(Go.Proofs.YtheaknidbcbneaaGreat.plus W.drew z).cell? ⟨w.heap.size,0,none⟩=_:=fun z=>ca 0 _ rfl z;have e0:=ca 0 _ rfl ⟨#[],W.drawn⟩;have a1:∀z,(Go.Proofs.YtheaknidbcbneaaGreat.plus W.drew z).cell? ⟨w.heap.size,1,none⟩=_:=fun z=>ca 1 _ rfl z;have e1:=ca 1 _ rfl ⟨#[],W.drawn⟩;have a2:∀z,(Go.Proofs.YtheaknidbcbneaaGreat.plus W.drew z).cell? ⟨w.heap.size,2,none⟩=_:=fun z=>ca 2 _ rfl z;have e2:=ca 2 _ rfl ⟨#[],W.drawn⟩;have a3:∀z,(Go.Proofs.YtheaknidbcbneaaGreat.plus W.drew z).cell? ⟨w.heap.size,3,none⟩=_:=fun z=>ca 3 _ rfl z;have e3:=ca 3 _ rfl ⟨#[],W.drawn⟩;have a4:∀z,(Go.Proofs.YtheaknidbcbneaaGreat.plus W.drew z).cell? ⟨w.heap.size,4,none⟩=_:=fun z=>ca 4 _ rfl z;have e4:=ca 4 _ rfl ⟨#[],W.drawn⟩;have a5:∀z,(Go.Proofs.YtheaknidbcbneaaGreat.plus W.drew z).cell? ⟨w.heap.size,5,none⟩=_:=fun z=>ca 5 _ rfl z;have e5:=ca 5 _ rfl ⟨#[],W.drawn⟩;rw[ZK]at e0 e1 e2 e3 e4 e5;have hC:Hid (∀X,Below W.heap.size W X→Calls Zr 113 #[.slice p n c] X fun e w'=>∃v,e=.returned v∧(∃z,w'=Go.Proofs.YtheaknidbcbneaaGreat.plus X z)∧Y7 w' W.heap.size v (Y9 parts)∧W.heap.size≤w'.heap.size∧Below W.heap.size W w'):=Zg fun X hX=>by
  have hB:Below w.heap.size w X:=ZY.trans (hX.mono ZY.size);refine (KK p n c parts X (V3 Z1 hB) hn (fun s hs=>V3 (hk s hs) hB) hb XG).mono ?_;rintro e w' ⟨v,he,ho,hb2⟩;exact⟨v,he,ZS hb2,ho.lower hX.size,Nat.le_trans hX.size hb2.size,hX.trans (hb2.mono hX.size)⟩
 have YG:=Zg ZY;have YI:=Zg hb;have hzs:=Zg hz;have hD:=Zg (Wy (Zc W.heap.size W));clear Z1 hn hk hb XG ZY hz ca;obtain⟨op,nw,na,nb,⟨vh,vl⟩⟩:=x;go_enter func65,ntmps65;go_upto_region 1 with (fail)
 rw[←hW];clear hW;go_region_law (go_loud (first
  | (go_simp;go_at_call 113;refine (hC.out _ (by first|exact hD.out|exact hD.out.alloc (by simp) _)).mono ?_;rintro e w' ⟨v,rfl,⟨z,rfl⟩,ho,Yq,hbz⟩;replace ho:=Zg ho;replace Yq:=Zg Yq;replace hbz:=Zg hbz)
  | (refine PX v (ho.out.alloc _) (by have:=Yq.out;simp at this ⊢;omega) YI.out ⟨op,nw,na,nb,⟨vh,vl⟩⟩ (Go.Proofs.YtheaknidbcbneaaGreat.plus W.drew z).heap.size (RJ _ ⟨op,nw,na,nb,⟨vh,vl⟩⟩) rfl (.tmp 6) (.tmp 8) rfl (by simp[Act.eval]) (by simp[Act.eval]) ?_;intro v9 w9 h9 g9;have hB9:=Zg (RD (hbz.out.alloc Yq.out _) (by have:=Yq.out;simp at this ⊢;omega) (ho.out.alloc _) g9))
  | (refine PX v ho.out Yq.out YI.out ⟨op,nw,na,nb,⟨vh,vl⟩⟩ W.heap.size (by first|exact ZG.plus (w:=W.drew.alloc _) (RJ W.drew ⟨op,nw,na,nb,⟨vh,vl⟩⟩) z|exact ZG.plus (w:=(W.alloc _).drew) (RJ W ⟨op,nw,na,nb,⟨vh,vl⟩⟩) z) rfl (.tmp 6) (.tmp 8) rfl (by simp[Act.eval]) (by simp[Act.eval]) ?_;intro v9 w9 h9 g9;have hB9:=Zg (RD hbz.out Yq.out ho.out g9))))
 all_goals
  replace h9:=Zg h9;clear g9 ho Yq hbz;go_wp2;go_ret;exact⟨_,rfl,(h9.out.lower (by have:=hzs.out;omega):Y7 _ _ _ _),YG.out.trans (hB9.out.mono YG.out.size)⟩
theorem Pl{w:World}{a b d:Obj}{cs:Array Value}{t:TypeId}{j:Nat}{v:Value}(h:cs[j]?=some v):((((w.alloc a).alloc b).alloc (.cells cs t)).alloc d).cell? ⟨w.heap.size+1+1,j,none⟩=some v:=by
 have e:((w.alloc a).alloc b).heap.size=w.heap.size+1+1:=by simp
 have:=(Z4 ((w.alloc a).alloc b) cs t _ j rfl).trans h;rw[e]at this;exact ZL this d
theorem Lb(w:World)(a b c d:Obj):∃z,(((w.alloc a).alloc b).alloc c).alloc d=plus w z :=
 ZS (((((Zc w.heap.size w).alloc (Zp _) _).alloc (by simp) _).alloc (by simp;omega) _).alloc (by simp;omega) _)
theorem Lc(w:World)(a b c d:Obj):∃z,((((w.alloc a).alloc b).alloc c).alloc d).drew=plus w z :=
 ZS (Wy (((((Zc w.heap.size w).alloc (Zp _) _).alloc (by simp) _).alloc (by simp;omega) _).alloc (by simp;omega) _))
theorem Jh(q0p q0n q0c q1p q1n q1c q2p q2n q2c q3p q3n q3c q4p q4n q4c q5p q5n q5c q6p q6n q6c act free)(r:Nat)(w:World)(hm:Yf w r (Xz 26))(lw lh ll hi lo hd nm ap an ac) :
  Calls Zr 66 #[.agg #[.slice q0p q0n q0c,.slice q1p q1n q1c,.slice q2p q2n q2c,.slice q3p q3n q3c,.slice q4p q4n q4c,.slice q5p q5n q5c,.slice q6p q6n q6c,.int .i64 act,.map (some r)],.agg #[.int .u8 5,.int .i64 lw,.int .u64 lh,.int .u64 ll,.string hd,.string nm,.int .i64 hi,.int .i64 lo,.slice ap an ac],.int .i64 free] w fun e w'=>e=.returned (.agg #[.int .u8 5,.int .i64 9,.int .i64 0,.int .i64 0,.int .u64 0,.int .u64 0])∧∃z,w'=plus w z:=by
 have hl:=fun a b c=>UP (((hm.alloc a).alloc b).alloc c) 5;rw[show Tm 5=5 by decide]at hl;go_enter func66,ntmps66;go_wp2;exact bodyPost_ret (v:=.agg #[.int .u8 5,.int .i64 9,.int .i64 0,.int .i64 0,.int .u64 0,.int .u64 0]) (by simp only[results,Tryz.results66];simp[go_sem,Pl]) rfl ⟨rfl,Lb _ _ _ _ _⟩
theorem Jg(q0p q0n q0c q1p q1n q1c q2p q2n q2c q3p q3n q3c q4p q4n q4c q5p q5n q5c q6p q6n q6c act free)(r:Nat)(w:World)(hm:Yf w r (Xz 26))(lh ll hi lo hd nm ap an ac) :
  Calls Zr 66 #[.agg #[.slice q0p q0n q0c,.slice q1p q1n q1c,.slice q2p q2n q2c,.slice q3p q3n q3c,.slice q4p q4n q4c,.slice q5p q5n q5c,.slice q6p q6n q6c,.int .i64 act,.map (some r)],.agg #[.int .u8 1,.int .i64 0,.int .u64 lh,.int .u64 ll,.string hd,.string nm,.int .i64 hi,.int .i64 lo,.slice ap an ac],.int .i64 free] w fun e w'=>e=.returned (.agg #[.int .u8 1,.int .i64 free,.int .i64 0,.int .i64 0,.int .u64 lh,.int .u64 ll])∧∃z,w'=plus w z:=by
 have hl:=fun a b c=>UP (((hm.alloc a).alloc b).alloc c) 1;rw[show Tm 1=1 by decide]at hl;go_enter func66,ntmps66;go_wp2;go_region;all_goals go_wp2
 all_goals exact bodyPost_ret (v:=.agg #[.int .u8 1,.int .i64 free,.int .i64 0,.int .i64 0,.int .u64 lh,.int .u64 ll]) (by simp only[results,Tryz.results66];simp[go_sem,Pl]) rfl ⟨rfl,Lc _ _ _ _ _⟩
end Go.Proofs.YtheaknidbcbneaaGreat
