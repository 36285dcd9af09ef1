/-
  WHAT IS PROVED HERE: a part of the proof (made narrower and merged by program; the parts: Ef).
-/
import Derived.Test.YtobhijbncchpiaaGreatM21
import Derived.Test.YtobhijbncchpiaaGreatM32
namespace Go.Proofs.YtobhijbncchpiaaGreat
open Go.RowKit Go.Shelf
def litX (n:Int):Ex:=.mk 1 ⟨0,0,n⟩ ⟨#[]⟩ ⟨#[]⟩ 0 0 none 0 []
def portX:Ex:=.mk 5 ⟨0,0,0⟩ ⟨#[]⟩ ⟨#[]⟩ 0 0 none 0 []
def pr0:Pr:={ headers:=⟨none,0,[]⟩,metas:=⟨none,0,[]⟩,states:=⟨none,0,[]⟩,actions:=⟨none,0,[]⟩,tables:=⟨none,0,[]⟩,control:=⟨none,0,[]⟩,emit:=⟨none,0,[]⟩ }
theorem sl_nil0 {α:Type} (W:World) (C:Nat) (cells:α→List Value) (K:α→Prop):Sl.In W C cells K ⟨none,0,[]⟩ :=
 ⟨Nat.le_refl _,Nat.zero_le _,fun i x h=>by simp at h,fun x h=>by cases h⟩
theorem pr0_in (W:World):pr0.In W:=⟨sl_nil0 _ _ _ _,sl_nil0 _ _ _ _,sl_nil0 _ _ _ _,sl_nil0 _ _ _ _,sl_nil0 _ _ _ _,sl_nil0 _ _ _ _,sl_nil0 _ _ _ _⟩
theorem pr0_wide:Wide pr0:=⟨fun x h=>(by cases h),fun x h=>(by cases h),fun x h=>(by cases h)⟩
theorem leaf_in (op n:Int) (h:(Lit.int .u8 op).wf=true) (hn:(Lit.int .u64 n).wf=true) (W:World):(Ex.mk op ⟨0,0,n⟩ ⟨#[]⟩ ⟨#[]⟩ 0 0 none 0 []).In W:=.mk _ h ⟨rfl,rfl,hn⟩ rfl rfl (Nat.zero_le _) (Nat.zero_le _) (Nat.le_refl _) (Nat.zero_le _) (fun i x h=>by simp [Ex.args] at h) (fun x h=>by simp [Ex.args] at h)
theorem row_lies {W:World} {b:Nat} {cs:Array Value} {t:TypeId} {z:Nat × Nat} {l:List Ex} (h:W.heap[b]?=some (.cells cs t z)) (hcs:cs.toList=(l.map Ex.cells).flatten):RowAt W 9 Ex.cells (some ⟨b,0,none⟩) l:=by
 intro i x hx
 refine⟨_,rfl,fun j u hu=>?_⟩
 have hj:j < 9:=(List.getElem?_eq_some_iff.1 hu).1
 rw [Addr.add_lit,Addr.add_lit,Nat.zero_add]
 refine cell_lies h ?_
 rw [← Array.getElem?_toList,hcs,flat_at Ex.cells 9 l i j x (fun _ _=>rfl) hx hj,hu]
/-- An expression of some. -/
def ofX (k:Int) (b:Nat) (l:List Ex):Ex:=.mk k ⟨0,0,0⟩ ⟨#[]⟩ ⟨#[]⟩ 0 0 (some ⟨b,0,none⟩) l.length l
theorem ofX_in {k:Int} {b:Nat} {l:List Ex} {W:World} {cs:Array Value} {t:TypeId} {z:Nat × Nat} (hk:(Lit.int .u8 k).wf=true) (hl:l.length≤2) (h:W.heap[b]?=some (.cells cs t z)) (hcs:cs.toList=(l.map Ex.cells).flatten) (hx:∀ x ∈ l,x.In W):(ofX k b l).In W :=
 .mk _ hk ⟨rfl,rfl,rfl⟩ rfl rfl (Nat.zero_le _) (Nat.zero_le _) (Nat.le_refl _) (Nat.le_trans hl (by decide)) (row_lies h hcs) hx
theorem leaf_may (n:Nat):Ex.may (n+1) portX=true∧Ex.may (n+1) (litX 1)=true∧Ex.may (n+1) (litX 2)=true:=by
 refine⟨?_,?_,?_⟩ <;> simp [Ex.may,portX,litX,Ex.op,Ex.args,Ex.fits,Ex.lit,Ex.head,Ex.name,Ex.hi,Ex.lo,litB,ltB,nmB,endB,eachB,xIs,xLit,xHead,xName,xSlice,xArgs,xShift]
theorem of_may (b:Nat):(ofX 12 b [portX,litX 1]).may 16=true∧(ofX 19 b [litX 1,litX 2]).may 16=true∧(ofX 9 b [portX]).may 16=true:=by
 refine⟨?_,?_,?_⟩ <;> (rw [Ex.may];simp [ofX,Ex.op,Ex.args,Ex.fits,Ex.lit,Ex.head,Ex.name,Ex.hi,Ex.lo,litB,nmB,endB,eachB,xIs,xLit,xHead,xName,xSlice,xArgs,xShift,leaf_may])
theorem of_ty (b:Nat):(ofX 12 b [portX,litX 1]).ty pr0 (-1)=(0,⟨9,false,false⟩)∧((ofX 19 b [litX 1,litX 2]).ty pr0 (-1)).1=10∧((ofX 9 b [portX]).ty pr0 (-1)).1=9:=by
 refine⟨?_,?_,?_⟩ <;> (simp only [ofX,portX,litX,Ex.ty,Ex.tys,Ex.free,Ex.frees];rfl)
theorem of_wt (b:Nat):(ofX 12 b [portX,litX 1]).wt≤1048576∧(ofX 19 b [litX 1,litX 2]).wt≤1048576∧(ofX 9 b [portX]).wt≤1048576:=by
 refine⟨?_,?_,?_⟩ <;> (simp only [ofX,portX,litX,Ex.wt,Ex.wts];decide)
theorem pr0_sz:pr0.sz≤1048576:=by decide
set_option maxRecDepth 100000 in
set_option maxHeartbeats 4000000 in
theorem known_lit (n:Int) (V:World):Kp Tryz.prog V 15 #[.int .u64 n] (.agg #[.int .u8 1,.int .i64 0,.int .u64 0,.int .u64 n,.string ⟨#[]⟩,.string ⟨#[]⟩,.int .i64 0,.int .i64 0,.slice none 0 0]):=by
 intro y0
 go_enter Tryz.func15,Tryz.ntmps15
 go_wp2
 obtain⟨X,Y0,eX,⟨zX,hzX⟩,ca⟩:=box1n (plus V y0) #[.int .u8 1,.int .i64 0,.int .u64 0,.int .u64 n,.string ⟨#[]⟩,.string ⟨#[]⟩,.int .i64 0,.int .i64 0,.slice none 0 0] 45
 rw [eX]
 have c0:=ca 0 _ rfl Y0
 have c1:=ca 1 _ rfl Y0
 have c2:=ca 2 _ rfl Y0
 have c3:=ca 3 _ rfl Y0
 have c4:=ca 4 _ rfl Y0
 have c5:=ca 5 _ rfl Y0
 have c6:=ca 6 _ rfl Y0
 have c7:=ca 7 _ rfl Y0
 have c8:=ca 8 _ rfl Y0
 exact bodyPost_ret (v:=.agg #[.int .u8 1,.int .i64 0,.int .u64 0,.int .u64 n,.string ⟨#[]⟩,.string ⟨#[]⟩,.int .i64 0,.int .i64 0,.slice none 0 0]) (by simp [results,Tryz.results15,go_sem,c0,c1,c2,c3,c4,c5,c6,c7,c8]) rfl ⟨rfl,by rw [hzX,plus_plus];exact⟨_,rfl⟩⟩
theorem known_add (W:World) (b:Nat) (h:W.heap[b]?=some (.cells #[.int .u8 5,.int .i64 0,.int .u64 0,.int .u64 0,.string ⟨#[]⟩,.string ⟨#[]⟩,.int .i64 0,.int .i64 0,.slice none 0 0,.int .u8 1,.int .i64 0,.int .u64 0,.int .u64 1,.string ⟨#[]⟩,.string ⟨#[]⟩,.int .i64 0,.int .i64 0,.slice none 0 0] 45)):Calls Tryz.prog 16 #[.agg #[.slice none 0 0,.slice none 0 0,.slice none 0 0,.slice none 0 0,.slice none 0 0,.slice none 0 0,.slice none 0 0],.int .i64 (-1),.agg #[.int .u8 12,.int .i64 0,.int .u64 0,.int .u64 0,.string ⟨#[]⟩,.string ⟨#[]⟩,.int .i64 0,.int .i64 0,.slice (some ⟨b,0,none⟩) 2 2]] W fun e w'=>e=.returned (.tuple #[.agg #[.int .i64 9,.bool false,.bool false],.int .i64 0])∧∃ y,w'=plus W y:=by
 have q:=t_Of pr0 pr0_sz pr0_wide (-1) (ofX 12 b [portX,litX 1]) (of_may b).1 W (pr0_in W) (ofX_in rfl (by decide) h rfl (fun x h=>by
   simp only [List.mem_cons,List.not_mem_nil,or_false] at h
   rcases h with rfl | rfl <;> exact leaf_in _ _ rfl rfl _)) (of_wt b).1 ⟨#[],W.drawn⟩
 rw [(of_ty b).1,plus_self] at q
 exact q
theorem known_eq (W:World) (b:Nat) (h:W.heap[b]?=some (.cells #[.int .u8 1,.int .i64 0,.int .u64 0,.int .u64 1,.string ⟨#[]⟩,.string ⟨#[]⟩,.int .i64 0,.int .i64 0,.slice none 0 0,.int .u8 1,.int .i64 0,.int .u64 0,.int .u64 2,.string ⟨#[]⟩,.string ⟨#[]⟩,.int .i64 0,.int .i64 0,.slice none 0 0] 45)):∃ w tt tf,Calls Tryz.prog 16 #[.agg #[.slice none 0 0,.slice none 0 0,.slice none 0 0,.slice none 0 0,.slice none 0 0,.slice none 0 0,.slice none 0 0],.int .i64 (-1),.agg #[.int .u8 19,.int .i64 0,.int .u64 0,.int .u64 0,.string ⟨#[]⟩,.string ⟨#[]⟩,.int .i64 0,.int .i64 0,.slice (some ⟨b,0,none⟩) 2 2]] W fun e w'=>e=.returned (.tuple #[.agg #[.int .i64 w,.bool tt,.bool tf],.int .i64 10])∧∃ y,w'=plus W y:=by
 have q:=t_Of pr0 pr0_sz pr0_wide (-1) (ofX 19 b [litX 1,litX 2]) (of_may b).2.1 W (pr0_in W) (ofX_in rfl (by decide) h rfl (fun x h=>by
   simp only [List.mem_cons,List.not_mem_nil,or_false] at h
   rcases h with rfl | rfl <;> exact leaf_in _ _ rfl rfl _)) (of_wt b).2.1 ⟨#[],W.drawn⟩
 have ht:=(of_ty b).2.1
 obtain⟨⟨R,⟨tw,tt,tf⟩⟩,hR⟩:∃ R,(ofX 19 b [litX 1,litX 2]).ty pr0 (-1)=R:=⟨_,rfl⟩
 rw [hR] at q ht
 obtain rfl:R=10:=ht
 rw [plus_self] at q
 exact⟨tw,tt,tf,q⟩
theorem known_bang (W:World) (b:Nat) (h:W.heap[b]?=some (.cells #[.int .u8 5,.int .i64 0,.int .u64 0,.int .u64 0,.string ⟨#[]⟩,.string ⟨#[]⟩,.int .i64 0,.int .i64 0,.slice none 0 0] 45)):∃ w tt tf,Calls Tryz.prog 16 #[.agg #[.slice none 0 0,.slice none 0 0,.slice none 0 0,.slice none 0 0,.slice none 0 0,.slice none 0 0,.slice none 0 0],.int .i64 (-1),.agg #[.int .u8 9,.int .i64 0,.int .u64 0,.int .u64 0,.string ⟨#[]⟩,.string ⟨#[]⟩,.int .i64 0,.int .i64 0,.slice (some ⟨b,0,none⟩) 1 1]] W fun e w'=>e=.returned (.tuple #[.agg #[.int .i64 w,.bool tt,.bool tf],.int .i64 9])∧∃ y,w'=plus W y:=by
 have q:=t_Of pr0 pr0_sz pr0_wide (-1) (ofX 9 b [portX]) (of_may b).2.2 W (pr0_in W) (ofX_in rfl (by decide) h rfl (fun x h=>by
   simp only [List.mem_cons,List.not_mem_nil,or_false] at h
   rcases h with rfl <;> exact leaf_in _ _ rfl rfl _)) (of_wt b).2.2 ⟨#[],W.drawn⟩
 have ht:=(of_ty b).2.2
 obtain⟨⟨R,⟨tw,tt,tf⟩⟩,hR⟩:∃ R,(ofX 9 b [portX]).ty pr0 (-1)=R:=⟨_,rfl⟩
 rw [hR] at q ht
 obtain rfl:R=9:=ht
 rw [plus_self] at q
 exact⟨tw,tt,tf,q⟩
end Go.Proofs.YtobhijbncchpiaaGreat
