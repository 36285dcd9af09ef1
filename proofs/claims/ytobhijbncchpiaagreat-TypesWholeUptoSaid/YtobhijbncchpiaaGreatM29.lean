/-
  WHAT IS PROVED HERE: a part of the proof (made narrower and merged by program; the parts: Dq).
-/
import Derived.Test.YtobhijbncchpiaaGreatM28
namespace Go.Proofs.YtobhijbncchpiaaGreat
open Go.RowKit Go.Shelf
abbrev Bx.add (S:Bx) (l:Nat):Bx:=⟨fun b=>S.f b∨b=l,S.base⟩
theorem Kr.add {S:Bx} {W W':World} (h:Kr S W W') (l:Nat):Kr (S.add l) W W':=by
 have up:∀ V b,S.s V b→(S.add l).s V b:=fun V b q=>by
  rcases q with q | q
  ·exact .inl (.inl q)
  ·exact .inr q
 refine h.mono up fun b q n=>?_
 rcases q with (q | q) | q
 ·exact absurd (.inl q) n
 ·exact .inl (.inl (.inr q))
 ·exact absurd (.inr q) n
/-- All cells stand; below a block all stands. -/
structure Ko (n:Nat) (W W':World):Prop where
 low:Below n W W'
 obj:∀ (b:Nat) (o:Obj),W.heap[b]?=some o→o.isCells=true→W'.heap[b]?=some o
theorem Ko.trans {n:Nat} {A B C:World} (h:Ko n A B) (k:Ko n B C):Ko n A C:=⟨h.low.trans k.low,fun b o q e=>k.obj b o (h.obj b o q e) e⟩
theorem Ko.alloc {n:Nat} {W:World} (h:n≤W.heap.size) (o:Obj):Ko n W (W.alloc o):=⟨(Below.refl n W).alloc h o,fun b _ q _=>(Below.heap_alloc W o b (Array.getElem?_eq_some_iff.1 q).1).trans q⟩
theorem Ko.plus {n:Nat} {W:World} (h:n≤W.heap.size) (y:Ext):Ko n W (Go.Proofs.YtobhijbncchpiaaGreat.plus W y):=⟨(below_plus W y).mono h,fun _ _ q _=>heap_plus q y⟩
theorem Ko.putObj {n:Nat} {W:World} {l:Nat} {o:Obj} (o':Obj) (h:W.heap[l]?=some o) (ho:o.isCells=false) (_:o'.isCells=false) (hl:n≤l):Ko n W (W.putObj l o'):=⟨⟨rfl,rfl,rfl,by simp,fun k hk=>World.putObj_heap_other (by omega)⟩,fun b o2 q e=>by
 by_cases c:b=l
 ·subst c;rw [h] at q;obtain rfl:=Option.some.inj q;rw [ho] at e;cases e
 ·exact (World.putObj_heap_other c).trans q⟩
theorem Ko.cell {n:Nat} {W W':World} (h:Ko n W W') {a:Addr} {v:Value} (hv:W.cell? a=some v):W'.cell? a=some v:=by
 have hlt:=World.block_lt_of_cell? W a hv
 have hg:=Array.getElem?_eq_getElem hlt
 cases hc:(W.heap[a.block]'hlt).isCells with
 | false=>rw [cell_of_no hg hc] at hv;cases hv
 | true=>exact (World.cell?_of_block ((h.obj _ _ hg hc).trans hg.symm)).trans hv
theorem Ko.kq {n:Nat} {W W':World} (h:Ko n W W'):Kq (fun b=>n≤b) W W':=⟨h.low.size,fun _ _ _ hv=>h.cell hv,fun _ _ hB=>h.low.mono (hB n (Nat.le_refl _))⟩
/-- How the body of a round may be left: it goes on; it returns. -/
def nextPostR (B:Nat) (S:Bx) (I:Nat→World→Prop) (Ix:World→Prop) (k:Nat) (W:World):Exit→Act→World→Prop
 | .normal,_,W'=>KeepsFrom B W W'∧Kr S W W'∧I (k+1) W'
 | .ret,_,W'=>KeepsFrom B W W'∧Ix W'
 | _,_,_=>False
theorem wpIn_rangeFunc_rows {P:Program} {g:Operand} {ps:Array Tmp} {assign body:Code} {Q:Exit→Act→World→Prop} {a:Act} {w:World}
  {gf:Nat} {lb:Array Value} (hg:a.eval g=.func (.func gf) #[] lb) (eg:∀ args w,(callFunc gf args).run P w=.ok (.enter gf args) w)
  {α:Type} (xs:List α) (encs:α→Value) (S:Bx)
  (hseq:∀ (l:Nat) (J Jx:Nat→World→Prop) (W:World),w.heap.size≤l→l < W.heap.size→(∀ T,Kr T w W)→Lays J→NextR P l encs xs (S.add l) J Jx→J 0 W→CallsIn Fence.wide 0 P gf (#[.func (.yield l) #[] #[]]++lb) W fun e W'=>(∃ v,e=.returned v)∧((J xs.length W'∧Kr (S.add l) W W')∨∃ i,Jx i W'))
  (hps:ps.size=1)
  (I:Nat→World→Prop) (Ix:World→Prop) (hI:∀ k W W',I k W→Ko w.heap.size W W'→I k W') (hIx:∀ W W',Ix W→Ko w.heap.size W W'→Ix W') (h0:I 0 w)
  (hround:∀ (l k:Nat) (x:α) (W:World),w.heap.size≤l→l < W.heap.size→xs[k]?=some x→I k W →
   assign.wpIn (Fence.wide.inRound l) 0 P (Exit.then (fun a' W'=>KeepsFrom w.heap.size W W'∧Kr S W W'∧∀ W2,Ko w.heap.size W' W2→W2.heap.size=W'.heap.size→body.wpIn (Fence.wide.inRound l) 0 P (nextPostR w.heap.size S I Ix k W2) a' W2) (fun _ _ _=>False))
    { tmps:=(ps.zip #[encs x]).foldl (fun t (p,v)=>t.setIfInBounds p v) a.tmps,defers:=[] } W)
  (hdone:∀ (D:Nat) (W:World),w.heap.size≤D→I xs.length W→W.heap[D]?=some (.deferred (some []))→Q .normal { a with defers:={ target:=.collected D,args:=#[] } :: a.defers } W)
  (hstop:∀ (D:Nat) (W:World),w.heap.size≤D→Ix W→W.heap[D]?=some (.deferred (some []))→Code.ret.wpIn Fence.wide 0 P Q { a with defers:={ target:=.collected D,args:=#[] } :: a.defers } W) :
  (Code.rangeFunc g ps assign body).wpIn Fence.wide 0 P Q a w:=by
 refine wpIn_rangeFunc ?_
 intro fn hfn
 rw [show Fence.wide.round=none from rfl]
 obtain⟨rec,hrec⟩:∃ rec:LoopState→Option Code→Loop,rec=fun st pe=>{ state:=st,pending:=pe,fn,tmps:=a.tmps,params:=ps,assign,body,defers:=w.heap.size }:=⟨_,rfl⟩
 obtain⟨W1,hW1⟩:∃ W1,(w.alloc (.deferred (some []))).alloc (.loop (rec .ready none))=W1:=⟨_,rfl⟩
 have hL1:W1.heap[w.heap.size+1]?=some (.loop (rec .ready none)):=by
  rw [← hW1];have:=World.alloc_heap_new (w.alloc (.deferred (some []))) (.loop (rec .ready none));rwa [World.size_alloc] at this
 have hK1:W1.heap[w.heap.size]?=some (.deferred (some [])):=by
  rw [← hW1];exact (Below.heap_alloc _ _ _ (by simp)).trans (World.alloc_heap_new w _)
 have hq1:∀ T,Kr T w W1:=fun T=>by rw [← hW1];exact (Kr.alloc T w _).trans (Kr.alloc T _ _)
 have ho1:Ko w.heap.size w W1:=by rw [← hW1];exact (Ko.alloc (Nat.le_refl _) _).trans (Ko.alloc (by simp) _)
 have hI1:I 0 W1:=hI 0 w W1 h0 ho1
 have hs1:W1.heap.size=w.heap.size+2:=by rw [← hW1];simp
 refine⟨w.heap.size+1,[{ target:=.collected w.heap.size,args:=#[] }],W1,{ target:=.fn (.func gf) lb,args:=#[.func (.yield (w.heap.size+1)) #[] #[]] },W1,gf,
  #[.func (.yield (w.heap.size+1)) #[] #[]]++lb,W1,?_,?_,?_,?_,hdd 0,?_⟩
 ·rw [← hW1,hrec];exact run_enterLoop_outer _ _ _ _ _
 ·simp only [resolve,hg]
  simp [go_sem]
 ·intro f' hf';trivial
 ·simp [invoke,go_sem,eg]
 ·refine (hseq (w.heap.size+1)
   (fun k W=>I k W∧W.heap[w.heap.size+1]?=some (.loop (rec .ready none))∧W.heap[w.heap.size]?=some (.deferred (some [])))
   (fun _ W=>Ix W∧W.heap[w.heap.size+1]?=some (.loop (rec .done (some .ret)))∧W.heap[w.heap.size]?=some (.deferred (some [])))
   W1 (by omega) (by omega) hq1 (fun k W y h=>⟨hI k W _ h.1 (Ko.plus (Nat.le_of_lt (Nat.lt_of_succ_lt (Array.getElem?_eq_some_iff.1 h.2.1).1)) y),heap_plus h.2.1 y,heap_plus h.2.2 y⟩) ?_ ⟨hI1,hL1,hK1⟩).mono ?_
  ·rintro k x W hx ⟨hi,hl,hk⟩
   have hlt:w.heap.size+1 < W.heap.size:=(Array.getElem?_eq_some_iff.1 hl).1
   have hy:=run_yield (P:=P) (args:=#[encs x]) hl (by rw [hrec];exact hps.symm)
   rw [hrec] at hy
   refine⟨fn,_,assign,body,hy,roundIn_of_wpIn hfn (wpIn_mono (hround _ k x W (by omega) hlt hx hi) ?_)⟩
   clear hy
   rintro e a' Wa hp
   cases e with
   | normal =>
    obtain⟨hkfa,hkpa,hbody⟩:=hp
    have hl':=hkfa.same _ _ (by omega) hl rfl
    have hk':=hkfa.same _ _ (Nat.le_refl _) hk rfl
    have hlt':w.heap.size+1 < Wa.heap.size:=(Array.getElem?_eq_some_iff.1 hl').1
    refine⟨_,run_beginRound hl' (by rw [hrec]),?_⟩
    have hl2:(Wa.putObj (w.heap.size+1) (.loop { rec .ready none with state:=.busy })).heap[w.heap.size+1]?=some (.loop { rec .ready none with state:=.busy }):=World.putObj_heap_same hlt'
    have hk2:(Wa.putObj (w.heap.size+1) (.loop { rec .ready none with state:=.busy })).heap[w.heap.size]?=some (.deferred (some [])):=(World.putObj_heap_other (by omega)).trans hk'
    have hw2:∀ T:Bx,T.f (w.heap.size+1)→Kr T Wa (Wa.putObj (w.heap.size+1) (.loop { rec .ready none with state:=.busy })):=fun T ht=>Kr.putObj _ hl' ht
    refine wpIn_mono (hbody _ (Ko.putObj _ hl' rfl rfl (Nat.le_succ _)) (by simp)) ?_
    have fin:∀ (jump:Option Code) (W3:World),KeepsFrom w.heap.size (Wa.putObj (w.heap.size+1) (.loop { rec .ready none with state:=.busy })) W3 →
      (Instr.endRound (w.heap.size+1) jump).run P W3=.ok (.bool jump.isNone) (W3.putObj (w.heap.size+1) (.loop (rec (if jump.isNone then .ready else .done) jump))) ∧
      W3.heap[w.heap.size+1]?=some (.loop { rec .ready none with state:=.busy }) ∧
      (W3.putObj (w.heap.size+1) (.loop (rec (if jump.isNone then .ready else .done) jump))).heap[w.heap.size+1]?=some (.loop (rec (if jump.isNone then .ready else .done) jump)) ∧
      (W3.putObj (w.heap.size+1) (.loop (rec (if jump.isNone then .ready else .done) jump))).heap[w.heap.size]?=some (.deferred (some [])):=fun jump W3 hk3=>by
     have hl3:=hk3.same _ _ (by omega) hl2 rfl
     have:=run_endRound (P:=P) jump hl3
     rw [hrec] at this ⊢
     exact⟨this,by rw [hrec] at hl3;exact hl3,World.putObj_heap_same (Array.getElem?_eq_some_iff.1 hl3).1,(World.putObj_heap_other (by omega)).trans (hk3.same _ _ (Nat.le_refl _) hk2 rfl)⟩
    rintro e a3 W3 hp
    cases e with
    | normal =>
     obtain⟨hk3,hkp3,hi3⟩:=hp
     obtain⟨hr,hl3,hl4,hk4⟩:=fin none W3 hk3
     exact⟨_,_,hr,.inl ⟨rfl,⟨hI _ _ _ hi3 (Ko.putObj _ hl3 rfl rfl (Nat.le_succ _)),hl4,hk4⟩,((hkpa.add _).trans ((hw2 (S.add (w.heap.size+1)) (Or.inr rfl)).trans (hkp3.add _))).trans (Kr.putObj (S:=S.add (w.heap.size+1)) _ hl3 (Or.inr rfl))⟩⟩
    | ret =>
     obtain⟨hk3,hi3⟩:=hp
     obtain⟨hr,hl3,hl4,hk4⟩:=fin (some .ret) W3 hk3
     exact⟨_,_,hr,.inr ⟨rfl,k,hIx _ _ hi3 (Ko.putObj _ hl3 rfl rfl (Nat.le_succ _)),hl4,hk4⟩⟩
    | exit id=>exact hp.elim
    | goto t=>exact hp.elim
    | panic ch=>exact hp.elim
    | outgrown=>exact hp.elim
   | ret=>exact hp.elim
   | exit id=>exact hp.elim
   | goto t=>exact hp.elim
   | panic ch=>exact hp.elim
   | outgrown=>exact hp.elim
  ·rintro e W2 ⟨⟨v,rfl⟩,(⟨⟨hi,hl,hk⟩,_⟩ | ⟨_,hi,hl,hk⟩)⟩
   ·exact⟨none,_,by have:=run_endLoop (P:=P) hl (by rw [hrec];simp);rw [hrec] at this;exact this,hdone _ _ (Nat.le_refl _) (hI _ _ _ hi (Ko.putObj _ hl rfl rfl (Nat.le_succ _))) ((World.putObj_heap_other (by omega)).trans hk)⟩
   ·exact⟨some .ret,_,by have:=run_endLoop (P:=P) hl (by rw [hrec];simp);rw [hrec] at this;exact this,hstop _ _ (Nat.le_refl _) (hIx _ _ hi (Ko.putObj _ hl rfl rfl (Nat.le_succ _))) ((World.putObj_heap_other (by omega)).trans hk)⟩
end Go.Proofs.YtobhijbncchpiaaGreat
