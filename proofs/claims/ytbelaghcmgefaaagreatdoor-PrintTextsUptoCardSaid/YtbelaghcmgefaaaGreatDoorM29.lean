/-
  WHAT IS PROVED HERE: a part of the proof (made narrower and merged by program; the parts: Pd).
-/
import Derived.Test.YtbelaghcmgefaaaGreatDoorRows
import Derived.WalkKit
import Derived.Lib.Hide
import Derived.WalkSpells
import Derived.WalkLawsBesides
import Derived.Laws.EntriesVeiled
import Derived.Test.YtbelaghcmgefaaaGreatDoorM28
namespace Go.Proofs.YtbelaghcmgefaaaGreatDoor
open Go.RowKit
set_option maxHeartbeats 4000000 in
set_option maxRecDepth 100000 in
theorem prow_Expr {α:Type} (cells:α → List Value) (hC:∀ x,shp_Expr (cells x)) (f:α → List UInt8) (g:FuncId) (K:α → Prop) (w0:World) (b m1 m2:Nat) (e1 e2:Array MapEntry) (d:Int) (A:Sl α) (hA:A.In w0 9 cells K) (hl:A.l.length ≤ 1048576)
  (hent:∀ args w,(callFunc g args).run Tryz.prog w = .ok (.enter g args) w)
  (hf:∀ x ∈ A.l,Wm w0 b m1 m2 e1 e2 g (.agg (cells x).toArray) (f x) d)
  (t:List UInt8) (v:World) (h:Wr w0 b m1 m2 e1 e2 t d v) (hlen:t.length + (rowB f A.l).length ≤ 140737488355328) :
  Calls Tryz.prog 150 #[.pointer (some ⟨b,0,none⟩),A.v,.func (.func g) #[.pointer (some ⟨b,0,none⟩)] #[]] v fun e v'=>e = .returned (.tuple #[]) ∧ Wr w0 b m1 m2 e1 e2 (t++rowB f A.l) d v' ∧ Fr b v v':=by
 obtain ⟨p,cap,l⟩:=A
 simp only [Sl.v] at hl hf hlen ⊢
 have hA:=hA.row
 simp only at hA
 obtain ⟨n,hn⟩:∃ n,l.length = n:=⟨_,rfl⟩
 rw [hn] at hl ⊢
 have hA':=Lib.hid hA
 have hn':=Lib.hid hn
 have hl':=Lib.hid hl
 have hf':=Lib.hid hf
 have h':=Lib.hid h
 have hlen':=Lib.hid hlen
 have hC':=Lib.hid hC
 clear hA hn hl hf h hlen hC
 go_enter Tryz.func150,Tryz.ntmps150
 go_wp2
 go_loopw [6,7,10] (fun _ _ iv wr=>∃ k:Nat,k ≤ n ∧ iv = .int .i64 (k:Int) ∧ Hid (Wr w0 b m1 m2 e1 e2 (t++rowB f (l.take k)) d wr) ∧ Hid (Fr b v wr)) (fun _ _ iv _=>n - (intOf iv).toNat)
 case atStart=>exact ⟨0,Nat.zero_le _,rfl,Lib.hid (by simpa [rowB] using h'.out),Lib.hid (Fr.refl b v)⟩
 case round =>
  obtain ⟨k,hk,rfl,hw,hfr⟩:=hrel
  by_cases hlt:k < n
  ·obtain ⟨a,ha⟩:∃ s,l[k]? = some s:=⟨l[k]'(by rw [hn'.out];exact hlt),List.getElem?_eq_getElem _⟩
   obtain ⟨pa,rfl,hc⟩:=row_over hA'.out hw.out k a ha
   have hmem:=List.mem_of_getElem? ha
   have a6:=Lib.hid (wr_succ k n hlt hl'.out)
   have x1:=rowB_take_le f l (k + 1)
   have hb0:=hw.out.lt
   obtain ⟨c0,c1,c2,c3,c4,c5,c6,c7,c8p,c8n,c8c,ea⟩:=hC'.out a
   have d0:=hc.c0 _ (by rw [ea];rfl)
   have d1:=hc.cs 0 _ (by rw [ea];rfl)
   have d2:=hc.cs 1 _ (by rw [ea];rfl)
   have d3:=hc.cs 2 _ (by rw [ea];rfl)
   have d4:=hc.cs 3 _ (by rw [ea];rfl)
   have d5:=hc.cs 4 _ (by rw [ea];rfl)
   have d6:=hc.cs 5 _ (by rw [ea];rfl)
   have d7:=hc.cs 6 _ (by rw [ea];rfl)
   have d8:=hc.cs 7 _ (by rw [ea];rfl)
   by_cases hk0:(0:Int) < (k:Int)
   case neg =>
    obtain rfl:k = 0:=by omega
    have x0:=rowB_first f l a ha
    have q:=hf'.out a hmem _ (wr.alloc (.cells #[.int .u8 c0,.int .i64 c1,.int .u64 c2,.int .u64 c3,.string c4,.string c5,.int .i64 c6,.int .i64 c7,.slice c8p c8n c8c] 29)) (hw.out.alloc _) (by
     have:=hlen'.out
     rw [x0] at x1
     simp only [List.take_zero,rowB,List.length_append,List.length_nil]
     omega)
    have hc0:CellsAt wr pa (cells a):=hc
    have d0:=hc0.c0 _ (by rw [ea];rfl)
    have d1:=hc0.cs 0 _ (by rw [ea];rfl)
    have d2:=hc0.cs 1 _ (by rw [ea];rfl)
    have d3:=hc0.cs 2 _ (by rw [ea];rfl)
    have d4:=hc0.cs 3 _ (by rw [ea];rfl)
    have d5:=hc0.cs 4 _ (by rw [ea];rfl)
    have d6:=hc0.cs 5 _ (by rw [ea];rfl)
    have d7:=hc0.cs 6 _ (by rw [ea];rfl)
    have d8:=hc0.cs 7 _ (by rw [ea];rfl)
    rw [ea] at q
    have q':=Lib.hid q
    have x0':=Lib.hid x0
    clear q hc hc0 x0 x1 ha hmem ea hk0
    go_wp2_with (refine q'.out.mono ?_;rintro e w' ⟨rfl,hw',hf'⟩)
    go_roundw
    case rel=>exact ⟨0 + 1,hlt,rfl,Lib.hid (by rw [x0'.out];simpa [rowB] using hw'),Lib.hid (hfr.out.trans ((Fr.alloc b wr _).trans hf'))⟩
    case measure=>exact Nat.sub_lt_sub_left hlt (Nat.lt_succ_self 0)
   case pos =>
    have x0:=rowB_take f l k (by omega) a ha
    have hB:t.length + (rowB f (l.take k)).length + (2 + (f a).length) ≤ 140737488355328:=by
     have:=hlen'.out
     rw [x0] at x1
     simp only [List.length_append,List.length_cons,List.length_nil] at x1
     omega
    have q0:=put_new w0 b m1 m2 e1 e2 (t++rowB f (l.take k)) d [⟨#[44,32]⟩] (wr.alloc (.cells #[.int .u8 c0,.int .i64 c1,.int .u64 c2,.int .u64 c3,.string c4,.string c5,.int .i64 c6,.int .i64 c7,.slice c8p c8n c8c] 29)) (hw.out.alloc _) (by simp) (by
     have e3:(catB [⟨#[44,32]⟩]).length = 2:=rfl
     rw [e3,List.length_append]
     omega)
    rw [show (wr.alloc (.cells #[.int .u8 c0,.int .i64 c1,.int .u64 c2,.int .u64 c3,.string c4,.string c5,.int .i64 c6,.int .i64 c7,.slice c8p c8n c8c] 29)).heap.size = wr.heap.size + 1 by simp] at q0
    have q0:=Lib.hid q0
    have hk1:(wr.alloc (.cells #[.int .u8 c0,.int .i64 c1,.int .u64 c2,.int .u64 c3,.string c4,.string c5,.int .i64 c6,.int .i64 c7,.slice c8p c8n c8c] 29)).heap[wr.heap.size]? = some (.cells #[.int .u8 c0,.int .i64 c1,.int .u64 c2,.int .u64 c3,.string c4,.string c5,.int .i64 c6,.int .i64 c7,.slice c8p c8n c8c] 29):=alloc_new wr _
    have hk1':=Lib.hid hk1
    have hne:wr.heap.size ≠ b:=by omega
    have hne':=Lib.hid hne
    have hq:=Lib.hid (fun u (hu:Wr w0 b m1 m2 e1 e2 (t++rowB f (l.take k)++catB [⟨#[44,32]⟩]) d u)=>hf'.out a hmem (t++rowB f (l.take k)++catB [⟨#[44,32]⟩]) u hu (by
     have e3:(catB [⟨#[44,32]⟩]).length = 2:=rfl
     simp only [List.length_append,e3]
     omega))
    have x0':=Lib.hid x0
    have ea':=Lib.hid ea
    clear hc x0 x1 ha hmem ea hB hk1 hne hb0
    go_wp2_with fail
    refine q0.out.mono ?_
    rintro e u ⟨rfl,hu,fu⟩
    have hk2:=fu.keep _ _ hk1'.out hne'.out (fun cs fr e=>by
     have:=congrArg (fun o=>match o with | Obj.cells _ T _=>T | _=>0) e
     exact absurd this (show ¬ (29:TypeId) = 5 by decide))
    have y0:u.cell? ⟨wr.heap.size,0,none⟩ = some (.int .u8 c0):=ch hk2
    have y1:u.cell? ⟨wr.heap.size,1,none⟩ = some (.int .i64 c1):=ch hk2
    have y2:u.cell? ⟨wr.heap.size,2,none⟩ = some (.int .u64 c2):=ch hk2
    have y3:u.cell? ⟨wr.heap.size,3,none⟩ = some (.int .u64 c3):=ch hk2
    have y4:u.cell? ⟨wr.heap.size,4,none⟩ = some (.string c4):=ch hk2
    have y5:u.cell? ⟨wr.heap.size,5,none⟩ = some (.string c5):=ch hk2
    have y6:u.cell? ⟨wr.heap.size,6,none⟩ = some (.int .i64 c6):=ch hk2
    have y7:u.cell? ⟨wr.heap.size,7,none⟩ = some (.int .i64 c7):=ch hk2
    have y8:u.cell? ⟨wr.heap.size,8,none⟩ = some (.slice c8p c8n c8c):=ch hk2
    have q:=hq.out u hu
    rw [ea'.out] at q
    have q':=Lib.hid q
    have fu':=Lib.hid fu
    clear q hq fu hk2 hu
    go_wp2_with (refine q'.out.mono ?_;rintro e w' ⟨rfl,hw',hf'⟩)
    go_roundw
    case rel=>exact ⟨k + 1,hlt,congrArg (Value.int .i64) a6.out,Lib.hid (by rw [x0'.out];simpa [catB] using hw'),Lib.hid (hfr.out.trans ((Fr.alloc b wr _).trans (fu'.out.trans hf')))⟩
    case measure=>exact step_less k n hlt a6.out
  ·obtain rfl:n = k:=by omega
   have hw2:=Lib.hid (show Wr w0 b m1 m2 e1 e2 (t++rowB f l) d wr by
    have:=hw.out
    rwa [List.take_of_length_le (show l.length ≤ n by rw [hn'.out];exact Nat.le_refl _)] at this)
   clear hw hlt hk
   go_wp2
   go_end0
   exact ⟨rfl,hw2.out,hfr.out⟩
set_option maxHeartbeats 4000000 in
set_option maxRecDepth 100000 in
theorem prow_Set {α:Type} (cells:α → List Value) (hC:∀ x,shp_Set (cells x)) (f:α → List UInt8) (g:FuncId) (K:α → Prop) (w0:World) (b m1 m2:Nat) (e1 e2:Array MapEntry) (d:Int) (A:Sl α) (hA:A.In w0 7 cells K) (hl:A.l.length ≤ 1048576)
  (hent:∀ args w,(callFunc g args).run Tryz.prog w = .ok (.enter g args) w)
  (hf:∀ x ∈ A.l,Wm w0 b m1 m2 e1 e2 g (.agg (cells x).toArray) (f x) d)
  (t:List UInt8) (v:World) (h:Wr w0 b m1 m2 e1 e2 t d v) (hlen:t.length + (rowB f A.l).length ≤ 140737488355328) :
  Calls Tryz.prog 168 #[.pointer (some ⟨b,0,none⟩),A.v,.func (.func g) #[.pointer (some ⟨b,0,none⟩)] #[]] v fun e v'=>e = .returned (.tuple #[]) ∧ Wr w0 b m1 m2 e1 e2 (t++rowB f A.l) d v' ∧ Fr b v v':=by
 obtain ⟨p,cap,l⟩:=A
 simp only [Sl.v] at hl hf hlen ⊢
 have hA:=hA.row
 simp only at hA
 obtain ⟨n,hn⟩:∃ n,l.length = n:=⟨_,rfl⟩
 rw [hn] at hl ⊢
 have hA':=Lib.hid hA
 have hn':=Lib.hid hn
 have hl':=Lib.hid hl
 have hf':=Lib.hid hf
 have h':=Lib.hid h
 have hlen':=Lib.hid hlen
 have hC':=Lib.hid hC
 clear hA hn hl hf h hlen hC
 go_enter Tryz.func168,Tryz.ntmps168
 go_wp2
 go_loopw [6,7,10] (fun _ _ iv wr=>∃ k:Nat,k ≤ n ∧ iv = .int .i64 (k:Int) ∧ Hid (Wr w0 b m1 m2 e1 e2 (t++rowB f (l.take k)) d wr) ∧ Hid (Fr b v wr)) (fun _ _ iv _=>n - (intOf iv).toNat)
 case atStart=>exact ⟨0,Nat.zero_le _,rfl,Lib.hid (by simpa [rowB] using h'.out),Lib.hid (Fr.refl b v)⟩
 case round =>
  obtain ⟨k,hk,rfl,hw,hfr⟩:=hrel
  by_cases hlt:k < n
  ·obtain ⟨a,ha⟩:∃ s,l[k]? = some s:=⟨l[k]'(by rw [hn'.out];exact hlt),List.getElem?_eq_getElem _⟩
   obtain ⟨pa,rfl,hc⟩:=row_over hA'.out hw.out k a ha
   have hmem:=List.mem_of_getElem? ha
   have a6:=Lib.hid (wr_succ k n hlt hl'.out)
   have x1:=rowB_take_le f l (k + 1)
   have hb0:=hw.out.lt
   obtain ⟨c0,c1,c2,c3,c4,c5,c6,ea⟩:=hC'.out a
   have d0:=hc.c0 _ (by rw [ea];rfl)
   have d1:=hc.cs 0 _ (by rw [ea];rfl)
   have d2:=hc.cs 1 _ (by rw [ea];rfl)
   have d3:=hc.cs 2 _ (by rw [ea];rfl)
   have d4:=hc.cs 3 _ (by rw [ea];rfl)
   have d5:=hc.cs 4 _ (by rw [ea];rfl)
   have d6:=hc.cs 5 _ (by rw [ea];rfl)
   by_cases hk0:(0:Int) < (k:Int)
   case neg =>
    obtain rfl:k = 0:=by omega
    have x0:=rowB_first f l a ha
    have q:=hf'.out a hmem _ (wr.alloc (.cells #[.int .u8 c0,.int .i64 c1,.int .u64 c2,.int .u64 c3,.int .i64 c4,.int .u64 c5,.int .u64 c6] 141)) (hw.out.alloc _) (by
     have:=hlen'.out
     rw [x0] at x1
     simp only [List.take_zero,rowB,List.length_append,List.length_nil]
     omega)
    have hc0:CellsAt wr pa (cells a):=hc
    have d0:=hc0.c0 _ (by rw [ea];rfl)
    have d1:=hc0.cs 0 _ (by rw [ea];rfl)
    have d2:=hc0.cs 1 _ (by rw [ea];rfl)
    have d3:=hc0.cs 2 _ (by rw [ea];rfl)
    have d4:=hc0.cs 3 _ (by rw [ea];rfl)
    have d5:=hc0.cs 4 _ (by rw [ea];rfl)
    have d6:=hc0.cs 5 _ (by rw [ea];rfl)
    rw [ea] at q
    have q':=Lib.hid q
    have x0':=Lib.hid x0
    clear q hc hc0 x0 x1 ha hmem ea hk0
    go_wp2_with (refine q'.out.mono ?_;rintro e w' ⟨rfl,hw',hf'⟩)
    go_roundw
    case rel=>exact ⟨0 + 1,hlt,rfl,Lib.hid (by rw [x0'.out];simpa [rowB] using hw'),Lib.hid (hfr.out.trans ((Fr.alloc b wr _).trans hf'))⟩
    case measure=>exact Nat.sub_lt_sub_left hlt (Nat.lt_succ_self 0)
   case pos =>
    have x0:=rowB_take f l k (by omega) a ha
    have hB:t.length + (rowB f (l.take k)).length + (2 + (f a).length) ≤ 140737488355328:=by
     have:=hlen'.out
     rw [x0] at x1
     simp only [List.length_append,List.length_cons,List.length_nil] at x1
     omega
    have q0:=put_new w0 b m1 m2 e1 e2 (t++rowB f (l.take k)) d [⟨#[44,32]⟩] (wr.alloc (.cells #[.int .u8 c0,.int .i64 c1,.int .u64 c2,.int .u64 c3,.int .i64 c4,.int .u64 c5,.int .u64 c6] 141)) (hw.out.alloc _) (by simp) (by
     have e3:(catB [⟨#[44,32]⟩]).length = 2:=rfl
     rw [e3,List.length_append]
     omega)
    rw [show (wr.alloc (.cells #[.int .u8 c0,.int .i64 c1,.int .u64 c2,.int .u64 c3,.int .i64 c4,.int .u64 c5,.int .u64 c6] 141)).heap.size = wr.heap.size + 1 by simp] at q0
    have q0:=Lib.hid q0
    have hk1:(wr.alloc (.cells #[.int .u8 c0,.int .i64 c1,.int .u64 c2,.int .u64 c3,.int .i64 c4,.int .u64 c5,.int .u64 c6] 141)).heap[wr.heap.size]? = some (.cells #[.int .u8 c0,.int .i64 c1,.int .u64 c2,.int .u64 c3,.int .i64 c4,.int .u64 c5,.int .u64 c6] 141):=alloc_new wr _
    have hk1':=Lib.hid hk1
    have hne:wr.heap.size ≠ b:=by omega
    have hne':=Lib.hid hne
    have hq:=Lib.hid (fun u (hu:Wr w0 b m1 m2 e1 e2 (t++rowB f (l.take k)++catB [⟨#[44,32]⟩]) d u)=>hf'.out a hmem (t++rowB f (l.take k)++catB [⟨#[44,32]⟩]) u hu (by
     have e3:(catB [⟨#[44,32]⟩]).length = 2:=rfl
     simp only [List.length_append,e3]
     omega))
    have x0':=Lib.hid x0
    have ea':=Lib.hid ea
    clear hc x0 x1 ha hmem ea hB hk1 hne hb0
    go_wp2_with fail
    refine q0.out.mono ?_
    rintro e u ⟨rfl,hu,fu⟩
    have hk2:=fu.keep _ _ hk1'.out hne'.out (fun cs fr e=>by
     have:=congrArg (fun o=>match o with | Obj.cells _ T _=>T | _=>0) e
     exact absurd this (show ¬ (141:TypeId) = 5 by decide))
    have y0:u.cell? ⟨wr.heap.size,0,none⟩ = some (.int .u8 c0):=ch hk2
    have y1:u.cell? ⟨wr.heap.size,1,none⟩ = some (.int .i64 c1):=ch hk2
    have y2:u.cell? ⟨wr.heap.size,2,none⟩ = some (.int .u64 c2):=ch hk2
    have y3:u.cell? ⟨wr.heap.size,3,none⟩ = some (.int .u64 c3):=ch hk2
    have y4:u.cell? ⟨wr.heap.size,4,none⟩ = some (.int .i64 c4):=ch hk2
    have y5:u.cell? ⟨wr.heap.size,5,none⟩ = some (.int .u64 c5):=ch hk2
    have y6:u.cell? ⟨wr.heap.size,6,none⟩ = some (.int .u64 c6):=ch hk2
    have q:=hq.out u hu
    rw [ea'.out] at q
    have q':=Lib.hid q
    have fu':=Lib.hid fu
    clear q hq fu hk2 hu
    go_wp2_with (refine q'.out.mono ?_;rintro e w' ⟨rfl,hw',hf'⟩)
    go_roundw
    case rel=>exact ⟨k + 1,hlt,congrArg (Value.int .i64) a6.out,Lib.hid (by rw [x0'.out];simpa [catB] using hw'),Lib.hid (hfr.out.trans ((Fr.alloc b wr _).trans (fu'.out.trans hf')))⟩
    case measure=>exact step_less k n hlt a6.out
  ·obtain rfl:n = k:=by omega
   have hw2:=Lib.hid (show Wr w0 b m1 m2 e1 e2 (t++rowB f l) d wr by
    have:=hw.out
    rwa [List.take_of_length_le (show l.length ≤ n by rw [hn'.out];exact Nat.le_refl _)] at this)
   clear hw hlt hk
   go_wp2
   go_end0
   exact ⟨rfl,hw2.out,hfr.out⟩
set_option maxHeartbeats 4000000 in
set_option maxRecDepth 100000 in
theorem prow_Field {α:Type} (cells:α → List Value) (hC:∀ x,shp_Field (cells x)) (f:α → List UInt8) (g:FuncId) (K:α → Prop) (w0:World) (b m1 m2:Nat) (e1 e2:Array MapEntry) (d:Int) (A:Sl α) (hA:A.In w0 2 cells K) (hl:A.l.length ≤ 1048576)
  (hent:∀ args w,(callFunc g args).run Tryz.prog w = .ok (.enter g args) w)
  (hf:∀ x ∈ A.l,Wm w0 b m1 m2 e1 e2 g (.agg (cells x).toArray) (f x) d)
  (t:List UInt8) (v:World) (h:Wr w0 b m1 m2 e1 e2 t d v) (hlen:t.length + (rowB f A.l).length ≤ 140737488355328) :
  Calls Tryz.prog 117 #[.pointer (some ⟨b,0,none⟩),A.v,.func (.func g) #[.pointer (some ⟨b,0,none⟩)] #[]] v fun e v'=>e = .returned (.tuple #[]) ∧ Wr w0 b m1 m2 e1 e2 (t++rowB f A.l) d v' ∧ Fr b v v':=by
 obtain ⟨p,cap,l⟩:=A
 simp only [Sl.v] at hl hf hlen ⊢
 have hA:=hA.row
 simp only at hA
 obtain ⟨n,hn⟩:∃ n,l.length = n:=⟨_,rfl⟩
 rw [hn] at hl ⊢
 have hA':=Lib.hid hA
 have hn':=Lib.hid hn
 have hl':=Lib.hid hl
 have hf':=Lib.hid hf
 have h':=Lib.hid h
 have hlen':=Lib.hid hlen
 have hC':=Lib.hid hC
 clear hA hn hl hf h hlen hC
 go_enter Tryz.func117,Tryz.ntmps117
 go_wp2
 go_loopw [6,7,10] (fun _ _ iv wr=>∃ k:Nat,k ≤ n ∧ iv = .int .i64 (k:Int) ∧ Hid (Wr w0 b m1 m2 e1 e2 (t++rowB f (l.take k)) d wr) ∧ Hid (Fr b v wr)) (fun _ _ iv _=>n - (intOf iv).toNat)
 case atStart=>exact ⟨0,Nat.zero_le _,rfl,Lib.hid (by simpa [rowB] using h'.out),Lib.hid (Fr.refl b v)⟩
 case round =>
  obtain ⟨k,hk,rfl,hw,hfr⟩:=hrel
  by_cases hlt:k < n
  ·obtain ⟨a,ha⟩:∃ s,l[k]? = some s:=⟨l[k]'(by rw [hn'.out];exact hlt),List.getElem?_eq_getElem _⟩
   obtain ⟨pa,rfl,hc⟩:=row_over hA'.out hw.out k a ha
   have hmem:=List.mem_of_getElem? ha
   have a6:=Lib.hid (wr_succ k n hlt hl'.out)
   have x1:=rowB_take_le f l (k + 1)
   have hb0:=hw.out.lt
   obtain ⟨c0,c1,ea⟩:=hC'.out a
   have d0:=hc.c0 _ (by rw [ea];rfl)
   have d1:=hc.cs 0 _ (by rw [ea];rfl)
   by_cases hk0:(0:Int) < (k:Int)
   case neg =>
    obtain rfl:k = 0:=by omega
    have x0:=rowB_first f l a ha
    have q:=hf'.out a hmem _ (wr.alloc (.cells #[.string c0,.int .i64 c1] 88)) (hw.out.alloc _) (by
     have:=hlen'.out
     rw [x0] at x1
     simp only [List.take_zero,rowB,List.length_append,List.length_nil]
     omega)
    have hc0:CellsAt wr pa (cells a):=hc
    have d0:=hc0.c0 _ (by rw [ea];rfl)
    have d1:=hc0.cs 0 _ (by rw [ea];rfl)
    rw [ea] at q
    have q':=Lib.hid q
    have x0':=Lib.hid x0
    clear q hc hc0 x0 x1 ha hmem ea hk0
    go_wp2_with (refine q'.out.mono ?_;rintro e w' ⟨rfl,hw',hf'⟩)
    go_roundw
    case rel=>exact ⟨0 + 1,hlt,rfl,Lib.hid (by rw [x0'.out];simpa [rowB] using hw'),Lib.hid (hfr.out.trans ((Fr.alloc b wr _).trans hf'))⟩
    case measure=>exact Nat.sub_lt_sub_left hlt (Nat.lt_succ_self 0)
   case pos =>
    have x0:=rowB_take f l k (by omega) a ha
    have hB:t.length + (rowB f (l.take k)).length + (2 + (f a).length) ≤ 140737488355328:=by
     have:=hlen'.out
     rw [x0] at x1
     simp only [List.length_append,List.length_cons,List.length_nil] at x1
     omega
    have q0:=put_new w0 b m1 m2 e1 e2 (t++rowB f (l.take k)) d [⟨#[44,32]⟩] (wr.alloc (.cells #[.string c0,.int .i64 c1] 88)) (hw.out.alloc _) (by simp) (by
     have e3:(catB [⟨#[44,32]⟩]).length = 2:=rfl
     rw [e3,List.length_append]
     omega)
    rw [show (wr.alloc (.cells #[.string c0,.int .i64 c1] 88)).heap.size = wr.heap.size + 1 by simp] at q0
    have q0:=Lib.hid q0
    have hk1:(wr.alloc (.cells #[.string c0,.int .i64 c1] 88)).heap[wr.heap.size]? = some (.cells #[.string c0,.int .i64 c1] 88):=alloc_new wr _
    have hk1':=Lib.hid hk1
    have hne:wr.heap.size ≠ b:=by omega
    have hne':=Lib.hid hne
    have hq:=Lib.hid (fun u (hu:Wr w0 b m1 m2 e1 e2 (t++rowB f (l.take k)++catB [⟨#[44,32]⟩]) d u)=>hf'.out a hmem (t++rowB f (l.take k)++catB [⟨#[44,32]⟩]) u hu (by
     have e3:(catB [⟨#[44,32]⟩]).length = 2:=rfl
     simp only [List.length_append,e3]
     omega))
    have x0':=Lib.hid x0
    have ea':=Lib.hid ea
    clear hc x0 x1 ha hmem ea hB hk1 hne hb0
    go_wp2_with fail
    refine q0.out.mono ?_
    rintro e u ⟨rfl,hu,fu⟩
    have hk2:=fu.keep _ _ hk1'.out hne'.out (fun cs fr e=>by
     have:=congrArg (fun o=>match o with | Obj.cells _ T _=>T | _=>0) e
     exact absurd this (show ¬ (88:TypeId) = 5 by decide))
    have y0:u.cell? ⟨wr.heap.size,0,none⟩ = some (.string c0):=ch hk2
    have y1:u.cell? ⟨wr.heap.size,1,none⟩ = some (.int .i64 c1):=ch hk2
    have q:=hq.out u hu
    rw [ea'.out] at q
    have q':=Lib.hid q
    have fu':=Lib.hid fu
    clear q hq fu hk2 hu
    go_wp2_with (refine q'.out.mono ?_;rintro e w' ⟨rfl,hw',hf'⟩)
    go_roundw
    case rel=>exact ⟨k + 1,hlt,congrArg (Value.int .i64) a6.out,Lib.hid (by rw [x0'.out];simpa [catB] using hw'),Lib.hid (hfr.out.trans ((Fr.alloc b wr _).trans (fu'.out.trans hf')))⟩
    case measure=>exact step_less k n hlt a6.out
  ·obtain rfl:n = k:=by omega
   have hw2:=Lib.hid (show Wr w0 b m1 m2 e1 e2 (t++rowB f l) d wr by
    have:=hw.out
    rwa [List.take_of_length_le (show l.length ≤ n by rw [hn'.out];exact Nat.le_refl _)] at this)
   clear hw hlt hk
   go_wp2
   go_end0
   exact ⟨rfl,hw2.out,hfr.out⟩
set_option maxHeartbeats 4000000 in
set_option maxRecDepth 100000 in
theorem prow_Lit {α:Type} (cells:α → List Value) (hC:∀ x,shp_Lit (cells x)) (f:α → List UInt8) (g:FuncId) (K:α → Prop) (w0:World) (b m1 m2:Nat) (e1 e2:Array MapEntry) (d:Int) (A:Sl α) (hA:A.In w0 3 cells K) (hl:A.l.length ≤ 1048576)
  (hent:∀ args w,(callFunc g args).run Tryz.prog w = .ok (.enter g args) w)
  (hf:∀ x ∈ A.l,Wm w0 b m1 m2 e1 e2 g (.agg (cells x).toArray) (f x) d)
  (t:List UInt8) (v:World) (h:Wr w0 b m1 m2 e1 e2 t d v) (hlen:t.length + (rowB f A.l).length ≤ 140737488355328) :
  Calls Tryz.prog 121 #[.pointer (some ⟨b,0,none⟩),A.v,.func (.func g) #[.pointer (some ⟨b,0,none⟩)] #[]] v fun e v'=>e = .returned (.tuple #[]) ∧ Wr w0 b m1 m2 e1 e2 (t++rowB f A.l) d v' ∧ Fr b v v':=by
 obtain ⟨p,cap,l⟩:=A
 simp only [Sl.v] at hl hf hlen ⊢
 have hA:=hA.row
 simp only at hA
 obtain ⟨n,hn⟩:∃ n,l.length = n:=⟨_,rfl⟩
 rw [hn] at hl ⊢
 have hA':=Lib.hid hA
 have hn':=Lib.hid hn
 have hl':=Lib.hid hl
 have hf':=Lib.hid hf
 have h':=Lib.hid h
 have hlen':=Lib.hid hlen
 have hC':=Lib.hid hC
 clear hA hn hl hf h hlen hC
 go_enter Tryz.func121,Tryz.ntmps121
 go_wp2
 go_loopw [6,7,10] (fun _ _ iv wr=>∃ k:Nat,k ≤ n ∧ iv = .int .i64 (k:Int) ∧ Hid (Wr w0 b m1 m2 e1 e2 (t++rowB f (l.take k)) d wr) ∧ Hid (Fr b v wr)) (fun _ _ iv _=>n - (intOf iv).toNat)
 case atStart=>exact ⟨0,Nat.zero_le _,rfl,Lib.hid (by simpa [rowB] using h'.out),Lib.hid (Fr.refl b v)⟩
 case round =>
  obtain ⟨k,hk,rfl,hw,hfr⟩:=hrel
  by_cases hlt:k < n
  ·obtain ⟨a,ha⟩:∃ s,l[k]? = some s:=⟨l[k]'(by rw [hn'.out];exact hlt),List.getElem?_eq_getElem _⟩
   obtain ⟨pa,rfl,hc⟩:=row_over hA'.out hw.out k a ha
   have hmem:=List.mem_of_getElem? ha
   have a6:=Lib.hid (wr_succ k n hlt hl'.out)
   have x1:=rowB_take_le f l (k + 1)
   have hb0:=hw.out.lt
   obtain ⟨c0,c1,c2,ea⟩:=hC'.out a
   have d0:=hc.c0 _ (by rw [ea];rfl)
   have d1:=hc.cs 0 _ (by rw [ea];rfl)
   have d2:=hc.cs 1 _ (by rw [ea];rfl)
   by_cases hk0:(0:Int) < (k:Int)
   case neg =>
    obtain rfl:k = 0:=by omega
    have x0:=rowB_first f l a ha
    have q:=hf'.out a hmem _ (wr.alloc (.cells #[.int .i64 c0,.int .u64 c1,.int .u64 c2] 26)) (hw.out.alloc _) (by
     have:=hlen'.out
     rw [x0] at x1
     simp only [List.take_zero,rowB,List.length_append,List.length_nil]
     omega)
    have hc0:CellsAt wr pa (cells a):=hc
    have d0:=hc0.c0 _ (by rw [ea];rfl)
    have d1:=hc0.cs 0 _ (by rw [ea];rfl)
    have d2:=hc0.cs 1 _ (by rw [ea];rfl)
    rw [ea] at q
    have q':=Lib.hid q
    have x0':=Lib.hid x0
    clear q hc hc0 x0 x1 ha hmem ea hk0
    go_wp2_with (refine q'.out.mono ?_;rintro e w' ⟨rfl,hw',hf'⟩)
    go_roundw
    case rel=>exact ⟨0 + 1,hlt,rfl,Lib.hid (by rw [x0'.out];simpa [rowB] using hw'),Lib.hid (hfr.out.trans ((Fr.alloc b wr _).trans hf'))⟩
    case measure=>exact Nat.sub_lt_sub_left hlt (Nat.lt_succ_self 0)
   case pos =>
    have x0:=rowB_take f l k (by omega) a ha
    have hB:t.length + (rowB f (l.take k)).length + (2 + (f a).length) ≤ 140737488355328:=by
     have:=hlen'.out
     rw [x0] at x1
     simp only [List.length_append,List.length_cons,List.length_nil] at x1
     omega
    have q0:=put_new w0 b m1 m2 e1 e2 (t++rowB f (l.take k)) d [⟨#[44,32]⟩] (wr.alloc (.cells #[.int .i64 c0,.int .u64 c1,.int .u64 c2] 26)) (hw.out.alloc _) (by simp) (by
     have e3:(catB [⟨#[44,32]⟩]).length = 2:=rfl
     rw [e3,List.length_append]
     omega)
    rw [show (wr.alloc (.cells #[.int .i64 c0,.int .u64 c1,.int .u64 c2] 26)).heap.size = wr.heap.size + 1 by simp] at q0
    have q0:=Lib.hid q0
    have hk1:(wr.alloc (.cells #[.int .i64 c0,.int .u64 c1,.int .u64 c2] 26)).heap[wr.heap.size]? = some (.cells #[.int .i64 c0,.int .u64 c1,.int .u64 c2] 26):=alloc_new wr _
    have hk1':=Lib.hid hk1
    have hne:wr.heap.size ≠ b:=by omega
    have hne':=Lib.hid hne
    have hq:=Lib.hid (fun u (hu:Wr w0 b m1 m2 e1 e2 (t++rowB f (l.take k)++catB [⟨#[44,32]⟩]) d u)=>hf'.out a hmem (t++rowB f (l.take k)++catB [⟨#[44,32]⟩]) u hu (by
     have e3:(catB [⟨#[44,32]⟩]).length = 2:=rfl
     simp only [List.length_append,e3]
     omega))
    have x0':=Lib.hid x0
    have ea':=Lib.hid ea
    clear hc x0 x1 ha hmem ea hB hk1 hne hb0
    go_wp2_with fail
    refine q0.out.mono ?_
    rintro e u ⟨rfl,hu,fu⟩
    have hk2:=fu.keep _ _ hk1'.out hne'.out (fun cs fr e=>by
     have:=congrArg (fun o=>match o with | Obj.cells _ T _=>T | _=>0) e
     exact absurd this (show ¬ (26:TypeId) = 5 by decide))
    have y0:u.cell? ⟨wr.heap.size,0,none⟩ = some (.int .i64 c0):=ch hk2
    have y1:u.cell? ⟨wr.heap.size,1,none⟩ = some (.int .u64 c1):=ch hk2
    have y2:u.cell? ⟨wr.heap.size,2,none⟩ = some (.int .u64 c2):=ch hk2
    have q:=hq.out u hu
    rw [ea'.out] at q
    have q':=Lib.hid q
    have fu':=Lib.hid fu
    clear q hq fu hk2 hu
    go_wp2_with (refine q'.out.mono ?_;rintro e w' ⟨rfl,hw',hf'⟩)
    go_roundw
    case rel=>exact ⟨k + 1,hlt,congrArg (Value.int .i64) a6.out,Lib.hid (by rw [x0'.out];simpa [catB] using hw'),Lib.hid (hfr.out.trans ((Fr.alloc b wr _).trans (fu'.out.trans hf')))⟩
    case measure=>exact step_less k n hlt a6.out
  ·obtain rfl:n = k:=by omega
   have hw2:=Lib.hid (show Wr w0 b m1 m2 e1 e2 (t++rowB f l) d wr by
    have:=hw.out
    rwa [List.take_of_length_le (show l.length ≤ n by rw [hn'.out];exact Nat.le_refl _)] at this)
   clear hw hlt hk
   go_wp2
   go_end0
   exact ⟨rfl,hw2.out,hfr.out⟩
set_option maxHeartbeats 4000000 in
set_option maxRecDepth 100000 in
theorem pblock_Field {α:Type} (cells:α → List Value) (hC:∀ x,shp_Field (cells x)) (f:α → List UInt8) (g:FuncId) (K:α → Prop) (w0:World) (b m1 m2:Nat) (e1 e2:Array MapEntry) (d:Nat) (hd:d ≤ 1000000) (A:Sl α) (hA:A.In w0 2 cells K) (hl:A.l.length ≤ 1048576)
  (hent:∀ args w,(callFunc g args).run Tryz.prog w = .ok (.enter g args) w)
  (hf:∀ x ∈ A.l,Wm w0 b m1 m2 e1 e2 g (.agg (cells x).toArray) (f x) ((d + 1:Nat):Int))
  (t:List UInt8) (v:World) (h:Wr w0 b m1 m2 e1 e2 t (d:Int) v) (hlen:t.length + ([32,123,10]++(flat f A.l++(padB d++[125,10]))).length ≤ 140737488355328) :
  Calls Tryz.prog 65 #[.pointer (some ⟨b,0,none⟩),A.v,.func (.func g) #[.pointer (some ⟨b,0,none⟩)] #[]] v fun e v'=>e = .returned (.tuple #[]) ∧ Wr w0 b m1 m2 e1 e2 (t++([32,123,10]++(flat f A.l++(padB d++[125,10])))) (d:Int) v' ∧ Fr b v v':=by
 have hL:t.length + 3 + (flat f A.l).length + 2 * d + 2 ≤ 140737488355328:=by
  simp only [List.length_append,List.length_cons,List.length_nil,padB_length] at hlen
  omega
 have q1:=Lib.hid (wr_open w0 b m1 m2 e1 e2 t d v h hd (by omega))
 have q2:=Lib.hid (fun u (hu:Wr w0 b m1 m2 e1 e2 (t++[32,123,10]) ((d + 1:Nat):Int) u)=>peach_Field cells hC f g K w0 b m1 m2 e1 e2 ((d + 1:Nat):Int) A hA hl hent hf (t++[32,123,10]) u hu (by simp only [List.length_append,List.length_cons,List.length_nil];omega))
 have q3:=Lib.hid (fun u (hu:Wr w0 b m1 m2 e1 e2 (t++[32,123,10]++flat f A.l) ((d + 1:Nat):Int) u)=>wr_shut w0 b m1 m2 e1 e2 (t++[32,123,10]++flat f A.l) d ⟨#[10]⟩ u hu hd (by
  have e3:(⟨#[10]⟩:ByteArray).size = 1:=rfl
  simp only [List.length_append,List.length_cons,List.length_nil,e3]
  omega))
 clear h hA hl hent hf hlen hL hC
 go_enter Tryz.func65,Tryz.ntmps65
 go_wp2_with fail
 refine q1.out.mono ?_
 rintro e u1 ⟨rfl,h1,f1⟩
 have q2':=Lib.hid (q2.out u1 h1)
 have f1':=Lib.hid f1
 clear q1 q2 h1 f1
 go_wp2_with fail
 refine q2'.out.mono ?_
 rintro e u2 ⟨rfl,h2,f2⟩
 have q3':=Lib.hid (q3.out u2 h2)
 have f2':=Lib.hid f2
 clear q2' q3 h2 f2
 go_wp2_with fail
 refine q3'.out.mono ?_
 rintro e u3 ⟨rfl,h3,f3⟩
 have h3':=Lib.hid h3
 have f3':=Lib.hid f3
 clear h3 f3 q3'
 go_wp2
 go_end0
 exact ⟨rfl,by have:=h3'.out;simpa using this,f1'.out.trans (f2'.out.trans f3'.out)⟩
set_option maxHeartbeats 4000000 in
set_option maxRecDepth 100000 in
theorem pblock_State {α:Type} (cells:α → List Value) (hC:∀ x,shp_State (cells x)) (f:α → List UInt8) (g:FuncId) (K:α → Prop) (w0:World) (b m1 m2:Nat) (e1 e2:Array MapEntry) (d:Nat) (hd:d ≤ 1000000) (A:Sl α) (hA:A.In w0 5 cells K) (hl:A.l.length ≤ 1048576)
  (hent:∀ args w,(callFunc g args).run Tryz.prog w = .ok (.enter g args) w)
  (hf:∀ x ∈ A.l,Wm w0 b m1 m2 e1 e2 g (.agg (cells x).toArray) (f x) ((d + 1:Nat):Int))
  (t:List UInt8) (v:World) (h:Wr w0 b m1 m2 e1 e2 t (d:Int) v) (hlen:t.length + ([32,123,10]++(flat f A.l++(padB d++[125,10]))).length ≤ 140737488355328) :
  Calls Tryz.prog 67 #[.pointer (some ⟨b,0,none⟩),A.v,.func (.func g) #[.pointer (some ⟨b,0,none⟩)] #[]] v fun e v'=>e = .returned (.tuple #[]) ∧ Wr w0 b m1 m2 e1 e2 (t++([32,123,10]++(flat f A.l++(padB d++[125,10])))) (d:Int) v' ∧ Fr b v v':=by
 have hL:t.length + 3 + (flat f A.l).length + 2 * d + 2 ≤ 140737488355328:=by
  simp only [List.length_append,List.length_cons,List.length_nil,padB_length] at hlen
  omega
 have q1:=Lib.hid (wr_open w0 b m1 m2 e1 e2 t d v h hd (by omega))
 have q2:=Lib.hid (fun u (hu:Wr w0 b m1 m2 e1 e2 (t++[32,123,10]) ((d + 1:Nat):Int) u)=>peach_State cells hC f g K w0 b m1 m2 e1 e2 ((d + 1:Nat):Int) A hA hl hent hf (t++[32,123,10]) u hu (by simp only [List.length_append,List.length_cons,List.length_nil];omega))
 have q3:=Lib.hid (fun u (hu:Wr w0 b m1 m2 e1 e2 (t++[32,123,10]++flat f A.l) ((d + 1:Nat):Int) u)=>wr_shut w0 b m1 m2 e1 e2 (t++[32,123,10]++flat f A.l) d ⟨#[10]⟩ u hu hd (by
  have e3:(⟨#[10]⟩:ByteArray).size = 1:=rfl
  simp only [List.length_append,List.length_cons,List.length_nil,e3]
  omega))
 clear h hA hl hent hf hlen hL hC
 go_enter Tryz.func67,Tryz.ntmps67
 go_wp2_with fail
 refine q1.out.mono ?_
 rintro e u1 ⟨rfl,h1,f1⟩
 have q2':=Lib.hid (q2.out u1 h1)
 have f1':=Lib.hid f1
 clear q1 q2 h1 f1
 go_wp2_with fail
 refine q2'.out.mono ?_
 rintro e u2 ⟨rfl,h2,f2⟩
 have q3':=Lib.hid (q3.out u2 h2)
 have f2':=Lib.hid f2
 clear q2' q3 h2 f2
 go_wp2_with fail
 refine q3'.out.mono ?_
 rintro e u3 ⟨rfl,h3,f3⟩
 have h3':=Lib.hid h3
 have f3':=Lib.hid f3
 clear h3 f3 q3'
 go_wp2
 go_end0
 exact ⟨rfl,by have:=h3'.out;simpa using this,f1'.out.trans (f2'.out.trans f3'.out)⟩
set_option maxHeartbeats 4000000 in
set_option maxRecDepth 100000 in
theorem pblock_Stmt {α:Type} (cells:α → List Value) (hC:∀ x,shp_Stmt (cells x)) (f:α → List UInt8) (g:FuncId) (K:α → Prop) (w0:World) (b m1 m2:Nat) (e1 e2:Array MapEntry) (d:Nat) (hd:d ≤ 1000000) (A:Sl α) (hA:A.In w0 14 cells K) (hl:A.l.length ≤ 1048576)
  (hent:∀ args w,(callFunc g args).run Tryz.prog w = .ok (.enter g args) w)
  (hf:∀ x ∈ A.l,Wm w0 b m1 m2 e1 e2 g (.agg (cells x).toArray) (f x) ((d + 1:Nat):Int))
  (t:List UInt8) (v:World) (h:Wr w0 b m1 m2 e1 e2 t (d:Int) v) (hlen:t.length + ([32,123,10]++(flat f A.l++(padB d++[125,10]))).length ≤ 140737488355328) :
  Calls Tryz.prog 73 #[.pointer (some ⟨b,0,none⟩),A.v,.func (.func g) #[.pointer (some ⟨b,0,none⟩)] #[]] v fun e v'=>e = .returned (.tuple #[]) ∧ Wr w0 b m1 m2 e1 e2 (t++([32,123,10]++(flat f A.l++(padB d++[125,10])))) (d:Int) v' ∧ Fr b v v':=by
 have hL:t.length + 3 + (flat f A.l).length + 2 * d + 2 ≤ 140737488355328:=by
  simp only [List.length_append,List.length_cons,List.length_nil,padB_length] at hlen
  omega
 have q1:=Lib.hid (wr_open w0 b m1 m2 e1 e2 t d v h hd (by omega))
 have q2:=Lib.hid (fun u (hu:Wr w0 b m1 m2 e1 e2 (t++[32,123,10]) ((d + 1:Nat):Int) u)=>peach_Stmt cells hC f g K w0 b m1 m2 e1 e2 ((d + 1:Nat):Int) A hA hl hent hf (t++[32,123,10]) u hu (by simp only [List.length_append,List.length_cons,List.length_nil];omega))
 have q3:=Lib.hid (fun u (hu:Wr w0 b m1 m2 e1 e2 (t++[32,123,10]++flat f A.l) ((d + 1:Nat):Int) u)=>wr_shut w0 b m1 m2 e1 e2 (t++[32,123,10]++flat f A.l) d ⟨#[10]⟩ u hu hd (by
  have e3:(⟨#[10]⟩:ByteArray).size = 1:=rfl
  simp only [List.length_append,List.length_cons,List.length_nil,e3]
  omega))
 clear h hA hl hent hf hlen hL hC
 go_enter Tryz.func73,Tryz.ntmps73
 go_wp2_with fail
 refine q1.out.mono ?_
 rintro e u1 ⟨rfl,h1,f1⟩
 have q2':=Lib.hid (q2.out u1 h1)
 have f1':=Lib.hid f1
 clear q1 q2 h1 f1
 go_wp2_with fail
 refine q2'.out.mono ?_
 rintro e u2 ⟨rfl,h2,f2⟩
 have q3':=Lib.hid (q3.out u2 h2)
 have f2':=Lib.hid f2
 clear q2' q3 h2 f2
 go_wp2_with fail
 refine q3'.out.mono ?_
 rintro e u3 ⟨rfl,h3,f3⟩
 have h3':=Lib.hid h3
 have f3':=Lib.hid f3
 clear h3 f3 q3'
 go_wp2
 go_end0
 exact ⟨rfl,by have:=h3'.out;simpa using this,f1'.out.trans (f2'.out.trans f3'.out)⟩
set_option maxHeartbeats 4000000 in
set_option maxRecDepth 100000 in
theorem pblock_string (f:ByteArray → List UInt8) (g:FuncId) (K:ByteArray → Prop) (w0:World) (b m1 m2:Nat) (e1 e2:Array MapEntry) (d:Nat) (hd:d ≤ 1000000) (A:Sl ByteArray) (hA:A.In w0 1 strCells K) (hl:A.l.length ≤ 1048576)
  (hent:∀ args w,(callFunc g args).run Tryz.prog w = .ok (.enter g args) w)
  (hf:∀ x ∈ A.l,Wm w0 b m1 m2 e1 e2 g (.string x) (f x) ((d + 1:Nat):Int))
  (t:List UInt8) (v:World) (h:Wr w0 b m1 m2 e1 e2 t (d:Int) v) (hlen:t.length + ([32,123,10]++(flat f A.l++(padB d++[125,10]))).length ≤ 140737488355328) :
  Calls Tryz.prog 75 #[.pointer (some ⟨b,0,none⟩),A.v,.func (.func g) #[.pointer (some ⟨b,0,none⟩)] #[]] v fun e v'=>e = .returned (.tuple #[]) ∧ Wr w0 b m1 m2 e1 e2 (t++([32,123,10]++(flat f A.l++(padB d++[125,10])))) (d:Int) v' ∧ Fr b v v':=by
 have hL:t.length + 3 + (flat f A.l).length + 2 * d + 2 ≤ 140737488355328:=by
  simp only [List.length_append,List.length_cons,List.length_nil,padB_length] at hlen
  omega
 have q1:=Lib.hid (wr_open w0 b m1 m2 e1 e2 t d v h hd (by omega))
 have q2:=Lib.hid (fun u (hu:Wr w0 b m1 m2 e1 e2 (t++[32,123,10]) ((d + 1:Nat):Int) u)=>peach_string f g K w0 b m1 m2 e1 e2 ((d + 1:Nat):Int) A hA hl hent hf (t++[32,123,10]) u hu (by simp only [List.length_append,List.length_cons,List.length_nil];omega))
 have q3:=Lib.hid (fun u (hu:Wr w0 b m1 m2 e1 e2 (t++[32,123,10]++flat f A.l) ((d + 1:Nat):Int) u)=>wr_shut w0 b m1 m2 e1 e2 (t++[32,123,10]++flat f A.l) d ⟨#[10]⟩ u hu hd (by
  have e3:(⟨#[10]⟩:ByteArray).size = 1:=rfl
  simp only [List.length_append,List.length_cons,List.length_nil,e3]
  omega))
 clear h hA hl hent hf hlen hL
 go_enter Tryz.func75,Tryz.ntmps75
 go_wp2_with fail
 refine q1.out.mono ?_
 rintro e u1 ⟨rfl,h1,f1⟩
 have q2':=Lib.hid (q2.out u1 h1)
 have f1':=Lib.hid f1
 clear q1 q2 h1 f1
 go_wp2_with fail
 refine q2'.out.mono ?_
 rintro e u2 ⟨rfl,h2,f2⟩
 have q3':=Lib.hid (q3.out u2 h2)
 have f2':=Lib.hid f2
 clear q2' q3 h2 f2
 go_wp2_with fail
 refine q3'.out.mono ?_
 rintro e u3 ⟨rfl,h3,f3⟩
 have h3':=Lib.hid h3
 have f3':=Lib.hid f3
 clear h3 f3 q3'
 go_wp2
 go_end0
 exact ⟨rfl,by have:=h3'.out;simpa using this,f1'.out.trans (f2'.out.trans f3'.out)⟩
set_option maxHeartbeats 4000000 in
set_option maxRecDepth 100000 in
theorem pblock_Case {α:Type} (cells:α → List Value) (hC:∀ x,shp_Case (cells x)) (f:α → List UInt8) (g:FuncId) (K:α → Prop) (w0:World) (b m1 m2:Nat) (e1 e2:Array MapEntry) (d:Nat) (hd:d ≤ 1000000) (A:Sl α) (hA:A.In w0 3 cells K) (hl:A.l.length ≤ 1048576)
  (hent:∀ args w,(callFunc g args).run Tryz.prog w = .ok (.enter g args) w)
  (hf:∀ x ∈ A.l,Wm w0 b m1 m2 e1 e2 g (.agg (cells x).toArray) (f x) ((d + 1:Nat):Int))
  (t:List UInt8) (v:World) (h:Wr w0 b m1 m2 e1 e2 t (d:Int) v) (hlen:t.length + ([32,123,10]++(flat f A.l++(padB d++[125,10]))).length ≤ 140737488355328) :
  Calls Tryz.prog 151 #[.pointer (some ⟨b,0,none⟩),A.v,.func (.func g) #[.pointer (some ⟨b,0,none⟩)] #[]] v fun e v'=>e = .returned (.tuple #[]) ∧ Wr w0 b m1 m2 e1 e2 (t++([32,123,10]++(flat f A.l++(padB d++[125,10])))) (d:Int) v' ∧ Fr b v v':=by
 have hL:t.length + 3 + (flat f A.l).length + 2 * d + 2 ≤ 140737488355328:=by
  simp only [List.length_append,List.length_cons,List.length_nil,padB_length] at hlen
  omega
 have q1:=Lib.hid (wr_open w0 b m1 m2 e1 e2 t d v h hd (by omega))
 have q2:=Lib.hid (fun u (hu:Wr w0 b m1 m2 e1 e2 (t++[32,123,10]) ((d + 1:Nat):Int) u)=>peach_Case cells hC f g K w0 b m1 m2 e1 e2 ((d + 1:Nat):Int) A hA hl hent hf (t++[32,123,10]) u hu (by simp only [List.length_append,List.length_cons,List.length_nil];omega))
 have q3:=Lib.hid (fun u (hu:Wr w0 b m1 m2 e1 e2 (t++[32,123,10]++flat f A.l) ((d + 1:Nat):Int) u)=>wr_shut w0 b m1 m2 e1 e2 (t++[32,123,10]++flat f A.l) d ⟨#[10]⟩ u hu hd (by
  have e3:(⟨#[10]⟩:ByteArray).size = 1:=rfl
  simp only [List.length_append,List.length_cons,List.length_nil,e3]
  omega))
 clear h hA hl hent hf hlen hL hC
 go_enter Tryz.func151,Tryz.ntmps151
 go_wp2_with fail
 refine q1.out.mono ?_
 rintro e u1 ⟨rfl,h1,f1⟩
 have q2':=Lib.hid (q2.out u1 h1)
 have f1':=Lib.hid f1
 clear q1 q2 h1 f1
 go_wp2_with fail
 refine q2'.out.mono ?_
 rintro e u2 ⟨rfl,h2,f2⟩
 have q3':=Lib.hid (q3.out u2 h2)
 have f2':=Lib.hid f2
 clear q2' q3 h2 f2
 go_wp2_with fail
 refine q3'.out.mono ?_
 rintro e u3 ⟨rfl,h3,f3⟩
 have h3':=Lib.hid h3
 have f3':=Lib.hid f3
 clear h3 f3 q3'
 go_wp2
 go_end0
 exact ⟨rfl,by have:=h3'.out;simpa using this,f1'.out.trans (f2'.out.trans f3'.out)⟩
set_option maxHeartbeats 4000000 in
set_option maxRecDepth 100000 in
theorem pblock_Key {α:Type} (cells:α → List Value) (hC:∀ x,shp_Key (cells x)) (f:α → List UInt8) (g:FuncId) (K:α → Prop) (w0:World) (b m1 m2:Nat) (e1 e2:Array MapEntry) (d:Nat) (hd:d ≤ 1000000) (A:Sl α) (hA:A.In w0 10 cells K) (hl:A.l.length ≤ 1048576)
  (hent:∀ args w,(callFunc g args).run Tryz.prog w = .ok (.enter g args) w)
  (hf:∀ x ∈ A.l,Wm w0 b m1 m2 e1 e2 g (.agg (cells x).toArray) (f x) ((d + 1:Nat):Int))
  (t:List UInt8) (v:World) (h:Wr w0 b m1 m2 e1 e2 t (d:Int) v) (hlen:t.length + ([32,123,10]++(flat f A.l++(padB d++[125,10]))).length ≤ 140737488355328) :
  Calls Tryz.prog 118 #[.pointer (some ⟨b,0,none⟩),A.v,.func (.func g) #[.pointer (some ⟨b,0,none⟩)] #[]] v fun e v'=>e = .returned (.tuple #[]) ∧ Wr w0 b m1 m2 e1 e2 (t++([32,123,10]++(flat f A.l++(padB d++[125,10])))) (d:Int) v' ∧ Fr b v v':=by
 have hL:t.length + 3 + (flat f A.l).length + 2 * d + 2 ≤ 140737488355328:=by
  simp only [List.length_append,List.length_cons,List.length_nil,padB_length] at hlen
  omega
 have q1:=Lib.hid (wr_open w0 b m1 m2 e1 e2 t d v h hd (by omega))
 have q2:=Lib.hid (fun u (hu:Wr w0 b m1 m2 e1 e2 (t++[32,123,10]) ((d + 1:Nat):Int) u)=>peach_Key cells hC f g K w0 b m1 m2 e1 e2 ((d + 1:Nat):Int) A hA hl hent hf (t++[32,123,10]) u hu (by simp only [List.length_append,List.length_cons,List.length_nil];omega))
 have q3:=Lib.hid (fun u (hu:Wr w0 b m1 m2 e1 e2 (t++[32,123,10]++flat f A.l) ((d + 1:Nat):Int) u)=>wr_shut w0 b m1 m2 e1 e2 (t++[32,123,10]++flat f A.l) d ⟨#[10]⟩ u hu hd (by
  have e3:(⟨#[10]⟩:ByteArray).size = 1:=rfl
  simp only [List.length_append,List.length_cons,List.length_nil,e3]
  omega))
 clear h hA hl hent hf hlen hL hC
 go_enter Tryz.func118,Tryz.ntmps118
 go_wp2_with fail
 refine q1.out.mono ?_
 rintro e u1 ⟨rfl,h1,f1⟩
 have q2':=Lib.hid (q2.out u1 h1)
 have f1':=Lib.hid f1
 clear q1 q2 h1 f1
 go_wp2_with fail
 refine q2'.out.mono ?_
 rintro e u2 ⟨rfl,h2,f2⟩
 have q3':=Lib.hid (q3.out u2 h2)
 have f2':=Lib.hid f2
 clear q2' q3 h2 f2
 go_wp2_with fail
 refine q3'.out.mono ?_
 rintro e u3 ⟨rfl,h3,f3⟩
 have h3':=Lib.hid h3
 have f3':=Lib.hid f3
 clear h3 f3 q3'
 go_wp2
 go_end0
 exact ⟨rfl,by have:=h3'.out;simpa using this,f1'.out.trans (f2'.out.trans f3'.out)⟩
end Go.Proofs.YtbelaghcmgefaaaGreatDoor
