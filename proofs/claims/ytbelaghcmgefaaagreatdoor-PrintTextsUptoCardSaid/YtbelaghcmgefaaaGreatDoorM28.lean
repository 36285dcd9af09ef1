/-
  WHAT IS PROVED HERE: a part of the proof (made narrower and merged by program; the parts: Pc).
-/
import Derived.Test.YtbelaghcmgefaaaGreatDoorRows
import Derived.WalkKit
import Derived.Lib.Hide
import Derived.WalkSpells
import Derived.WalkLawsBesides
import Derived.Laws.EntriesVeiled
import Derived.Test.YtbelaghcmgefaaaGreatDoorM4
import Derived.Test.YtbelaghcmgefaaaGreatDoorM27
namespace Go.Proofs.YtbelaghcmgefaaaGreatDoor
open Go.RowKit
/-- What is written of each, one behind the other. -/
def flat {α:Type} (f:α → List UInt8):List α → List UInt8
 | []=>[]
 | x :: l=>f x++flat f l
/-- .. with a comma and a blank between. -/
def rowB {α:Type} (f:α → List UInt8):List α → List UInt8
 | []=>[]
 | x :: l=>f x++flat (fun y=>[44,32]++f y) l
theorem flat_take {α:Type} (f:α → List UInt8) (l:List α) (k:Nat) (x:α) (h:l[k]? = some x):flat f (l.take (k + 1)) = flat f (l.take k)++f x:=by
 induction l generalizing k with
 | nil=>simp at h
 | cons a l ih =>
  cases k with
  | zero =>
   simp only [List.getElem?_cons_zero,Option.some.injEq] at h
   subst h
   simp [flat]
  | succ k =>
   simp only [List.getElem?_cons_succ] at h
   simp only [List.take_succ_cons,flat,ih k h,List.append_assoc]
theorem flat_take_le {α:Type} (f:α → List UInt8) (l:List α) (k:Nat):(flat f (l.take k)).length ≤ (flat f l).length:=by
 induction l generalizing k with
 | nil=>simp [flat]
 | cons a l ih =>
  cases k with
  | zero=>simp [flat]
  | succ k =>
   have:=ih k
   simp only [List.take_succ_cons,flat,List.length_append]
   omega
theorem rowB_first {α:Type} (f:α → List UInt8) (l:List α) (x:α) (h:l[0]? = some x):rowB f (l.take 1) = f x:=by
 cases l with
 | nil=>simp at h
 | cons a l =>
  simp only [List.getElem?_cons_zero,Option.some.injEq] at h
  subst h
  simp [rowB,flat]
theorem rowB_take {α:Type} (f:α → List UInt8) (l:List α) (k:Nat) (hk:0 < k) (x:α) (h:l[k]? = some x):rowB f (l.take (k + 1)) = rowB f (l.take k)++([44,32]++f x):=by
 cases l with
 | nil=>simp at h
 | cons a l =>
  obtain ⟨j,rfl⟩:∃ j,k = j + 1:=⟨k - 1,by omega⟩
  simp only [List.getElem?_cons_succ] at h
  simp only [List.take_succ_cons,rowB,flat_take _ l j x h,List.append_assoc]
theorem rowB_take_le {α:Type} (f:α → List UInt8) (l:List α) (k:Nat):(rowB f (l.take k)).length ≤ (rowB f l).length:=by
 cases l with
 | nil=>simp [rowB]
 | cons a l =>
  cases k with
  | zero=>simp [rowB]
  | succ k =>
   have:=flat_take_le (fun y=>[44,32]++f y) l k
   simp only [List.take_succ_cons,rowB,List.length_append]
   omega
/-- A method of the writer that writes this, at any text. -/
abbrev Wm (w0:World) (b m1 m2:Nat) (e1 e2:Array MapEntry) (g:FuncId) (x:Value) (T:List UInt8) (d:Int):Prop :=
 ∀ t v,Wr w0 b m1 m2 e1 e2 t d v → t.length + T.length ≤ 140737488355328 → Calls Tryz.prog g #[.pointer (some ⟨b,0,none⟩),x] v fun e v'=>e = .returned (.tuple #[]) ∧ Wr w0 b m1 m2 e1 e2 (t++T) d v' ∧ Fr b v v'
theorem row_over {α:Type} {w0 v:World} {C:Nat} {cells:α → List Value} {p:Option Addr} {l:List α} (h:RowAt w0 C cells p l) {b m1 m2:Nat} {e1 e2:Array MapEntry} {t:List UInt8} {d:Int} (hw:Wr w0 b m1 m2 e1 e2 t d v):RowAt v C cells p l:=by
 obtain ⟨z,rfl⟩:=hw.over
 exact h.plus z
set_option maxHeartbeats 4000000 in
set_option maxRecDepth 100000 in
theorem peach_Header {α:Type} (cells:α → List Value) (hC:∀ x,shp_Header (cells x)) (f:α → List UInt8) (g:FuncId) (K:α → Prop) (w0:World) (b m1 m2:Nat) (e1 e2:Array MapEntry) (d:Int) (A:Sl α) (hA:A.In w0 2 cells K) (hl:A.l.length ≤ 1048576)
  (hent:∀ args w,(callFunc g args).run Tryz.prog w = .ok (.enter g args) w)
  (hf:∀ x ∈ A.l,Wm w0 b m1 m2 e1 e2 g (.agg (cells x).toArray) (f x) d)
  (t:List UInt8) (v:World) (h:Wr w0 b m1 m2 e1 e2 t d v) (hlen:t.length + (flat f A.l).length ≤ 140737488355328) :
  Calls Tryz.prog 62 #[A.v,.func (.func g) #[.pointer (some ⟨b,0,none⟩)] #[]] v fun e v'=>e = .returned (.tuple #[]) ∧ Wr w0 b m1 m2 e1 e2 (t++flat f A.l) d v' ∧ Fr b v v':=by
 obtain ⟨p,cap,l⟩:=A
 simp only [Sl.v] at hl hf hlen ⊢
 have hA:=hA.row
 simp only at hA
 obtain ⟨n,hn⟩:∃ n,l.length = n:=⟨_,rfl⟩
 rw [hn] at hl ⊢
 have hA':=Lib.hid hA
 have hn':=Lib.hid hn
 have hl':=Lib.hid hl
 have hf':=Lib.hid hf
 have h':=Lib.hid h
 have hlen':=Lib.hid hlen
 have hC':=Lib.hid hC
 clear hA hn hl hf h hlen hC
 go_enter Tryz.func62,Tryz.ntmps62
 go_wp2
 go_loopw [5,8] (fun _ iv wr=>∃ k:Nat,k ≤ n ∧ iv = .int .i64 (k:Int) ∧ Hid (Wr w0 b m1 m2 e1 e2 (t++flat f (l.take k)) d wr) ∧ Hid (Fr b v wr)) (fun _ iv _=>n - (intOf iv).toNat)
 case atStart=>exact ⟨0,Nat.zero_le _,rfl,Lib.hid (by simpa [flat] using h'.out),Lib.hid (Fr.refl b v)⟩
 case round =>
  obtain ⟨k,hk,rfl,hw,hfr⟩:=hrel
  by_cases hlt:k < n
  ·obtain ⟨a,ha⟩:∃ s,l[k]? = some s:=⟨l[k]'(by rw [hn'.out];exact hlt),List.getElem?_eq_getElem _⟩
   obtain ⟨pa,rfl,hc⟩:=row_over hA'.out hw.out k a ha
   have hmem:=List.mem_of_getElem? ha
   have a6:=Lib.hid (wr_succ k n hlt hl'.out)
   have x0:=flat_take f l k a ha
   have x1:=flat_take_le f l (k + 1)
   obtain ⟨c0,c1p,c1n,c1c,ea⟩:=hC'.out a
   have d0:=hc.c0 _ (by rw [ea];rfl)
   have d1:=hc.cs 0 _ (by rw [ea];rfl)
   have q:=hf'.out a hmem _ (wr.alloc (.cells #[.string c0,.slice c1p c1n c1c] 50)) (hw.out.alloc _) (by
    have:=hlen'.out
    rw [x0] at x1
    simp only [List.length_append] at x1 ⊢
    omega)
   rw [ea] at q
   have q':=Lib.hid q
   have x0':=Lib.hid x0
   clear q hc x0 x1 ha hmem ea
   go_wp2_with (refine q'.out.mono ?_;rintro e w' ⟨rfl,hw',hf'⟩)
   go_roundw
   case rel=>exact ⟨k + 1,hlt,congrArg (Value.int .i64) a6.out,Lib.hid (by rw [x0'.out,← List.append_assoc];exact hw'),Lib.hid (hfr.out.trans ((Fr.alloc b wr _).trans hf'))⟩
   case measure=>exact step_less k n hlt a6.out
  ·obtain rfl:n = k:=by omega
   have hw2:=Lib.hid (show Wr w0 b m1 m2 e1 e2 (t++flat f l) d wr by
    have:=hw.out
    rwa [List.take_of_length_le (show l.length ≤ n by rw [hn'.out];exact Nat.le_refl _)] at this)
   clear hw hlt hk
   go_wp2
   go_end0
   exact ⟨rfl,hw2.out,hfr.out⟩
set_option maxHeartbeats 4000000 in
set_option maxRecDepth 100000 in
theorem peach_State {α:Type} (cells:α → List Value) (hC:∀ x,shp_State (cells x)) (f:α → List UInt8) (g:FuncId) (K:α → Prop) (w0:World) (b m1 m2:Nat) (e1 e2:Array MapEntry) (d:Int) (A:Sl α) (hA:A.In w0 5 cells K) (hl:A.l.length ≤ 1048576)
  (hent:∀ args w,(callFunc g args).run Tryz.prog w = .ok (.enter g args) w)
  (hf:∀ x ∈ A.l,Wm w0 b m1 m2 e1 e2 g (.agg (cells x).toArray) (f x) d)
  (t:List UInt8) (v:World) (h:Wr w0 b m1 m2 e1 e2 t d v) (hlen:t.length + (flat f A.l).length ≤ 140737488355328) :
  Calls Tryz.prog 113 #[A.v,.func (.func g) #[.pointer (some ⟨b,0,none⟩)] #[]] v fun e v'=>e = .returned (.tuple #[]) ∧ Wr w0 b m1 m2 e1 e2 (t++flat f A.l) d v' ∧ Fr b v v':=by
 obtain ⟨p,cap,l⟩:=A
 simp only [Sl.v] at hl hf hlen ⊢
 have hA:=hA.row
 simp only at hA
 obtain ⟨n,hn⟩:∃ n,l.length = n:=⟨_,rfl⟩
 rw [hn] at hl ⊢
 have hA':=Lib.hid hA
 have hn':=Lib.hid hn
 have hl':=Lib.hid hl
 have hf':=Lib.hid hf
 have h':=Lib.hid h
 have hlen':=Lib.hid hlen
 have hC':=Lib.hid hC
 clear hA hn hl hf h hlen hC
 go_enter Tryz.func113,Tryz.ntmps113
 go_wp2
 go_loopw [5,8] (fun _ iv wr=>∃ k:Nat,k ≤ n ∧ iv = .int .i64 (k:Int) ∧ Hid (Wr w0 b m1 m2 e1 e2 (t++flat f (l.take k)) d wr) ∧ Hid (Fr b v wr)) (fun _ iv _=>n - (intOf iv).toNat)
 case atStart=>exact ⟨0,Nat.zero_le _,rfl,Lib.hid (by simpa [flat] using h'.out),Lib.hid (Fr.refl b v)⟩
 case round =>
  obtain ⟨k,hk,rfl,hw,hfr⟩:=hrel
  by_cases hlt:k < n
  ·obtain ⟨a,ha⟩:∃ s,l[k]? = some s:=⟨l[k]'(by rw [hn'.out];exact hlt),List.getElem?_eq_getElem _⟩
   obtain ⟨pa,rfl,hc⟩:=row_over hA'.out hw.out k a ha
   have hmem:=List.mem_of_getElem? ha
   have a6:=Lib.hid (wr_succ k n hlt hl'.out)
   have x0:=flat_take f l k a ha
   have x1:=flat_take_le f l (k + 1)
   obtain ⟨c0,c1p,c1n,c1c,c2,c3p,c3n,c3c,c4p,c4n,c4c,ea⟩:=hC'.out a
   have d0:=hc.c0 _ (by rw [ea];rfl)
   have d1:=hc.cs 0 _ (by rw [ea];rfl)
   have d2:=hc.cs 1 _ (by rw [ea];rfl)
   have d3:=hc.cs 2 _ (by rw [ea];rfl)
   have d4:=hc.cs 3 _ (by rw [ea];rfl)
   have q:=hf'.out a hmem _ (wr.alloc (.cells #[.string c0,.slice c1p c1n c1c,.string c2,.slice c3p c3n c3c,.slice c4p c4n c4c] 53)) (hw.out.alloc _) (by
    have:=hlen'.out
    rw [x0] at x1
    simp only [List.length_append] at x1 ⊢
    omega)
   rw [ea] at q
   have q':=Lib.hid q
   have x0':=Lib.hid x0
   clear q hc x0 x1 ha hmem ea
   go_wp2_with (refine q'.out.mono ?_;rintro e w' ⟨rfl,hw',hf'⟩)
   go_roundw
   case rel=>exact ⟨k + 1,hlt,congrArg (Value.int .i64) a6.out,Lib.hid (by rw [x0'.out,← List.append_assoc];exact hw'),Lib.hid (hfr.out.trans ((Fr.alloc b wr _).trans hf'))⟩
   case measure=>exact step_less k n hlt a6.out
  ·obtain rfl:n = k:=by omega
   have hw2:=Lib.hid (show Wr w0 b m1 m2 e1 e2 (t++flat f l) d wr by
    have:=hw.out
    rwa [List.take_of_length_le (show l.length ≤ n by rw [hn'.out];exact Nat.le_refl _)] at this)
   clear hw hlt hk
   go_wp2
   go_end0
   exact ⟨rfl,hw2.out,hfr.out⟩
set_option maxHeartbeats 4000000 in
set_option maxRecDepth 100000 in
theorem peach_Action {α:Type} (cells:α → List Value) (hC:∀ x,shp_Action (cells x)) (f:α → List UInt8) (g:FuncId) (K:α → Prop) (w0:World) (b m1 m2:Nat) (e1 e2:Array MapEntry) (d:Int) (A:Sl α) (hA:A.In w0 3 cells K) (hl:A.l.length ≤ 1048576)
  (hent:∀ args w,(callFunc g args).run Tryz.prog w = .ok (.enter g args) w)
  (hf:∀ x ∈ A.l,Wm w0 b m1 m2 e1 e2 g (.agg (cells x).toArray) (f x) d)
  (t:List UInt8) (v:World) (h:Wr w0 b m1 m2 e1 e2 t d v) (hlen:t.length + (flat f A.l).length ≤ 140737488355328) :
  Calls Tryz.prog 69 #[A.v,.func (.func g) #[.pointer (some ⟨b,0,none⟩)] #[]] v fun e v'=>e = .returned (.tuple #[]) ∧ Wr w0 b m1 m2 e1 e2 (t++flat f A.l) d v' ∧ Fr b v v':=by
 obtain ⟨p,cap,l⟩:=A
 simp only [Sl.v] at hl hf hlen ⊢
 have hA:=hA.row
 simp only at hA
 obtain ⟨n,hn⟩:∃ n,l.length = n:=⟨_,rfl⟩
 rw [hn] at hl ⊢
 have hA':=Lib.hid hA
 have hn':=Lib.hid hn
 have hl':=Lib.hid hl
 have hf':=Lib.hid hf
 have h':=Lib.hid h
 have hlen':=Lib.hid hlen
 have hC':=Lib.hid hC
 clear hA hn hl hf h hlen hC
 go_enter Tryz.func69,Tryz.ntmps69
 go_wp2
 go_loopw [5,8] (fun _ iv wr=>∃ k:Nat,k ≤ n ∧ iv = .int .i64 (k:Int) ∧ Hid (Wr w0 b m1 m2 e1 e2 (t++flat f (l.take k)) d wr) ∧ Hid (Fr b v wr)) (fun _ iv _=>n - (intOf iv).toNat)
 case atStart=>exact ⟨0,Nat.zero_le _,rfl,Lib.hid (by simpa [flat] using h'.out),Lib.hid (Fr.refl b v)⟩
 case round =>
  obtain ⟨k,hk,rfl,hw,hfr⟩:=hrel
  by_cases hlt:k < n
  ·obtain ⟨a,ha⟩:∃ s,l[k]? = some s:=⟨l[k]'(by rw [hn'.out];exact hlt),List.getElem?_eq_getElem _⟩
   obtain ⟨pa,rfl,hc⟩:=row_over hA'.out hw.out k a ha
   have hmem:=List.mem_of_getElem? ha
   have a6:=Lib.hid (wr_succ k n hlt hl'.out)
   have x0:=flat_take f l k a ha
   have x1:=flat_take_le f l (k + 1)
   obtain ⟨c0,c1p,c1n,c1c,c2p,c2n,c2c,ea⟩:=hC'.out a
   have d0:=hc.c0 _ (by rw [ea];rfl)
   have d1:=hc.cs 0 _ (by rw [ea];rfl)
   have d2:=hc.cs 1 _ (by rw [ea];rfl)
   have q:=hf'.out a hmem _ (wr.alloc (.cells #[.string c0,.slice c1p c1n c1c,.slice c2p c2n c2c] 59)) (hw.out.alloc _) (by
    have:=hlen'.out
    rw [x0] at x1
    simp only [List.length_append] at x1 ⊢
    omega)
   rw [ea] at q
   have q':=Lib.hid q
   have x0':=Lib.hid x0
   clear q hc x0 x1 ha hmem ea
   go_wp2_with (refine q'.out.mono ?_;rintro e w' ⟨rfl,hw',hf'⟩)
   go_roundw
   case rel=>exact ⟨k + 1,hlt,congrArg (Value.int .i64) a6.out,Lib.hid (by rw [x0'.out,← List.append_assoc];exact hw'),Lib.hid (hfr.out.trans ((Fr.alloc b wr _).trans hf'))⟩
   case measure=>exact step_less k n hlt a6.out
  ·obtain rfl:n = k:=by omega
   have hw2:=Lib.hid (show Wr w0 b m1 m2 e1 e2 (t++flat f l) d wr by
    have:=hw.out
    rwa [List.take_of_length_le (show l.length ≤ n by rw [hn'.out];exact Nat.le_refl _)] at this)
   clear hw hlt hk
   go_wp2
   go_end0
   exact ⟨rfl,hw2.out,hfr.out⟩
set_option maxHeartbeats 4000000 in
set_option maxRecDepth 100000 in
theorem peach_Table {α:Type} (cells:α → List Value) (hC:∀ x,shp_Table (cells x)) (f:α → List UInt8) (g:FuncId) (K:α → Prop) (w0:World) (b m1 m2:Nat) (e1 e2:Array MapEntry) (d:Int) (A:Sl α) (hA:A.In w0 5 cells K) (hl:A.l.length ≤ 1048576)
  (hent:∀ args w,(callFunc g args).run Tryz.prog w = .ok (.enter g args) w)
  (hf:∀ x ∈ A.l,Wm w0 b m1 m2 e1 e2 g (.agg (cells x).toArray) (f x) d)
  (t:List UInt8) (v:World) (h:Wr w0 b m1 m2 e1 e2 t d v) (hlen:t.length + (flat f A.l).length ≤ 140737488355328) :
  Calls Tryz.prog 71 #[A.v,.func (.func g) #[.pointer (some ⟨b,0,none⟩)] #[]] v fun e v'=>e = .returned (.tuple #[]) ∧ Wr w0 b m1 m2 e1 e2 (t++flat f A.l) d v' ∧ Fr b v v':=by
 obtain ⟨p,cap,l⟩:=A
 simp only [Sl.v] at hl hf hlen ⊢
 have hA:=hA.row
 simp only at hA
 obtain ⟨n,hn⟩:∃ n,l.length = n:=⟨_,rfl⟩
 rw [hn] at hl ⊢
 have hA':=Lib.hid hA
 have hn':=Lib.hid hn
 have hl':=Lib.hid hl
 have hf':=Lib.hid hf
 have h':=Lib.hid h
 have hlen':=Lib.hid hlen
 have hC':=Lib.hid hC
 clear hA hn hl hf h hlen hC
 go_enter Tryz.func71,Tryz.ntmps71
 go_wp2
 go_loopw [5,8] (fun _ iv wr=>∃ k:Nat,k ≤ n ∧ iv = .int .i64 (k:Int) ∧ Hid (Wr w0 b m1 m2 e1 e2 (t++flat f (l.take k)) d wr) ∧ Hid (Fr b v wr)) (fun _ iv _=>n - (intOf iv).toNat)
 case atStart=>exact ⟨0,Nat.zero_le _,rfl,Lib.hid (by simpa [flat] using h'.out),Lib.hid (Fr.refl b v)⟩
 case round =>
  obtain ⟨k,hk,rfl,hw,hfr⟩:=hrel
  by_cases hlt:k < n
  ·obtain ⟨a,ha⟩:∃ s,l[k]? = some s:=⟨l[k]'(by rw [hn'.out];exact hlt),List.getElem?_eq_getElem _⟩
   obtain ⟨pa,rfl,hc⟩:=row_over hA'.out hw.out k a ha
   have hmem:=List.mem_of_getElem? ha
   have a6:=Lib.hid (wr_succ k n hlt hl'.out)
   have x0:=flat_take f l k a ha
   have x1:=flat_take_le f l (k + 1)
   obtain ⟨c0,c1p,c1n,c1c,c2p,c2n,c2c,c3,c4p,c4n,c4c,ea⟩:=hC'.out a
   have d0:=hc.c0 _ (by rw [ea];rfl)
   have d1:=hc.cs 0 _ (by rw [ea];rfl)
   have d2:=hc.cs 1 _ (by rw [ea];rfl)
   have d3:=hc.cs 2 _ (by rw [ea];rfl)
   have d4:=hc.cs 3 _ (by rw [ea];rfl)
   have q:=hf'.out a hmem _ (wr.alloc (.cells #[.string c0,.slice c1p c1n c1c,.slice c2p c2n c2c,.string c3,.slice c4p c4n c4c] 65)) (hw.out.alloc _) (by
    have:=hlen'.out
    rw [x0] at x1
    simp only [List.length_append] at x1 ⊢
    omega)
   rw [ea] at q
   have q':=Lib.hid q
   have x0':=Lib.hid x0
   clear q hc x0 x1 ha hmem ea
   go_wp2_with (refine q'.out.mono ?_;rintro e w' ⟨rfl,hw',hf'⟩)
   go_roundw
   case rel=>exact ⟨k + 1,hlt,congrArg (Value.int .i64) a6.out,Lib.hid (by rw [x0'.out,← List.append_assoc];exact hw'),Lib.hid (hfr.out.trans ((Fr.alloc b wr _).trans hf'))⟩
   case measure=>exact step_less k n hlt a6.out
  ·obtain rfl:n = k:=by omega
   have hw2:=Lib.hid (show Wr w0 b m1 m2 e1 e2 (t++flat f l) d wr by
    have:=hw.out
    rwa [List.take_of_length_le (show l.length ≤ n by rw [hn'.out];exact Nat.le_refl _)] at this)
   clear hw hlt hk
   go_wp2
   go_end0
   exact ⟨rfl,hw2.out,hfr.out⟩
set_option maxHeartbeats 4000000 in
set_option maxRecDepth 100000 in
theorem peach_Stmt {α:Type} (cells:α → List Value) (hC:∀ x,shp_Stmt (cells x)) (f:α → List UInt8) (g:FuncId) (K:α → Prop) (w0:World) (b m1 m2:Nat) (e1 e2:Array MapEntry) (d:Int) (A:Sl α) (hA:A.In w0 14 cells K) (hl:A.l.length ≤ 1048576)
  (hent:∀ args w,(callFunc g args).run Tryz.prog w = .ok (.enter g args) w)
  (hf:∀ x ∈ A.l,Wm w0 b m1 m2 e1 e2 g (.agg (cells x).toArray) (f x) d)
  (t:List UInt8) (v:World) (h:Wr w0 b m1 m2 e1 e2 t d v) (hlen:t.length + (flat f A.l).length ≤ 140737488355328) :
  Calls Tryz.prog 122 #[A.v,.func (.func g) #[.pointer (some ⟨b,0,none⟩)] #[]] v fun e v'=>e = .returned (.tuple #[]) ∧ Wr w0 b m1 m2 e1 e2 (t++flat f A.l) d v' ∧ Fr b v v':=by
 obtain ⟨p,cap,l⟩:=A
 simp only [Sl.v] at hl hf hlen ⊢
 have hA:=hA.row
 simp only at hA
 obtain ⟨n,hn⟩:∃ n,l.length = n:=⟨_,rfl⟩
 rw [hn] at hl ⊢
 have hA':=Lib.hid hA
 have hn':=Lib.hid hn
 have hl':=Lib.hid hl
 have hf':=Lib.hid hf
 have h':=Lib.hid h
 have hlen':=Lib.hid hlen
 have hC':=Lib.hid hC
 clear hA hn hl hf h hlen hC
 go_enter Tryz.func122,Tryz.ntmps122
 go_wp2
 go_loopw [5,8] (fun _ iv wr=>∃ k:Nat,k ≤ n ∧ iv = .int .i64 (k:Int) ∧ Hid (Wr w0 b m1 m2 e1 e2 (t++flat f (l.take k)) d wr) ∧ Hid (Fr b v wr)) (fun _ iv _=>n - (intOf iv).toNat)
 case atStart=>exact ⟨0,Nat.zero_le _,rfl,Lib.hid (by simpa [flat] using h'.out),Lib.hid (Fr.refl b v)⟩
 case round =>
  obtain ⟨k,hk,rfl,hw,hfr⟩:=hrel
  by_cases hlt:k < n
  ·obtain ⟨a,ha⟩:∃ s,l[k]? = some s:=⟨l[k]'(by rw [hn'.out];exact hlt),List.getElem?_eq_getElem _⟩
   obtain ⟨pa,rfl,hc⟩:=row_over hA'.out hw.out k a ha
   have hmem:=List.mem_of_getElem? ha
   have a6:=Lib.hid (wr_succ k n hlt hl'.out)
   have x0:=flat_take f l k a ha
   have x1:=flat_take_le f l (k + 1)
   obtain ⟨c0,c1,c2,c3,c4,c5,c6,c7,c8,c9,c10,c11p,c11n,c11c,c12p,c12n,c12c,c13p,c13n,c13c,ea⟩:=hC'.out a
   have d0:=hc.c0 _ (by rw [ea];rfl)
   have d1:=hc.cs 0 _ (by rw [ea];rfl)
   have d2:=hc.cs 1 _ (by rw [ea];rfl)
   have d3:=hc.cs 2 _ (by rw [ea];rfl)
   have d4:=hc.cs 3 _ (by rw [ea];rfl)
   have d5:=hc.cs 4 _ (by rw [ea];rfl)
   have d6:=hc.cs 5 _ (by rw [ea];rfl)
   have d7:=hc.cs 6 _ (by rw [ea];rfl)
   have d8:=hc.cs 7 _ (by rw [ea];rfl)
   have d9:=hc.cs 8 _ (by rw [ea];rfl)
   have d10:=hc.cs 9 _ (by rw [ea];rfl)
   have d11:=hc.cs 10 _ (by rw [ea];rfl)
   have d12:=hc.cs 11 _ (by rw [ea];rfl)
   have d13:=hc.cs 12 _ (by rw [ea];rfl)
   have q:=hf'.out a hmem _ (wr.alloc (.cells #[.int .u8 c0,.string c1,.string c2,.int .u8 c3,.int .i64 c4,.int .u64 c5,.int .u64 c6,.string c7,.string c8,.int .i64 c9,.int .i64 c10,.slice c11p c11n c11c,.slice c12p c12n c12c,.slice c13p c13n c13c] 92)) (hw.out.alloc _) (by
    have:=hlen'.out
    rw [x0] at x1
    simp only [List.length_append] at x1 ⊢
    omega)
   rw [ea] at q
   have q':=Lib.hid q
   have x0':=Lib.hid x0
   clear q hc x0 x1 ha hmem ea
   go_wp2_with (refine q'.out.mono ?_;rintro e w' ⟨rfl,hw',hf'⟩)
   go_roundw
   case rel=>exact ⟨k + 1,hlt,congrArg (Value.int .i64) a6.out,Lib.hid (by rw [x0'.out,← List.append_assoc];exact hw'),Lib.hid (hfr.out.trans ((Fr.alloc b wr _).trans hf'))⟩
   case measure=>exact step_less k n hlt a6.out
  ·obtain rfl:n = k:=by omega
   have hw2:=Lib.hid (show Wr w0 b m1 m2 e1 e2 (t++flat f l) d wr by
    have:=hw.out
    rwa [List.take_of_length_le (show l.length ≤ n by rw [hn'.out];exact Nat.le_refl _)] at this)
   clear hw hlt hk
   go_wp2
   go_end0
   exact ⟨rfl,hw2.out,hfr.out⟩
set_option maxHeartbeats 4000000 in
set_option maxRecDepth 100000 in
theorem peach_Field {α:Type} (cells:α → List Value) (hC:∀ x,shp_Field (cells x)) (f:α → List UInt8) (g:FuncId) (K:α → Prop) (w0:World) (b m1 m2:Nat) (e1 e2:Array MapEntry) (d:Int) (A:Sl α) (hA:A.In w0 2 cells K) (hl:A.l.length ≤ 1048576)
  (hent:∀ args w,(callFunc g args).run Tryz.prog w = .ok (.enter g args) w)
  (hf:∀ x ∈ A.l,Wm w0 b m1 m2 e1 e2 g (.agg (cells x).toArray) (f x) d)
  (t:List UInt8) (v:World) (h:Wr w0 b m1 m2 e1 e2 t d v) (hlen:t.length + (flat f A.l).length ≤ 140737488355328) :
  Calls Tryz.prog 110 #[A.v,.func (.func g) #[.pointer (some ⟨b,0,none⟩)] #[]] v fun e v'=>e = .returned (.tuple #[]) ∧ Wr w0 b m1 m2 e1 e2 (t++flat f A.l) d v' ∧ Fr b v v':=by
 obtain ⟨p,cap,l⟩:=A
 simp only [Sl.v] at hl hf hlen ⊢
 have hA:=hA.row
 simp only at hA
 obtain ⟨n,hn⟩:∃ n,l.length = n:=⟨_,rfl⟩
 rw [hn] at hl ⊢
 have hA':=Lib.hid hA
 have hn':=Lib.hid hn
 have hl':=Lib.hid hl
 have hf':=Lib.hid hf
 have h':=Lib.hid h
 have hlen':=Lib.hid hlen
 have hC':=Lib.hid hC
 clear hA hn hl hf h hlen hC
 go_enter Tryz.func110,Tryz.ntmps110
 go_wp2
 go_loopw [5,8] (fun _ iv wr=>∃ k:Nat,k ≤ n ∧ iv = .int .i64 (k:Int) ∧ Hid (Wr w0 b m1 m2 e1 e2 (t++flat f (l.take k)) d wr) ∧ Hid (Fr b v wr)) (fun _ iv _=>n - (intOf iv).toNat)
 case atStart=>exact ⟨0,Nat.zero_le _,rfl,Lib.hid (by simpa [flat] using h'.out),Lib.hid (Fr.refl b v)⟩
 case round =>
  obtain ⟨k,hk,rfl,hw,hfr⟩:=hrel
  by_cases hlt:k < n
  ·obtain ⟨a,ha⟩:∃ s,l[k]? = some s:=⟨l[k]'(by rw [hn'.out];exact hlt),List.getElem?_eq_getElem _⟩
   obtain ⟨pa,rfl,hc⟩:=row_over hA'.out hw.out k a ha
   have hmem:=List.mem_of_getElem? ha
   have a6:=Lib.hid (wr_succ k n hlt hl'.out)
   have x0:=flat_take f l k a ha
   have x1:=flat_take_le f l (k + 1)
   obtain ⟨c0,c1,ea⟩:=hC'.out a
   have d0:=hc.c0 _ (by rw [ea];rfl)
   have d1:=hc.cs 0 _ (by rw [ea];rfl)
   have q:=hf'.out a hmem _ (wr.alloc (.cells #[.string c0,.int .i64 c1] 88)) (hw.out.alloc _) (by
    have:=hlen'.out
    rw [x0] at x1
    simp only [List.length_append] at x1 ⊢
    omega)
   rw [ea] at q
   have q':=Lib.hid q
   have x0':=Lib.hid x0
   clear q hc x0 x1 ha hmem ea
   go_wp2_with (refine q'.out.mono ?_;rintro e w' ⟨rfl,hw',hf'⟩)
   go_roundw
   case rel=>exact ⟨k + 1,hlt,congrArg (Value.int .i64) a6.out,Lib.hid (by rw [x0'.out,← List.append_assoc];exact hw'),Lib.hid (hfr.out.trans ((Fr.alloc b wr _).trans hf'))⟩
   case measure=>exact step_less k n hlt a6.out
  ·obtain rfl:n = k:=by omega
   have hw2:=Lib.hid (show Wr w0 b m1 m2 e1 e2 (t++flat f l) d wr by
    have:=hw.out
    rwa [List.take_of_length_le (show l.length ≤ n by rw [hn'.out];exact Nat.le_refl _)] at this)
   clear hw hlt hk
   go_wp2
   go_end0
   exact ⟨rfl,hw2.out,hfr.out⟩
set_option maxHeartbeats 4000000 in
set_option maxRecDepth 100000 in
theorem peach_string (f:ByteArray → List UInt8) (g:FuncId) (K:ByteArray → Prop) (w0:World) (b m1 m2:Nat) (e1 e2:Array MapEntry) (d:Int) (A:Sl ByteArray) (hA:A.In w0 1 strCells K) (hl:A.l.length ≤ 1048576)
  (hent:∀ args w,(callFunc g args).run Tryz.prog w = .ok (.enter g args) w)
  (hf:∀ x ∈ A.l,Wm w0 b m1 m2 e1 e2 g (.string x) (f x) d)
  (t:List UInt8) (v:World) (h:Wr w0 b m1 m2 e1 e2 t d v) (hlen:t.length + (flat f A.l).length ≤ 140737488355328) :
  Calls Tryz.prog 114 #[A.v,.func (.func g) #[.pointer (some ⟨b,0,none⟩)] #[]] v fun e v'=>e = .returned (.tuple #[]) ∧ Wr w0 b m1 m2 e1 e2 (t++flat f A.l) d v' ∧ Fr b v v':=by
 obtain ⟨p,cap,l⟩:=A
 simp only [Sl.v] at hl hf hlen ⊢
 have hA:=hA.row
 simp only at hA
 obtain ⟨n,hn⟩:∃ n,l.length = n:=⟨_,rfl⟩
 rw [hn] at hl ⊢
 have hA':=Lib.hid hA
 have hn':=Lib.hid hn
 have hl':=Lib.hid hl
 have hf':=Lib.hid hf
 have h':=Lib.hid h
 have hlen':=Lib.hid hlen
 clear hA hn hl hf h hlen
 go_enter Tryz.func114,Tryz.ntmps114
 go_wp2
 go_loopw [5,8] (fun _ iv wr=>∃ k:Nat,k ≤ n ∧ iv = .int .i64 (k:Int) ∧ Hid (Wr w0 b m1 m2 e1 e2 (t++flat f (l.take k)) d wr) ∧ Hid (Fr b v wr)) (fun _ iv _=>n - (intOf iv).toNat)
 case atStart=>exact ⟨0,Nat.zero_le _,rfl,Lib.hid (by simpa [flat] using h'.out),Lib.hid (Fr.refl b v)⟩
 case round =>
  obtain ⟨k,hk,rfl,hw,hfr⟩:=hrel
  by_cases hlt:k < n
  ·obtain ⟨a,ha⟩:∃ s,l[k]? = some s:=⟨l[k]'(by rw [hn'.out];exact hlt),List.getElem?_eq_getElem _⟩
   obtain ⟨pa,rfl,hc⟩:=row_over hA'.out hw.out k a ha
   have hmem:=List.mem_of_getElem? ha
   have a6:=Lib.hid (wr_succ k n hlt hl'.out)
   have x0:=flat_take f l k a ha
   have x1:=flat_take_le f l (k + 1)
   have d0:wr.cell? (pa.add (k * 1)) = some (.string a):=hc.c0 _ rfl
   simp only [Nat.mul_one] at d0
   have q:=hf'.out a hmem _ wr hw.out (by
    have:=hlen'.out
    rw [x0] at x1
    simp only [List.length_append] at x1 ⊢
    omega)
   have q':=Lib.hid q
   have x0':=Lib.hid x0
   clear q hc x0 x1 ha hmem
   go_wp2_with (refine q'.out.mono ?_;rintro e w' ⟨rfl,hw',hf'⟩)
   go_roundw
   case rel=>exact ⟨k + 1,hlt,congrArg (Value.int .i64) a6.out,Lib.hid (by rw [x0'.out,← List.append_assoc];exact hw'),Lib.hid (hfr.out.trans hf')⟩
   case measure=>exact step_less k n hlt a6.out
  ·obtain rfl:n = k:=by omega
   have hw2:=Lib.hid (show Wr w0 b m1 m2 e1 e2 (t++flat f l) d wr by
    have:=hw.out
    rwa [List.take_of_length_le (show l.length ≤ n by rw [hn'.out];exact Nat.le_refl _)] at this)
   clear hw hlt hk
   go_wp2
   go_end0
   exact ⟨rfl,hw2.out,hfr.out⟩
set_option maxHeartbeats 4000000 in
set_option maxRecDepth 100000 in
theorem peach_Case {α:Type} (cells:α → List Value) (hC:∀ x,shp_Case (cells x)) (f:α → List UInt8) (g:FuncId) (K:α → Prop) (w0:World) (b m1 m2:Nat) (e1 e2:Array MapEntry) (d:Int) (A:Sl α) (hA:A.In w0 3 cells K) (hl:A.l.length ≤ 1048576)
  (hent:∀ args w,(callFunc g args).run Tryz.prog w = .ok (.enter g args) w)
  (hf:∀ x ∈ A.l,Wm w0 b m1 m2 e1 e2 g (.agg (cells x).toArray) (f x) d)
  (t:List UInt8) (v:World) (h:Wr w0 b m1 m2 e1 e2 t d v) (hlen:t.length + (flat f A.l).length ≤ 140737488355328) :
  Calls Tryz.prog 167 #[A.v,.func (.func g) #[.pointer (some ⟨b,0,none⟩)] #[]] v fun e v'=>e = .returned (.tuple #[]) ∧ Wr w0 b m1 m2 e1 e2 (t++flat f A.l) d v' ∧ Fr b v v':=by
 obtain ⟨p,cap,l⟩:=A
 simp only [Sl.v] at hl hf hlen ⊢
 have hA:=hA.row
 simp only at hA
 obtain ⟨n,hn⟩:∃ n,l.length = n:=⟨_,rfl⟩
 rw [hn] at hl ⊢
 have hA':=Lib.hid hA
 have hn':=Lib.hid hn
 have hl':=Lib.hid hl
 have hf':=Lib.hid hf
 have h':=Lib.hid h
 have hlen':=Lib.hid hlen
 have hC':=Lib.hid hC
 clear hA hn hl hf h hlen hC
 go_enter Tryz.func167,Tryz.ntmps167
 go_wp2
 go_loopw [5,8] (fun _ iv wr=>∃ k:Nat,k ≤ n ∧ iv = .int .i64 (k:Int) ∧ Hid (Wr w0 b m1 m2 e1 e2 (t++flat f (l.take k)) d wr) ∧ Hid (Fr b v wr)) (fun _ iv _=>n - (intOf iv).toNat)
 case atStart=>exact ⟨0,Nat.zero_le _,rfl,Lib.hid (by simpa [flat] using h'.out),Lib.hid (Fr.refl b v)⟩
 case round =>
  obtain ⟨k,hk,rfl,hw,hfr⟩:=hrel
  by_cases hlt:k < n
  ·obtain ⟨a,ha⟩:∃ s,l[k]? = some s:=⟨l[k]'(by rw [hn'.out];exact hlt),List.getElem?_eq_getElem _⟩
   obtain ⟨pa,rfl,hc⟩:=row_over hA'.out hw.out k a ha
   have hmem:=List.mem_of_getElem? ha
   have a6:=Lib.hid (wr_succ k n hlt hl'.out)
   have x0:=flat_take f l k a ha
   have x1:=flat_take_le f l (k + 1)
   obtain ⟨c0,c1p,c1n,c1c,c2,ea⟩:=hC'.out a
   have d0:=hc.c0 _ (by rw [ea];rfl)
   have d1:=hc.cs 0 _ (by rw [ea];rfl)
   have d2:=hc.cs 1 _ (by rw [ea];rfl)
   have q:=hf'.out a hmem _ (wr.alloc (.cells #[.bool c0,.slice c1p c1n c1c,.string c2] 57)) (hw.out.alloc _) (by
    have:=hlen'.out
    rw [x0] at x1
    simp only [List.length_append] at x1 ⊢
    omega)
   rw [ea] at q
   have q':=Lib.hid q
   have x0':=Lib.hid x0
   clear q hc x0 x1 ha hmem ea
   go_wp2_with (refine q'.out.mono ?_;rintro e w' ⟨rfl,hw',hf'⟩)
   go_roundw
   case rel=>exact ⟨k + 1,hlt,congrArg (Value.int .i64) a6.out,Lib.hid (by rw [x0'.out,← List.append_assoc];exact hw'),Lib.hid (hfr.out.trans ((Fr.alloc b wr _).trans hf'))⟩
   case measure=>exact step_less k n hlt a6.out
  ·obtain rfl:n = k:=by omega
   have hw2:=Lib.hid (show Wr w0 b m1 m2 e1 e2 (t++flat f l) d wr by
    have:=hw.out
    rwa [List.take_of_length_le (show l.length ≤ n by rw [hn'.out];exact Nat.le_refl _)] at this)
   clear hw hlt hk
   go_wp2
   go_end0
   exact ⟨rfl,hw2.out,hfr.out⟩
set_option maxHeartbeats 4000000 in
set_option maxRecDepth 100000 in
theorem peach_Key {α:Type} (cells:α → List Value) (hC:∀ x,shp_Key (cells x)) (f:α → List UInt8) (g:FuncId) (K:α → Prop) (w0:World) (b m1 m2:Nat) (e1 e2:Array MapEntry) (d:Int) (A:Sl α) (hA:A.In w0 10 cells K) (hl:A.l.length ≤ 1048576)
  (hent:∀ args w,(callFunc g args).run Tryz.prog w = .ok (.enter g args) w)
  (hf:∀ x ∈ A.l,Wm w0 b m1 m2 e1 e2 g (.agg (cells x).toArray) (f x) d)
  (t:List UInt8) (v:World) (h:Wr w0 b m1 m2 e1 e2 t d v) (hlen:t.length + (flat f A.l).length ≤ 140737488355328) :
  Calls Tryz.prog 153 #[A.v,.func (.func g) #[.pointer (some ⟨b,0,none⟩)] #[]] v fun e v'=>e = .returned (.tuple #[]) ∧ Wr w0 b m1 m2 e1 e2 (t++flat f A.l) d v' ∧ Fr b v v':=by
 obtain ⟨p,cap,l⟩:=A
 simp only [Sl.v] at hl hf hlen ⊢
 have hA:=hA.row
 simp only at hA
 obtain ⟨n,hn⟩:∃ n,l.length = n:=⟨_,rfl⟩
 rw [hn] at hl ⊢
 have hA':=Lib.hid hA
 have hn':=Lib.hid hn
 have hl':=Lib.hid hl
 have hf':=Lib.hid hf
 have h':=Lib.hid h
 have hlen':=Lib.hid hlen
 have hC':=Lib.hid hC
 clear hA hn hl hf h hlen hC
 go_enter Tryz.func153,Tryz.ntmps153
 go_wp2
 go_loopw [5,8] (fun _ iv wr=>∃ k:Nat,k ≤ n ∧ iv = .int .i64 (k:Int) ∧ Hid (Wr w0 b m1 m2 e1 e2 (t++flat f (l.take k)) d wr) ∧ Hid (Fr b v wr)) (fun _ iv _=>n - (intOf iv).toNat)
 case atStart=>exact ⟨0,Nat.zero_le _,rfl,Lib.hid (by simpa [flat] using h'.out),Lib.hid (Fr.refl b v)⟩
 case round =>
  obtain ⟨k,hk,rfl,hw,hfr⟩:=hrel
  by_cases hlt:k < n
  ·obtain ⟨a,ha⟩:∃ s,l[k]? = some s:=⟨l[k]'(by rw [hn'.out];exact hlt),List.getElem?_eq_getElem _⟩
   obtain ⟨pa,rfl,hc⟩:=row_over hA'.out hw.out k a ha
   have hmem:=List.mem_of_getElem? ha
   have a6:=Lib.hid (wr_succ k n hlt hl'.out)
   have x0:=flat_take f l k a ha
   have x1:=flat_take_le f l (k + 1)
   obtain ⟨c0,c1,c2,c3,c4,c5,c6,c7,c8p,c8n,c8c,c9,ea⟩:=hC'.out a
   have d0:=hc.c0 _ (by rw [ea];rfl)
   have d1:=hc.cs 0 _ (by rw [ea];rfl)
   have d2:=hc.cs 1 _ (by rw [ea];rfl)
   have d3:=hc.cs 2 _ (by rw [ea];rfl)
   have d4:=hc.cs 3 _ (by rw [ea];rfl)
   have d5:=hc.cs 4 _ (by rw [ea];rfl)
   have d6:=hc.cs 5 _ (by rw [ea];rfl)
   have d7:=hc.cs 6 _ (by rw [ea];rfl)
   have d8:=hc.cs 7 _ (by rw [ea];rfl)
   have d9:=hc.cs 8 _ (by rw [ea];rfl)
   have q:=hf'.out a hmem _ (wr.alloc (.cells #[.int .u8 c0,.int .i64 c1,.int .u64 c2,.int .u64 c3,.string c4,.string c5,.int .i64 c6,.int .i64 c7,.slice c8p c8n c8c,.int .u8 c9] 67)) (hw.out.alloc _) (by
    have:=hlen'.out
    rw [x0] at x1
    simp only [List.length_append] at x1 ⊢
    omega)
   rw [ea] at q
   have q':=Lib.hid q
   have x0':=Lib.hid x0
   clear q hc x0 x1 ha hmem ea
   go_wp2_with (refine q'.out.mono ?_;rintro e w' ⟨rfl,hw',hf'⟩)
   go_roundw
   case rel=>exact ⟨k + 1,hlt,congrArg (Value.int .i64) a6.out,Lib.hid (by rw [x0'.out,← List.append_assoc];exact hw'),Lib.hid (hfr.out.trans ((Fr.alloc b wr _).trans hf'))⟩
   case measure=>exact step_less k n hlt a6.out
  ·obtain rfl:n = k:=by omega
   have hw2:=Lib.hid (show Wr w0 b m1 m2 e1 e2 (t++flat f l) d wr by
    have:=hw.out
    rwa [List.take_of_length_le (show l.length ≤ n by rw [hn'.out];exact Nat.le_refl _)] at this)
   clear hw hlt hk
   go_wp2
   go_end0
   exact ⟨rfl,hw2.out,hfr.out⟩
end Go.Proofs.YtbelaghcmgefaaaGreatDoor
