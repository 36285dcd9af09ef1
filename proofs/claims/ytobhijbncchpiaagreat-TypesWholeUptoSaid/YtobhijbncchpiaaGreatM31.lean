/-
  WHAT IS PROVED HERE: a part of the proof (made narrower and merged by program; the parts: Zr Zs).
-/
import Derived.Test.YtobhijbncchpiaaGreatM26
import Derived.Test.YtobhijbncchpiaaGreatM30
namespace Go.Proofs.YtobhijbncchpiaaGreat
open Go.RowKit Go.Shelf
def wrN (p:Pr) (kind:Int) (a b:Nat):Int :=
 if kind=1 then (match p.headers.l[a]? with | some x=>(wHdI p a x) | none=>0) else
 if kind=2 then (match p.headers.l[a]? with | some x=>(match x.fields.l[b]? with | some y=>(if fieldI p (a:Int) y.name=(b:Int) then 0 else 8) | none=>0) | none=>0) else
 if kind=3 then (match p.metas.l[a]? with | some x=>(if fdI p.metas.l x.name=(a:Int) then 0 else 8) | none=>0) else
 if kind=4 then (match p.states.l[a]? with | some x=>(if (stI p.states.l x.name).1=(a:Int) then 0 else 8) | none=>0) else
 if kind=5 then (match p.states.l[a]? with | some x=>(match x.takes.l[b]? with | some y=>(if hdI p.headers.l y=-1 then 7 else 0) | none=>0) | none=>0) else
 if kind=6 then (match p.states.l[a]? with | some x=>(wNxI p x) | none=>0) else
 if kind=7 then (match p.states.l[a]? with | some x=>(match x.cases.l[b]? with | some y=>(if (stI p.states.l y.to).2 then 0 else 7) | none=>0) | none=>0) else
 if kind=8 then (match p.actions.l[a]? with | some x=>(if acI p.actions.l x.name=(a:Int) then 0 else 8) | none=>0) else
 if kind=9 then (match p.actions.l[a]? with | some x=>(match x.params.l[b]? with | some y=>(if paramI p (a:Int) y.name=(b:Int) then 0 else 8) | none=>0) | none=>0) else
 if kind=11 then (match p.tables.l[a]? with | some x=>(if taI p.tables.l x.name=(a:Int) then 0 else 8) | none=>0) else
 if kind=12 then (match p.tables.l[a]? with | some x=>(match x.keys.l[b]? with | some y=>(if y.e.there (isB p (-1)) then 0 else 7) | none=>0) | none=>0) else
 if kind=13 then (match p.tables.l[a]? with | some x=>(match x.actions.l[b]? with | some y=>(if acI p.actions.l y=-1 then 7 else if nmI x.actions.l y=(b:Int) then 0 else 8) | none=>0) | none=>0) else
 if kind=14 then (match p.tables.l[a]? with | some x=>(wDfI x.actions.l x.dflt.name x.dflt.args.l.length (match p.actions.l[(acI p.actions.l x.dflt.name).toNat]? with | some z=>z.params.l.length | none=>0)) | none=>0) else
 if kind=15 then (match p.emit.l[a]? with | some x=>(if hdI p.headers.l x=-1 then 7 else if nmI p.emit.l x=(a:Int) then 0 else 8) | none=>0) else
 0
/-- What is wrong with an item: an error's number; 0: nothing. -/
def wrI (p:Pr):It→Int
 | .st a s=>wStI p a s.kind s.head s.name (if s.e.there (isB p a) then 0 else 7)
 | .num kind a b=>wrN p kind a b
/-- An item that stands in the program. -/
inductive OkIt (p:Pr) (w:World):It→Prop where
 | header (a:Nat) (x:Hr) (hx:p.headers.l[a]?=some x):OkIt p w (.num 1 a 0)
 | field (a b:Nat) (x:Hr) (y:Fd) (hx:p.headers.l[a]?=some x) (hy:x.fields.l[b]?=some y):OkIt p w (.num 2 a b)
 | mta (a:Nat) (x:Fd) (hx:p.metas.l[a]?=some x):OkIt p w (.num 3 a 0)
 | state (a:Nat) (x:Sa) (hx:p.states.l[a]?=some x):OkIt p w (.num 4 a 0)
 | take (a b:Nat) (x:Sa) (y:ByteArray) (hx:p.states.l[a]?=some x) (hy:x.takes.l[b]?=some y):OkIt p w (.num 5 a b)
 | next (a:Nat) (x:Sa) (hx:p.states.l[a]?=some x):OkIt p w (.num 6 a 0)
 | case_ (a b:Nat) (x:Sa) (y:Ca) (hx:p.states.l[a]?=some x) (hy:x.cases.l[b]?=some y):OkIt p w (.num 7 a b)
 | action (a:Nat) (x:Ac) (hx:p.actions.l[a]?=some x):OkIt p w (.num 8 a 0)
 | param (a b:Nat) (x:Ac) (y:Fd) (hx:p.actions.l[a]?=some x) (hy:x.params.l[b]?=some y):OkIt p w (.num 9 a b)
 | table (a:Nat) (x:Ta) (hx:p.tables.l[a]?=some x):OkIt p w (.num 11 a 0)
 | key (a b:Nat) (x:Ta) (y:Ke) (hx:p.tables.l[a]?=some x) (hy:x.keys.l[b]?=some y):OkIt p w (.num 12 a b)
 | listed (a b:Nat) (x:Ta) (y:ByteArray) (hx:p.tables.l[a]?=some x) (hy:x.actions.l[b]?=some y):OkIt p w (.num 13 a b)
 | dflt (a:Nat) (x:Ta) (hx:p.tables.l[a]?=some x):OkIt p w (.num 14 a 0)
 | emit (a:Nat) (x:ByteArray) (hx:p.emit.l[a]?=some x):OkIt p w (.num 15 a 0)
 | stmt (a:Int) (s:St) (hs:s.In w) (hz:s.sz≤1048576):OkIt p w (.st a s)
theorem mem_flI {α:Type} (f:Nat→α→List It) (z:It):∀ (l:List α) (b:Nat),z ∈ flI f b l→∃ i x,l[i]?=some x∧z ∈ f (b+i) x
 | [],_,h=>by cases h
 | x :: l,b,h=>by
  rcases List.mem_append.1 h with h | h
  ·exact⟨0,x,rfl,h⟩
  ·obtain⟨i,y,hi,hz⟩:=mem_flI f z l (b+1) h
   exact⟨i+1,y,by simpa using hi,by rw [show b+(i+1)=b+1+i by omega];exact hz⟩
theorem mem_ptI {kind:Int} {a n:Nat} {z:It} (h:z ∈ ptI kind a n):∃ j,j < n∧z=.num kind a j:=by
 obtain⟨j,hj,e⟩:=List.mem_map.1 h
 exact⟨j,List.mem_range.1 hj,e.symm⟩
theorem ok_stmts (p:Pr) (w:World) (a:Int):∀ s:St,s.In w→s.sz≤1048576→∀ z ∈ s.enc a,OkIt p w z:=fun s=>St.ind (Q:=fun s=>s.In w→s.sz≤1048576→∀ z ∈ s.enc a,OkIt p w z) (fun s h1 h2 hin hz z hm=>by
 have e:=St.sz_eq s
 rw [St.enc_eq] at hm
 rcases List.mem_cons.1 hm with rfl | hm
 ·exact .stmt a s hin hz
 rcases List.mem_append.1 hm with hm | hm
 ·rw [St.encs_fl a _ 0] at hm
  obtain⟨i,x,hx,hzx⟩:=mem_flI _ z _ 0 hm
  have hmem:=List.mem_of_getElem? hx
  exact h1 x hmem ((St.In.inThn hin).kids x hmem) (by have:=le_sum_of St.sz s.thn x hmem;omega) z hzx
 ·rw [St.encs_fl a _ 0] at hm
  obtain⟨i,x,hx,hzx⟩:=mem_flI _ z _ 0 hm
  have hmem:=List.mem_of_getElem? hx
  exact h2 x hmem ((St.In.inEls hin).kids x hmem) (by have:=le_sum_of St.sz s.els x hmem;omega) z hzx) s
theorem ok_block (p:Pr) (w:World) (a:Int) (L:Sl St) (hin:L.In w 14 St.cells (St.In w)) (hz:L.size St.sz≤1048576):∀ z ∈ St.encs a L.l,OkIt p w z:=fun z hm=>by
 rw [St.encs_fl a _ 0] at hm
 obtain⟨i,x,hx,hzx⟩:=mem_flI _ z _ 0 hm
 have hmem:=List.mem_of_getElem? hx
 exact ok_stmts p w a x (hin.kids x hmem) (by have:=le_sum_of St.sz L.l x hmem;unfold Sl.size at hz;omega) z hzx
theorem get_lt {α:Type} {l:List α} {j:Nat} (h:j < l.length):∃ y,l[j]?=some y:=⟨l[j],List.getElem?_eq_getElem h⟩
theorem enc_ok (p:Pr) (w:World) (hin:p.In w) (hz:p.sz≤1048576):∀ z ∈ encP p,OkIt p w z:=by
 intro z hm
 unfold Pr.sz at hz
 unfold encP at hm
 rcases List.mem_append.1 hm with hm | hm
 ·obtain⟨i,x,hx,hm⟩:=mem_flI _ z _ 0 hm
  rw [Nat.zero_add] at hm
  rcases List.mem_cons.1 hm with rfl | hm
  ·exact .header i x hx
  ·obtain⟨j,hj,rfl⟩:=mem_ptI hm
   obtain⟨y,hy⟩:=get_lt hj
   exact .field i j x y hx hy
 rcases List.mem_append.1 hm with hm | hm
 ·obtain⟨i,x,hx,hm⟩:=mem_flI _ z _ 0 hm
  rw [Nat.zero_add] at hm
  obtain rfl:=List.mem_singleton.1 hm
  exact .mta i x hx
 rcases List.mem_append.1 hm with hm | hm
 ·obtain⟨i,x,hx,hm⟩:=mem_flI _ z _ 0 hm
  rw [Nat.zero_add] at hm
  rcases List.mem_cons.1 hm with rfl | hm
  ·exact .state i x hx
  rcases List.mem_append.1 hm with hm | hm
  ·obtain⟨j,hj,rfl⟩:=mem_ptI hm
   obtain⟨y,hy⟩:=get_lt hj
   exact .take i j x y hx hy
  rcases List.mem_cons.1 hm with rfl | hm
  ·exact .next i x hx
  ·obtain⟨j,hj,rfl⟩:=mem_ptI hm
   obtain⟨y,hy⟩:=get_lt hj
   exact .case_ i j x y hx hy
 rcases List.mem_append.1 hm with hm | hm
 ·obtain⟨i,x,hx,hm⟩:=mem_flI _ z _ 0 hm
  rw [Nat.zero_add] at hm
  have hmem:=List.mem_of_getElem? hx
  rcases List.mem_cons.1 hm with rfl | hm
  ·exact .action i x hx
  rcases List.mem_append.1 hm with hm | hm
  ·obtain⟨j,hj,rfl⟩:=mem_ptI hm
   obtain⟨y,hy⟩:=get_lt hj
   exact .param i j x y hx hy
  ·exact ok_block p w _ x.body (hin.actions.kids x hmem).body (by have:=le_sum_of Ac.sz p.actions.l x hmem;unfold Ac.sz Sl.size at *;omega) z hm
 rcases List.mem_append.1 hm with hm | hm
 ·obtain⟨i,x,hx,hm⟩:=mem_flI _ z _ 0 hm
  rw [Nat.zero_add] at hm
  rcases List.mem_cons.1 hm with rfl | hm
  ·exact .table i x hx
  rcases List.mem_append.1 hm with hm | hm
  ·obtain⟨j,hj,rfl⟩:=mem_ptI hm
   obtain⟨y,hy⟩:=get_lt hj
   exact .key i j x y hx hy
  rcases List.mem_append.1 hm with hm | hm
  ·obtain⟨j,hj,rfl⟩:=mem_ptI hm
   obtain⟨y,hy⟩:=get_lt hj
   exact .listed i j x y hx hy
  ·obtain rfl:=List.mem_singleton.1 hm
   exact .dflt i x hx
 rcases List.mem_append.1 hm with hm | hm
 ·exact ok_block p w _ p.control hin.control (by unfold Sl.size at *;omega) z hm
 ·obtain⟨i,x,hx,hm⟩:=mem_flI _ z _ 0 hm
  rw [Nat.zero_add] at hm
  obtain rfl:=List.mem_singleton.1 hm
  exact .emit i x hx
theorem acI_some {l:List Ac} {s:ByteArray} (h:acI l s≠-1):∃ (k:Nat) (x:Ac),acI l s=(k:Int)∧l[k]?=some x:=by
 have q:=firstI_ge (fun x:Ac=>x.name.toList == s.toList) l 0
 have e:acI l s=firstI (fun x:Ac=>x.name.toList == s.toList) l 0:=rfl
 rw [← e] at q
 rcases q with q | ⟨q1,q2⟩
 ·exact absurd q h
 ·obtain⟨y,hy⟩:=get_lt (l:=l) (j:=(acI l s).toNat) (by omega)
  exact⟨_,y,by omega,hy⟩
set_option maxRecDepth 100000 in
set_option maxHeartbeats 2000000 in
theorem wz_header (p:Pr) (w:World) (hin:p.In w) (hz:p.sz≤1048576) (a:Nat) (x:Hr) (hx:p.headers.l[a]?=some x):Kp Tryz.prog w 31 #[.agg #[.slice p.headers.p p.headers.l.length p.headers.cap,.slice p.metas.p p.metas.l.length p.metas.cap,.slice p.states.p p.states.l.length p.states.cap,.slice p.actions.p p.actions.l.length p.actions.cap,.slice p.tables.p p.tables.l.length p.tables.cap,.slice p.control.p p.control.l.length p.control.cap,.slice p.emit.p p.emit.l.length p.emit.cap],It.v (.num 1 a 0)] (.int .i64 (wrI p (.num 1 a 0))):=by
 have hv:wrI p (.num 1 a 0)=wHdI p a x:=by simp [wrI,wrN,hx]
 rw [hv]
 have hm:=List.mem_of_getElem? hx
 exact w_header _ _ _ _ _ _ _ _ _ _ _ _ _ _ _ _ _ _ _ _ _ _ _ _ _ _ _ _ _ _ _ _ _ _ _ _ _ _ _ _ _ _ _ _ (q_wrongHeader p w hin hz a x hx)
set_option maxRecDepth 100000 in
set_option maxHeartbeats 2000000 in
theorem wz_field (p:Pr) (w:World) (hin:p.In w) (hz:p.sz≤1048576) (a b:Nat) (x:Hr) (y:Fd) (hx:p.headers.l[a]?=some x) (hy:x.fields.l[b]?=some y):Kp Tryz.prog w 31 #[.agg #[.slice p.headers.p p.headers.l.length p.headers.cap,.slice p.metas.p p.metas.l.length p.metas.cap,.slice p.states.p p.states.l.length p.states.cap,.slice p.actions.p p.actions.l.length p.actions.cap,.slice p.tables.p p.tables.l.length p.tables.cap,.slice p.control.p p.control.l.length p.control.cap,.slice p.emit.p p.emit.l.length p.emit.cap],It.v (.num 2 a b)] (.int .i64 (wrI p (.num 2 a b))):=by
 have hv:wrI p (.num 2 a b)=if fieldI p (a:Int) y.name=(b:Int) then 0 else 8:=by simp [wrI,wrN,hx,hy]
 rw [hv]
 have hm:=List.mem_of_getElem? hx
 have hm2:=List.mem_of_getElem? hy
 obtain⟨pa,hp,hc⟩:=hin.headers.row a x hx
 have hl:=(List.getElem?_eq_some_iff.1 hx).1
 have hc1:CellsAt w (pa.add (a*2)) [.string x.name,.slice x.fields.p x.fields.l.length x.fields.cap]:=hc
 obtain⟨pb,hpb,hc2⟩:=(hin.headers.kids x hm).fields.row b y hy
 have hl2:=(List.getElem?_eq_some_iff.1 hy).1
 rw [hpb] at hc1
 have h1:=q_Field p w hin hz (a:Int) y.name
 have h2:=q_alone (fieldI p (a:Int) y.name) (b:Int) w
 rw [hp] at h1 ⊢
 exact w_field _ _ _ _ _ _ _ _ _ _ _ _ _ _ _ _ _ _ _ _ _ _ _ _ _ _ _ _ _ _ _ _ _ _ _ _ _ _ _ _ _ _ _ _ _ _ _ _ _ _ (a) (hl) (hc1) (b) (hl2) (hc2) (h1) (h2)
set_option maxRecDepth 100000 in
set_option maxHeartbeats 2000000 in
theorem wz_mta (p:Pr) (w:World) (hin:p.In w) (hz:p.sz≤1048576) (a:Nat) (x:Fd) (hx:p.metas.l[a]?=some x):Kp Tryz.prog w 31 #[.agg #[.slice p.headers.p p.headers.l.length p.headers.cap,.slice p.metas.p p.metas.l.length p.metas.cap,.slice p.states.p p.states.l.length p.states.cap,.slice p.actions.p p.actions.l.length p.actions.cap,.slice p.tables.p p.tables.l.length p.tables.cap,.slice p.control.p p.control.l.length p.control.cap,.slice p.emit.p p.emit.l.length p.emit.cap],It.v (.num 3 a 0)] (.int .i64 (wrI p (.num 3 a 0))):=by
 have hv:wrI p (.num 3 a 0)=if fdI p.metas.l x.name=(a:Int) then 0 else 8:=by simp [wrI,wrN,hx]
 rw [hv]
 have hm:=List.mem_of_getElem? hx
 obtain⟨pa,hp,hc⟩:=hin.metas.row a x hx
 have hl:=(List.getElem?_eq_some_iff.1 hx).1
 have hc1:CellsAt w (pa.add (a*2)) [.string x.name,.int .i64 x.w]:=hc
 have h1:=q_Meta p w hin hz x.name
 have h2:=q_alone (fdI p.metas.l x.name) (a:Int) w
 rw [hp] at h1 ⊢
 exact w_meta _ _ _ _ _ _ _ _ _ _ _ _ _ _ _ _ _ _ _ _ _ _ _ _ _ _ _ _ _ _ _ _ _ _ _ _ _ _ _ _ _ _ _ _ _ _ (a) (hl) (hc1) (h1) (h2)
set_option maxRecDepth 100000 in
set_option maxHeartbeats 2000000 in
theorem wz_state (p:Pr) (w:World) (hin:p.In w) (hz:p.sz≤1048576) (a:Nat) (x:Sa) (hx:p.states.l[a]?=some x):Kp Tryz.prog w 31 #[.agg #[.slice p.headers.p p.headers.l.length p.headers.cap,.slice p.metas.p p.metas.l.length p.metas.cap,.slice p.states.p p.states.l.length p.states.cap,.slice p.actions.p p.actions.l.length p.actions.cap,.slice p.tables.p p.tables.l.length p.tables.cap,.slice p.control.p p.control.l.length p.control.cap,.slice p.emit.p p.emit.l.length p.emit.cap],It.v (.num 4 a 0)] (.int .i64 (wrI p (.num 4 a 0))):=by
 have hv:wrI p (.num 4 a 0)=if (stI p.states.l x.name).1=(a:Int) then 0 else 8:=by simp [wrI,wrN,hx]
 rw [hv]
 have hm:=List.mem_of_getElem? hx
 obtain⟨pa,hp,hc⟩:=hin.states.row a x hx
 have hl:=(List.getElem?_eq_some_iff.1 hx).1
 have hc1:CellsAt w (pa.add (a*5)) [.string x.name,.slice x.takes.p x.takes.l.length x.takes.cap,.string x.to,.slice x.keys.p x.keys.l.length x.keys.cap,.slice x.cases.p x.cases.l.length x.cases.cap]:=hc
 have h1:=q_State p w hin hz x.name
 have h2:=q_alone (stI p.states.l x.name).1 (a:Int) w
 rw [hp] at h1 ⊢
 exact w_state _ _ _ _ _ _ _ _ _ _ _ _ _ _ _ _ _ _ _ _ _ _ _ _ _ _ _ _ _ _ _ _ _ _ _ _ _ _ _ _ _ _ _ _ _ _ _ _ _ _ _ _ _ _ _ _ (a) (hl) (hc1) (h1) (h2)
set_option maxRecDepth 100000 in
set_option maxHeartbeats 2000000 in
theorem wz_take (p:Pr) (w:World) (hin:p.In w) (hz:p.sz≤1048576) (a b:Nat) (x:Sa) (y:ByteArray) (hx:p.states.l[a]?=some x) (hy:x.takes.l[b]?=some y):Kp Tryz.prog w 31 #[.agg #[.slice p.headers.p p.headers.l.length p.headers.cap,.slice p.metas.p p.metas.l.length p.metas.cap,.slice p.states.p p.states.l.length p.states.cap,.slice p.actions.p p.actions.l.length p.actions.cap,.slice p.tables.p p.tables.l.length p.tables.cap,.slice p.control.p p.control.l.length p.control.cap,.slice p.emit.p p.emit.l.length p.emit.cap],It.v (.num 5 a b)] (.int .i64 (wrI p (.num 5 a b))):=by
 have hv:wrI p (.num 5 a b)=if hdI p.headers.l y=-1 then 7 else 0:=by simp [wrI,wrN,hx,hy]
 rw [hv]
 have hm:=List.mem_of_getElem? hx
 have hm2:=List.mem_of_getElem? hy
 obtain⟨pa,hp,hc⟩:=hin.states.row a x hx
 have hl:=(List.getElem?_eq_some_iff.1 hx).1
 have hc1:CellsAt w (pa.add (a*5)) [.string x.name,.slice x.takes.p x.takes.l.length x.takes.cap,.string x.to,.slice x.keys.p x.keys.l.length x.keys.cap,.slice x.cases.p x.cases.l.length x.cases.cap]:=hc
 obtain⟨pb,hpb,hc2⟩:=(hin.states.kids x hm).takes.row b y hy
 have hl2:=(List.getElem?_eq_some_iff.1 hy).1
 rw [hpb] at hc1
 have h1:=q_Header p w hin hz y
 have h2:=q_known (hdI p.headers.l y) w
 rw [hp] at h1 ⊢
 exact w_take _ _ _ _ _ _ _ _ _ _ _ _ _ _ _ _ _ _ _ _ _ _ _ _ _ _ _ _ _ _ _ _ _ _ _ _ _ _ _ _ _ _ _ _ _ _ _ _ _ _ _ _ _ _ _ _ (a) (hl) (hc1) (b) (hl2) (hc2) (h1) (h2)
set_option maxRecDepth 100000 in
set_option maxHeartbeats 2000000 in
theorem wz_next (p:Pr) (w:World) (hin:p.In w) (hz:p.sz≤1048576) (a:Nat) (x:Sa) (hx:p.states.l[a]?=some x):Kp Tryz.prog w 31 #[.agg #[.slice p.headers.p p.headers.l.length p.headers.cap,.slice p.metas.p p.metas.l.length p.metas.cap,.slice p.states.p p.states.l.length p.states.cap,.slice p.actions.p p.actions.l.length p.actions.cap,.slice p.tables.p p.tables.l.length p.tables.cap,.slice p.control.p p.control.l.length p.control.cap,.slice p.emit.p p.emit.l.length p.emit.cap],It.v (.num 6 a 0)] (.int .i64 (wrI p (.num 6 a 0))):=by
 have hv:wrI p (.num 6 a 0)=wNxI p x:=by simp [wrI,wrN,hx]
 rw [hv]
 have hm:=List.mem_of_getElem? hx
 obtain⟨pa,hp,hc⟩:=hin.states.row a x hx
 have hl:=(List.getElem?_eq_some_iff.1 hx).1
 have hc1:CellsAt w (pa.add (a*5)) [.string x.name,.slice x.takes.p x.takes.l.length x.takes.cap,.string x.to,.slice x.keys.p x.keys.l.length x.keys.cap,.slice x.cases.p x.cases.l.length x.cases.cap]:=hc
 have h1:=q_wrongNext p w hin hz x (hin.states.kids x hm) (by have:=le_sum_of Sa.sz p.states.l x hm;unfold Pr.sz Sl.size at hz;omega)
 rw [hp] at h1 ⊢
 simp only [Sa.cells,Sl.v] at h1
 exact w_next _ _ _ _ _ _ _ _ _ _ _ _ _ _ _ _ _ _ _ _ _ _ _ _ _ _ _ _ _ _ _ _ _ _ _ _ _ _ _ _ _ _ _ _ _ _ _ _ _ _ _ _ _ _ (a) (hl) (hc1) (h1)
set_option maxRecDepth 100000 in
set_option maxHeartbeats 2000000 in
theorem wz_case_ (p:Pr) (w:World) (hin:p.In w) (hz:p.sz≤1048576) (a b:Nat) (x:Sa) (y:Ca) (hx:p.states.l[a]?=some x) (hy:x.cases.l[b]?=some y):Kp Tryz.prog w 31 #[.agg #[.slice p.headers.p p.headers.l.length p.headers.cap,.slice p.metas.p p.metas.l.length p.metas.cap,.slice p.states.p p.states.l.length p.states.cap,.slice p.actions.p p.actions.l.length p.actions.cap,.slice p.tables.p p.tables.l.length p.tables.cap,.slice p.control.p p.control.l.length p.control.cap,.slice p.emit.p p.emit.l.length p.emit.cap],It.v (.num 7 a b)] (.int .i64 (wrI p (.num 7 a b))):=by
 have hv:wrI p (.num 7 a b)=if (stI p.states.l y.to).2 then 0 else 7:=by simp [wrI,wrN,hx,hy]
 rw [hv]
 have hm:=List.mem_of_getElem? hx
 have hm2:=List.mem_of_getElem? hy
 obtain⟨pa,hp,hc⟩:=hin.states.row a x hx
 have hl:=(List.getElem?_eq_some_iff.1 hx).1
 have hc1:CellsAt w (pa.add (a*5)) [.string x.name,.slice x.takes.p x.takes.l.length x.takes.cap,.string x.to,.slice x.keys.p x.keys.l.length x.keys.cap,.slice x.cases.p x.cases.l.length x.cases.cap]:=hc
 obtain⟨pb,hpb,hc2⟩:=(hin.states.kids x hm).cases.row b y hy
 have hl2:=(List.getElem?_eq_some_iff.1 hy).1
 rw [hpb] at hc1
 have h1:=q_wrongTarget p w hin hz y.to
 rw [hp] at h1 ⊢
 exact w_case_ _ _ _ _ _ _ _ _ _ _ _ _ _ _ _ _ _ _ _ _ _ _ _ _ _ _ _ _ _ _ _ _ _ _ _ _ _ _ _ _ _ _ _ _ _ _ _ _ _ _ _ _ _ _ _ _ _ _ _ (a) (hl) (hc1) (b) (hl2) (hc2) (h1)
set_option maxRecDepth 100000 in
set_option maxHeartbeats 2000000 in
theorem wz_action (p:Pr) (w:World) (hin:p.In w) (hz:p.sz≤1048576) (a:Nat) (x:Ac) (hx:p.actions.l[a]?=some x):Kp Tryz.prog w 31 #[.agg #[.slice p.headers.p p.headers.l.length p.headers.cap,.slice p.metas.p p.metas.l.length p.metas.cap,.slice p.states.p p.states.l.length p.states.cap,.slice p.actions.p p.actions.l.length p.actions.cap,.slice p.tables.p p.tables.l.length p.tables.cap,.slice p.control.p p.control.l.length p.control.cap,.slice p.emit.p p.emit.l.length p.emit.cap],It.v (.num 8 a 0)] (.int .i64 (wrI p (.num 8 a 0))):=by
 have hv:wrI p (.num 8 a 0)=if acI p.actions.l x.name=(a:Int) then 0 else 8:=by simp [wrI,wrN,hx]
 rw [hv]
 have hm:=List.mem_of_getElem? hx
 obtain⟨pa,hp,hc⟩:=hin.actions.row a x hx
 have hl:=(List.getElem?_eq_some_iff.1 hx).1
 have hc1:CellsAt w (pa.add (a*3)) [.string x.name,.slice x.params.p x.params.l.length x.params.cap,.slice x.body.p x.body.l.length x.body.cap]:=hc
 have h1:=q_Action p w hin hz x.name
 have h2:=q_alone (acI p.actions.l x.name) (a:Int) w
 rw [hp] at h1 ⊢
 exact w_action _ _ _ _ _ _ _ _ _ _ _ _ _ _ _ _ _ _ _ _ _ _ _ _ _ _ _ _ _ _ _ _ _ _ _ _ _ _ _ _ _ _ _ _ _ _ _ _ _ _ _ (a) (hl) (hc1) (h1) (h2)
set_option maxRecDepth 100000 in
set_option maxHeartbeats 2000000 in
theorem wz_param (p:Pr) (w:World) (hin:p.In w) (hz:p.sz≤1048576) (a b:Nat) (x:Ac) (y:Fd) (hx:p.actions.l[a]?=some x) (hy:x.params.l[b]?=some y):Kp Tryz.prog w 31 #[.agg #[.slice p.headers.p p.headers.l.length p.headers.cap,.slice p.metas.p p.metas.l.length p.metas.cap,.slice p.states.p p.states.l.length p.states.cap,.slice p.actions.p p.actions.l.length p.actions.cap,.slice p.tables.p p.tables.l.length p.tables.cap,.slice p.control.p p.control.l.length p.control.cap,.slice p.emit.p p.emit.l.length p.emit.cap],It.v (.num 9 a b)] (.int .i64 (wrI p (.num 9 a b))):=by
 have hv:wrI p (.num 9 a b)=if paramI p (a:Int) y.name=(b:Int) then 0 else 8:=by simp [wrI,wrN,hx,hy]
 rw [hv]
 have hm:=List.mem_of_getElem? hx
 have hm2:=List.mem_of_getElem? hy
 obtain⟨pa,hp,hc⟩:=hin.actions.row a x hx
 have hl:=(List.getElem?_eq_some_iff.1 hx).1
 have hc1:CellsAt w (pa.add (a*3)) [.string x.name,.slice x.params.p x.params.l.length x.params.cap,.slice x.body.p x.body.l.length x.body.cap]:=hc
 obtain⟨pb,hpb,hc2⟩:=(hin.actions.kids x hm).params.row b y hy
 have hl2:=(List.getElem?_eq_some_iff.1 hy).1
 rw [hpb] at hc1
 have h1:=q_Param p w hin hz (a:Int) y.name
 have h2:=q_alone (paramI p (a:Int) y.name) (b:Int) w
 rw [hp] at h1 ⊢
 exact w_param _ _ _ _ _ _ _ _ _ _ _ _ _ _ _ _ _ _ _ _ _ _ _ _ _ _ _ _ _ _ _ _ _ _ _ _ _ _ _ _ _ _ _ _ _ _ _ _ _ _ _ _ _ (a) (hl) (hc1) (b) (hl2) (hc2) (h1) (h2)
set_option maxRecDepth 100000 in
set_option maxHeartbeats 2000000 in
theorem wz_table (p:Pr) (w:World) (hin:p.In w) (hz:p.sz≤1048576) (a:Nat) (x:Ta) (hx:p.tables.l[a]?=some x):Kp Tryz.prog w 31 #[.agg #[.slice p.headers.p p.headers.l.length p.headers.cap,.slice p.metas.p p.metas.l.length p.metas.cap,.slice p.states.p p.states.l.length p.states.cap,.slice p.actions.p p.actions.l.length p.actions.cap,.slice p.tables.p p.tables.l.length p.tables.cap,.slice p.control.p p.control.l.length p.control.cap,.slice p.emit.p p.emit.l.length p.emit.cap],It.v (.num 11 a 0)] (.int .i64 (wrI p (.num 11 a 0))):=by
 have hv:wrI p (.num 11 a 0)=if taI p.tables.l x.name=(a:Int) then 0 else 8:=by simp [wrI,wrN,hx]
 rw [hv]
 have hm:=List.mem_of_getElem? hx
 obtain⟨pa,hp,hc⟩:=hin.tables.row a x hx
 have hl:=(List.getElem?_eq_some_iff.1 hx).1
 have hc1:CellsAt w (pa.add (a*5)) [.string x.name,.slice x.keys.p x.keys.l.length x.keys.cap,.slice x.actions.p x.actions.l.length x.actions.cap,.string x.dflt.name,.slice x.dflt.args.p x.dflt.args.l.length x.dflt.args.cap]:=hc
 have h1:=q_Table p w hin hz x.name
 have h2:=q_alone (taI p.tables.l x.name) (a:Int) w
 rw [hp] at h1 ⊢
 exact w_table _ _ _ _ _ _ _ _ _ _ _ _ _ _ _ _ _ _ _ _ _ _ _ _ _ _ _ _ _ _ _ _ _ _ _ _ _ _ _ _ _ _ _ _ _ _ _ _ _ _ _ _ _ _ _ (a) (hl) (hc1) (h1) (h2)
set_option maxRecDepth 100000 in
set_option maxHeartbeats 2000000 in
theorem wz_key (p:Pr) (w:World) (hin:p.In w) (hz:p.sz≤1048576) (a b:Nat) (x:Ta) (y:Ke) (hx:p.tables.l[a]?=some x) (hy:x.keys.l[b]?=some y):Kp Tryz.prog w 31 #[.agg #[.slice p.headers.p p.headers.l.length p.headers.cap,.slice p.metas.p p.metas.l.length p.metas.cap,.slice p.states.p p.states.l.length p.states.cap,.slice p.actions.p p.actions.l.length p.actions.cap,.slice p.tables.p p.tables.l.length p.tables.cap,.slice p.control.p p.control.l.length p.control.cap,.slice p.emit.p p.emit.l.length p.emit.cap],It.v (.num 12 a b)] (.int .i64 (wrI p (.num 12 a b))):=by
 have hv:wrI p (.num 12 a b)=if y.e.there (isB p (-1)) then 0 else 7:=by simp [wrI,wrN,hx,hy]
 rw [hv]
 have hm:=List.mem_of_getElem? hx
 have hm2:=List.mem_of_getElem? hy
 obtain⟨pa,hp,hc⟩:=hin.tables.row a x hx
 have hl:=(List.getElem?_eq_some_iff.1 hx).1
 have hc1:CellsAt w (pa.add (a*5)) [.string x.name,.slice x.keys.p x.keys.l.length x.keys.cap,.slice x.actions.p x.actions.l.length x.actions.cap,.string x.dflt.name,.slice x.dflt.args.p x.dflt.args.l.length x.dflt.args.cap]:=hc
 obtain⟨pb,hpb,hc2⟩:=(hin.tables.kids x hm).keys.row b y hy
 have hl2:=(List.getElem?_eq_some_iff.1 hy).1
 rw [hpb] at hc1
 have h1:=q_Names p w hin hz (-1) y.e ((hin.tables.kids x hm).keys.kids y hm2).e (by have h3:=le_sum_of Ta.sz p.tables.l x hm;have h4:=le_sum_of Ke.sz x.keys.l y hm2;unfold Pr.sz Ta.sz Sl.size Ke.sz at *;omega)
 rw [hp] at h1 ⊢
 exact w_key _ _ _ _ _ _ _ _ _ _ _ _ _ _ _ _ _ _ _ _ _ _ _ _ _ _ _ _ _ _ _ _ _ _ _ _ _ _ _ _ _ _ _ _ _ _ _ _ _ _ _ _ _ _ _ _ _ _ _ _ _ _ _ _ _ _ (a) (hl) (hc1) (b) (hl2) (hc2) (h1)
set_option maxRecDepth 100000 in
set_option maxHeartbeats 2000000 in
theorem wz_listed (p:Pr) (w:World) (hin:p.In w) (hz:p.sz≤1048576) (a b:Nat) (x:Ta) (y:ByteArray) (hx:p.tables.l[a]?=some x) (hy:x.actions.l[b]?=some y):Kp Tryz.prog w 31 #[.agg #[.slice p.headers.p p.headers.l.length p.headers.cap,.slice p.metas.p p.metas.l.length p.metas.cap,.slice p.states.p p.states.l.length p.states.cap,.slice p.actions.p p.actions.l.length p.actions.cap,.slice p.tables.p p.tables.l.length p.tables.cap,.slice p.control.p p.control.l.length p.control.cap,.slice p.emit.p p.emit.l.length p.emit.cap],It.v (.num 13 a b)] (.int .i64 (wrI p (.num 13 a b))):=by
 have hv:wrI p (.num 13 a b)=if acI p.actions.l y=-1 then 7 else if nmI x.actions.l y=(b:Int) then 0 else 8:=by simp [wrI,wrN,hx,hy]
 rw [hv]
 have hm:=List.mem_of_getElem? hx
 have hm2:=List.mem_of_getElem? hy
 obtain⟨pa,hp,hc⟩:=hin.tables.row a x hx
 have hl:=(List.getElem?_eq_some_iff.1 hx).1
 have hc1:CellsAt w (pa.add (a*5)) [.string x.name,.slice x.keys.p x.keys.l.length x.keys.cap,.slice x.actions.p x.actions.l.length x.actions.cap,.string x.dflt.name,.slice x.dflt.args.p x.dflt.args.l.length x.dflt.args.cap]:=hc
 obtain⟨pb,hpb,hc2⟩:=(hin.tables.kids x hm).actions.row b y hy
 have hl2:=(List.getElem?_eq_some_iff.1 hy).1
 rw [hpb] at hc1
 have h1:=q_Action p w hin hz y
 have h2:=q_wrongListed (acI p.actions.l y) x.actions b y hy w (hin.tables.kids x hm).actions (by have h3:=le_sum_of Ta.sz p.tables.l x hm;have h4:=length_le_sum strSize (fun y=>by unfold strSize;omega) x.actions.l;unfold Pr.sz Ta.sz Sl.size at *;omega)
 rw [hp] at h1 ⊢
 simp only [Sl.v,hpb] at h2
 exact w_listed _ _ _ _ _ _ _ _ _ _ _ _ _ _ _ _ _ _ _ _ _ _ _ _ _ _ _ _ _ _ _ _ _ _ _ _ _ _ _ _ _ _ _ _ _ _ _ _ _ _ _ _ _ _ _ _ (a) (hl) (hc1) (b) (hl2) (hc2) (h1) (h2)
set_option maxRecDepth 100000 in
set_option maxHeartbeats 2000000 in
theorem wz_dflt (p:Pr) (w:World) (hin:p.In w) (hz:p.sz≤1048576) (a:Nat) (x:Ta) (hx:p.tables.l[a]?=some x) (hd:nmI x.actions.l x.dflt.name≠-1→acI p.actions.l x.dflt.name≠-1):Kp Tryz.prog w 31 #[.agg #[.slice p.headers.p p.headers.l.length p.headers.cap,.slice p.metas.p p.metas.l.length p.metas.cap,.slice p.states.p p.states.l.length p.states.cap,.slice p.actions.p p.actions.l.length p.actions.cap,.slice p.tables.p p.tables.l.length p.tables.cap,.slice p.control.p p.control.l.length p.control.cap,.slice p.emit.p p.emit.l.length p.emit.cap],It.v (.num 14 a 0)] (.int .i64 (wrI p (.num 14 a 0))):=by
 have hv:wrI p (.num 14 a 0)=wDfI x.actions.l x.dflt.name x.dflt.args.l.length (match p.actions.l[(acI p.actions.l x.dflt.name).toNat]? with | some z=>z.params.l.length | none=>0):=by simp [wrI,wrN,hx]
 rw [hv]
 have hm:=List.mem_of_getElem? hx
 obtain⟨pa,hp,hc⟩:=hin.tables.row a x hx
 have hl:=(List.getElem?_eq_some_iff.1 hx).1
 have hc1:CellsAt w (pa.add (a*5)) [.string x.name,.slice x.keys.p x.keys.l.length x.keys.cap,.slice x.actions.p x.actions.l.length x.actions.cap,.string x.dflt.name,.slice x.dflt.args.p x.dflt.args.l.length x.dflt.args.cap]:=hc
 by_cases hno:nmI x.actions.l x.dflt.name=-1
 ·have h1:=q_wrongDefault_none p w x.name x.keys.p x.keys.l.length x.keys.cap x.actions x.dflt.name x.dflt.args.p x.dflt.args.l.length x.dflt.args.cap (hin.tables.kids x hm).actions (by have h3:=le_sum_of Ta.sz p.tables.l x hm;have h4:=length_le_sum strSize (fun y=>by unfold strSize;omega) x.actions.l;unfold Pr.sz Ta.sz Sl.size at *;omega) hno
  rw [show wDfI x.actions.l x.dflt.name x.dflt.args.l.length (match p.actions.l[(acI p.actions.l x.dflt.name).toNat]? with | some z=>z.params.l.length | none=>0)=7 by unfold wDfI;rw [if_pos hno]]
  simp only [Sl.v] at h1
  rw [hp] at h1 ⊢
  exact w_dflt _ _ _ _ _ _ _ _ _ _ _ _ _ _ _ _ _ _ _ _ _ _ _ _ _ _ _ _ _ _ _ _ _ _ _ _ _ _ _ _ _ _ _ _ _ _ _ _ _ _ _ _ _ _ (a) (hl) (hc1) (h1)
 ·obtain⟨k,z,hk,hz2⟩:=acI_some (hd hno)
  have h1:=q_wrongDefault_some p w hin hz x.name x.keys.p x.keys.l.length x.keys.cap x.actions x.dflt.name x.dflt.args.p x.dflt.args.l.length x.dflt.args.cap (hin.tables.kids x hm).actions (by have h3:=le_sum_of Ta.sz p.tables.l x hm;have h4:=length_le_sum strSize (fun y=>by unfold strSize;omega) x.actions.l;unfold Pr.sz Ta.sz Sl.size at *;omega) hno k z hk hz2
  rw [hk,Int.toNat_natCast,hz2]
  simp only [Sl.v] at h1
  rw [hp] at h1 ⊢
  exact w_dflt _ _ _ _ _ _ _ _ _ _ _ _ _ _ _ _ _ _ _ _ _ _ _ _ _ _ _ _ _ _ _ _ _ _ _ _ _ _ _ _ _ _ _ _ _ _ _ _ _ _ _ _ _ _ (a) (hl) (hc1) (h1)
set_option maxRecDepth 100000 in
set_option maxHeartbeats 2000000 in
theorem wz_emit (p:Pr) (w:World) (hin:p.In w) (hz:p.sz≤1048576) (a:Nat) (x:ByteArray) (hx:p.emit.l[a]?=some x):Kp Tryz.prog w 31 #[.agg #[.slice p.headers.p p.headers.l.length p.headers.cap,.slice p.metas.p p.metas.l.length p.metas.cap,.slice p.states.p p.states.l.length p.states.cap,.slice p.actions.p p.actions.l.length p.actions.cap,.slice p.tables.p p.tables.l.length p.tables.cap,.slice p.control.p p.control.l.length p.control.cap,.slice p.emit.p p.emit.l.length p.emit.cap],It.v (.num 15 a 0)] (.int .i64 (wrI p (.num 15 a 0))):=by
 have hv:wrI p (.num 15 a 0)=if hdI p.headers.l x=-1 then 7 else if nmI p.emit.l x=(a:Int) then 0 else 8:=by simp [wrI,wrN,hx]
 rw [hv]
 have hm:=List.mem_of_getElem? hx
 obtain⟨pa,hp,hc⟩:=hin.emit.row a x hx
 have hl:=(List.getElem?_eq_some_iff.1 hx).1
 have hc1:CellsAt w (pa.add (a*1)) [.string x]:=hc
 have h1:=q_Header p w hin hz x
 have h2:=q_wrongListed (hdI p.headers.l x) p.emit a x hx w hin.emit (pr_len1 hz).2.2.2.2.2
 rw [hp] at h1 ⊢
 simp only [Sl.v,hp] at h2
 exact w_emit _ _ _ _ _ _ _ _ _ _ _ _ _ _ _ _ _ _ _ _ _ _ _ _ _ _ _ _ _ _ _ _ _ _ _ _ _ _ _ _ _ _ _ _ _ (a) (hl) (hc1) (h1) (h2)
set_option maxRecDepth 100000 in
set_option maxHeartbeats 2000000 in
theorem wz_stmt (p:Pr) (w:World) (hin:p.In w) (hz:p.sz≤1048576) (a:Int) (s:St) (hs:s.In w) (hsz:s.sz≤1048576):Kp Tryz.prog w 31 #[.agg #[.slice p.headers.p p.headers.l.length p.headers.cap,.slice p.metas.p p.metas.l.length p.metas.cap,.slice p.states.p p.states.l.length p.states.cap,.slice p.actions.p p.actions.l.length p.actions.cap,.slice p.tables.p p.tables.l.length p.tables.cap,.slice p.control.p p.control.l.length p.control.cap,.slice p.emit.p p.emit.l.length p.emit.cap],It.v (.st a s)] (.int .i64 (wrI p (.st a s))) :=
 w_stmt _ _ _ _ _ _ _ _ _ _ _ _ _ _ _ _ _ _ _ _ _ _ _ _ _ _ _ _ _ _ _ _ _ _ _ _ _ _ _ _ _ _ _ _ (q_wrongStmt p w hin hz a s.kind s.head s.name s.e.op s.e.lit.w s.e.lit.h s.e.lit.l s.e.head s.e.name s.e.hi s.e.lo s.e.p s.e.args.length s.e.cap s.p s.thn.length s.cap s.q s.els.length s.cbp _ (q_Names p w hin hz a s.e (St.In.inE hs) (by have:=St.sz_eq s;omega)))
/-- A default whose action is listed names an action. -/
def SafeD (p:Pr) (z:It):Prop:=∀ a x,z=.num 14 a 0→p.tables.l[a]?=some x→nmI x.actions.l x.dflt.name≠-1→acI p.actions.l x.dflt.name≠-1
theorem wrong_in (p:Pr) (w:World) (hin:p.In w) (hz:p.sz≤1048576) (z:It) (hok:OkIt p w z) (hd:SafeD p z):Kp Tryz.prog w 31 #[.agg #[.slice p.headers.p p.headers.l.length p.headers.cap,.slice p.metas.p p.metas.l.length p.metas.cap,.slice p.states.p p.states.l.length p.states.cap,.slice p.actions.p p.actions.l.length p.actions.cap,.slice p.tables.p p.tables.l.length p.tables.cap,.slice p.control.p p.control.l.length p.control.cap,.slice p.emit.p p.emit.l.length p.emit.cap],z.v] (.int .i64 (wrI p z)):=by
 cases hok with
 | header a x hx=>exact wz_header p w hin hz a x hx
 | field a b x y hx hy=>exact wz_field p w hin hz a b x y hx hy
 | mta a x hx=>exact wz_mta p w hin hz a x hx
 | state a x hx=>exact wz_state p w hin hz a x hx
 | take a b x y hx hy=>exact wz_take p w hin hz a b x y hx hy
 | next a x hx=>exact wz_next p w hin hz a x hx
 | case_ a b x y hx hy=>exact wz_case_ p w hin hz a b x y hx hy
 | action a x hx=>exact wz_action p w hin hz a x hx
 | param a b x y hx hy=>exact wz_param p w hin hz a b x y hx hy
 | table a x hx=>exact wz_table p w hin hz a x hx
 | key a b x y hx hy=>exact wz_key p w hin hz a b x y hx hy
 | listed a b x y hx hy=>exact wz_listed p w hin hz a b x y hx hy
 | dflt a x hx=>exact wz_dflt p w hin hz a x hx (hd a x rfl hx)
 | emit a x hx=>exact wz_emit p w hin hz a x hx
 | stmt a s hs hsz=>exact wz_stmt p w hin hz a s hs hsz
open Go.Shelf
def It.kd:It→Int
 | .num k _ _=>k
 | .st _ _=>10
/-- Wherever v stands, u has stood. -/
def Bef (u v:It) (l:List It):Prop:=∀ k:Nat,l[k]?=some v→∃ j:Nat,j < k∧l[j]?=some u
theorem Bef.app {u v:It} {a b:List It} (ha:Bef u v a) (hb:Bef u v b):Bef u v (a++b):=fun k hk=>by
 by_cases h:k < a.length
 ·rw [List.getElem?_append_left h] at hk
  obtain⟨j,hj,e⟩:=ha k hk
  exact⟨j,hj,by rw [List.getElem?_append_left (by omega)];exact e⟩
 ·rw [List.getElem?_append_right (by omega)] at hk
  obtain⟨j,hj,e⟩:=hb _ hk
  exact⟨a.length+j,by omega,by rw [List.getElem?_append_right (by omega)];simpa using e⟩
theorem Bef.none {u v:It} {l:List It} (h:v ∉ l):Bef u v l:=fun _ hk=>absurd (List.mem_of_getElem? hk) h
theorem Bef.last {u v:It} {c:List It} (hu:u ∈ c) (hv:v ∉ c):Bef u v (c++[v]):=fun k hk=>by
 by_cases h:k < c.length
 ·rw [List.getElem?_append_left h] at hk
  exact absurd (List.mem_of_getElem? hk) hv
 ·obtain⟨j,hj,e⟩:=List.mem_iff_getElem.1 hu
  exact⟨j,by omega,by rw [List.getElem?_append_left hj,List.getElem?_eq_getElem hj,e]⟩
theorem Bef.fl {α:Type} {u v:It} (f:Nat→α→List It):∀ (l:List α) (b:Nat),(∀ i x,l[i]?=some x→Bef u v (f (b+i) x))→Bef u v (flI f b l)
 | [],_,_=>.none (by simp [flI])
 | x :: l,b,h=>by
  unfold flI
  exact (h 0 x rfl).app (Bef.fl f l (b+1) fun i y hy=>by rw [show b+1+i=b+(i+1) by omega];exact h (i+1) y (by simpa using hy))
theorem kd_stmts (a:Int):∀ s:St,∀ z ∈ s.enc a,z.kd=10:=fun s=>St.ind (Q:=fun s=>∀ z ∈ s.enc a,z.kd=10) (fun s h1 h2 z hm=>by
 rw [St.enc_eq] at hm
 rcases List.mem_cons.1 hm with rfl | hm
 ·rfl
 rcases List.mem_append.1 hm with hm | hm
 ·rw [St.encs_fl a _ 0] at hm
  obtain⟨i,x,hx,hzx⟩:=mem_flI _ z _ 0 hm
  exact h1 x (List.mem_of_getElem? hx) z hzx
 ·rw [St.encs_fl a _ 0] at hm
  obtain⟨i,x,hx,hzx⟩:=mem_flI _ z _ 0 hm
  exact h2 x (List.mem_of_getElem? hx) z hzx) s
theorem kd_block (a:Int) (l:List St):∀ z ∈ St.encs a l,z.kd=10:=fun z hm=>by
 rw [St.encs_fl a _ 0] at hm
 obtain⟨i,x,hx,hzx⟩:=mem_flI _ z _ 0 hm
 exact kd_stmts a x z hzx
theorem kd_pt {k:Int} {a n:Nat} {z:It} (h:z ∈ ptI k a n):z.kd=k:=by obtain⟨j,_,rfl⟩:=mem_ptI h;rfl
theorem kd_fl {α:Type} {v:It} (f:Nat→α→List It) (l:List α) (b:Nat) (h:∀ i x,∀ z ∈ f i x,z.kd≠v.kd):v ∉ flI f b l:=fun hm=>by
 obtain⟨i,x,_,hz⟩:=mem_flI f v l b hm
 exact h _ x v hz rfl
theorem bef_listed (p:Pr) (a b:Nat) (x:Ta) (hx:p.tables.l[a]?=some x) (hb:b < x.actions.l.length):Bef (.num 13 a b) (.num 14 a 0) (encP p):=by
 unfold encP
 refine .app (.none (kd_fl _ _ _ fun i x z hm=>?_)) (.app (.none (kd_fl _ _ _ fun i x z hm=>?_)) (.app (.none (kd_fl _ _ _ fun i x z hm=>?_)) (.app (.none (kd_fl _ _ _ fun i x z hm=>?_)) (.app (.fl _ _ _ fun i y hy=>?_) (.app (.none fun hm=>?_) (.none (kd_fl _ _ _ fun i x z hm=>?_)))))))
 ·rcases List.mem_cons.1 hm with rfl | hm
  ·simp [It.kd]
  ·rw [kd_pt hm];simp [It.kd]
 ·obtain rfl:=List.mem_singleton.1 hm
  simp [It.kd]
 ·rcases List.mem_cons.1 hm with rfl | hm
  ·simp [It.kd]
  rcases List.mem_append.1 hm with hm | hm
  ·rw [kd_pt hm];simp [It.kd]
  rcases List.mem_cons.1 hm with rfl | hm
  ·simp [It.kd]
  ·rw [kd_pt hm];simp [It.kd]
 ·rcases List.mem_cons.1 hm with rfl | hm
  ·simp [It.kd]
  rcases List.mem_append.1 hm with hm | hm
  ·rw [kd_pt hm];simp [It.kd]
  ·rw [kd_block _ _ z hm];simp [It.kd]
 ·rw [Nat.zero_add]
  by_cases e:i=a
  ·subst e
   rw [hx] at hy
   obtain rfl:=Option.some.inj hy
   have q:encT i x.keys.l.length x.actions.l.length=(.num 11 i 0 :: (ptI 12 i x.keys.l.length++ptI 13 i x.actions.l.length))++[.num 14 i 0]:=by simp [encT]
   rw [q]
   refine .last (List.mem_cons_of_mem _ (List.mem_append_right _ (List.mem_of_getElem? (ptI_at 13 i _ b hb)))) fun hm=>?_
   rcases List.mem_cons.1 hm with h | hm
   ·cases h
   rcases List.mem_append.1 hm with hm | hm
   ·have:=kd_pt hm;cases this
   ·have:=kd_pt hm;cases this
  ·refine .none fun hm=>?_
   rcases List.mem_cons.1 hm with h | hm
   ·cases h
   rcases List.mem_append.1 hm with hm | hm
   ·have:=kd_pt hm;cases this
   rcases List.mem_append.1 hm with hm | hm
   ·have:=kd_pt hm;cases this
   ·have h:=List.mem_singleton.1 hm
    injection h with _ h2 _
    exact e h2.symm
 ·have:=kd_block _ _ _ hm;cases this
 ·obtain rfl:=List.mem_singleton.1 hm
  simp [It.kd]
theorem firstI_spec {α:Type} (q:α→Bool):∀ (l:List α) (k:Nat),firstI q l k≠-1→∃ (i:Nat) (x:α),l[i]?=some x∧q x=true
 | [],k,h=>absurd rfl h
 | x :: l,k,h=>by
  by_cases e:q x=true
  ·exact⟨0,x,rfl,e⟩
  ·rw [firstI,if_neg e] at h
   obtain⟨i,y,hi,hy⟩:=firstI_spec q l (k+1) h
   exact⟨i+1,y,by simpa using hi,hy⟩
theorem safe_next (p:Pr) (k:Nat) (z:It) (hk:(encP p)[k]?=some z) (h:∀ j y,j < k→(encP p)[j]?=some y→wrI p y=0):SafeD p z:=by
 rintro a x rfl hx hn
 obtain⟨b,y,hb,hy⟩:=firstI_spec (fun y:ByteArray=>y.toList == x.dflt.name.toList) x.actions.l 0 hn
 have hlt:=(List.getElem?_eq_some_iff.1 hb).1
 obtain⟨j,hj,e⟩:=bef_listed p a b x hx hlt k hk
 have q:=h j _ hj e
 have hv:wrI p (.num 13 a b)=if acI p.actions.l y=-1 then 7 else if nmI x.actions.l y=(b:Int) then 0 else 8:=by simp [wrI,wrN,hx,hb]
 rw [hv] at q
 have e2:y.toList=x.dflt.name.toList:=by simpa using hy
 have e3:acI p.actions.l y=acI p.actions.l x.dflt.name:=by unfold acI;rw [e2]
 rw [← e3]
 intro e4
 rw [if_pos e4] at q
 cases q
/-- The number of the first wrong item from the n-th on, and what is wrong; or how many there are. -/
def scanI (p:Pr):List It→Nat→Nat × Int
 | [],n=>(n,0)
 | z :: l,n=>if wrI p z=0 then scanI p l (n+1) else (n,wrI p z)
theorem scan_some (p:Pr):∀ (l:List It) (n k:Nat) (z:It),l[k]?=some z→(∀ j y,j < k→l[j]?=some y→wrI p y=0)→wrI p z≠0→scanI p l n=(n+k,wrI p z)
 | x :: l,n,0,z,hk,_,hz=>by
  obtain rfl:x=z:=by simpa using hk
  rw [scanI,if_neg hz];rfl
 | x :: l,n,k+1,z,hk,h,hz=>by
  rw [scanI,if_pos (h 0 x (by omega) rfl),scan_some p l (n+1) k z (by simpa using hk) (fun j y hj hy=>h (j+1) y (by omega) (by simpa using hy)) hz]
  congr 1
  omega
theorem scan_none (p:Pr):∀ (l:List It) (n:Nat),(∀ j y,j < l.length→l[j]?=some y→wrI p y=0)→scanI p l n=(n+l.length,0)
 | [],n,_=>rfl
 | x :: l,n,h=>by
  rw [scanI,if_pos (h 0 x (by simp) rfl),scan_none p l (n+1) (fun j y hj hy=>h (j+1) y (by simp;omega) (by simpa using hy))]
  congr 1
  simp only [List.length_cons]
  omega
end Go.Proofs.YtobhijbncchpiaaGreat
