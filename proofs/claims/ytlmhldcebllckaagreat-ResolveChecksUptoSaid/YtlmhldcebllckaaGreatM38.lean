/-
  WHAT IS PROVED HERE: a part of the proof (made narrower and merged by program; the parts: Wk Wo Zu).
-/
import Derived.Test.YtlmhldcebllckaaGreatRows
import Derived.WalkKit
import Derived.Lib.Hide
import Derived.WalkSpells
import Derived.WalkLawsBesides
import Derived.Test.YtlmhldcebllckaaGreatM21
import Derived.Test.YtlmhldcebllckaaGreatM22
import Derived.Test.YtlmhldcebllckaaGreatM23
import Derived.Test.YtlmhldcebllckaaGreatM24
import Derived.Test.YtlmhldcebllckaaGreatM25
import Derived.Test.YtlmhldcebllckaaGreatM26
import Derived.Test.YtlmhldcebllckaaGreatM27
import Derived.Test.YtlmhldcebllckaaGreatM28
import Derived.Test.YtlmhldcebllckaaGreatM29
import Derived.Test.YtlmhldcebllckaaGreatM15
import Derived.Test.YtlmhldcebllckaaGreatM37
import Derived.Test.YtlmhldcebllckaaGreatM16
namespace Go.Proofs.YtlmhldcebllckaaGreat
open Go.RowKit
def wrDN (p:Pr) (kind:Int) (a b:Nat):Int :=
 if kind = 1 then (match p.headers.l[a]? with | some x=>(if hdI p.headers.l x.name = (a:Int) then (if (bitsI x.fields.l).tmod 8 = 0 ∧ bitsI x.fields.l ≤ 256 then 0 else 10) else 8) | none=>0) else
 if kind = 2 then (match p.headers.l[a]? with | some x=>(match x.fields.l[b]? with | some y=>(if fieldI p (a:Int) y.name = (b:Int) then 0 else 8) | none=>0) | none=>0) else
 if kind = 3 then (match p.metas.l[a]? with | some x=>(if fdI p.metas.l x.name = (a:Int) then 0 else 8) | none=>0) else
 if kind = 4 then (match p.states.l[a]? with | some x=>(if (stI p.states.l x.name).1 = (a:Int) then 0 else 8) | none=>0) else
 if kind = 5 then (match p.states.l[a]? with | some x=>(match x.takes.l[b]? with | some y=>(if (hdI p.headers.l y != -1) then 0 else 7) | none=>0) | none=>0) else
 if kind = 6 then (match p.states.l[a]? with | some x=>(if (if (x.to.toList == ([]:List UInt8)) = true then x.keys.l.all (Ex.there (isB p (-1))) else (stI p.states.l x.to).2) then 0 else 7) | none=>0) else
 if kind = 7 then (match p.states.l[a]? with | some x=>(match x.cases.l[b]? with | some y=>(if (stI p.states.l y.to).2 then 0 else 7) | none=>0) | none=>0) else
 if kind = 8 then (match p.actions.l[a]? with | some x=>(if acI p.actions.l x.name = (a:Int) then 0 else 8) | none=>0) else
 if kind = 9 then (match p.actions.l[a]? with | some x=>(match x.params.l[b]? with | some y=>(if paramI p (a:Int) y.name = (b:Int) then 0 else 8) | none=>0) | none=>0) else
 if kind = 11 then (match p.tables.l[a]? with | some x=>(if taI p.tables.l x.name = (a:Int) then 0 else 8) | none=>0) else
 if kind = 12 then (match p.tables.l[a]? with | some x=>(match x.keys.l[b]? with | some y=>(if y.e.there (isB p (-1)) then 0 else 7) | none=>0) | none=>0) else
 if kind = 13 then (match p.tables.l[a]? with | some x=>(match x.actions.l[b]? with | some y=>(if acI p.actions.l y = -1 then 7 else if nmI x.actions.l y < (b:Int) then 8 else 0) | none=>0) | none=>0) else
 if kind = 14 then (match p.tables.l[a]? with | some x=>(if nmI x.actions.l x.dflt.name = -1 ∨ acI p.actions.l x.dflt.name = -1 then 7 else (match p.actions.l[(acI p.actions.l x.dflt.name).toNat]? with | some z=>(if x.dflt.args.l.length < z.params.l.length then 13 else if z.params.l.length < x.dflt.args.l.length then 5 else 0) | none=>0)) | none=>0) else
 if kind = 15 then (match p.emit.l[a]? with | some x=>(if hdI p.headers.l x = -1 then 7 else if nmI p.emit.l x < (a:Int) then 8 else 0) | none=>0) else
 0
/-- What is wrong with an item, as the document has it: an error's number; 0: nothing. -/
def wrD (p:Pr):It → Int
 | .st a s=>if s.kind = 3 ∧ 0 ≤ a then 9 else if sB p s.kind s.head s.name (s.e.there (isB p a)) then 0 else 7
 | .num kind a b=>wrDN p kind a b
theorem there_kp (p:Pr) (w:World) (hin:p.In w) (hz:p.sz ≤ 1048576) (act:Int) (e:Ex) (he:e.In w) (hb:e.wt ≤ 1048576):Kp Tryz.prog w 84 #[.agg #[.slice p.headers.p p.headers.l.length p.headers.cap,.slice p.metas.p p.metas.l.length p.metas.cap,.slice p.states.p p.states.l.length p.states.cap,.slice p.actions.p p.actions.l.length p.actions.cap,.slice p.tables.p p.tables.l.length p.tables.cap,.slice p.control.p p.control.l.length p.control.cap,.slice p.emit.p p.emit.l.length p.emit.cap],.int .i64 act,.agg #[.int .u8 e.op,.int .i64 e.lit.w,.int .u64 e.lit.h,.int .u64 e.lit.l,.string e.head,.string e.name,.int .i64 e.hi,.int .i64 e.lo,.slice e.p e.args.length e.cap]] (.bool (e.there (isB p act))) :=
 Kp.of fun w' ⟨y,hy⟩=>by
  have:=r_There p act hz e w' (hy ▸ hin.plus y) (hy ▸ he.plus y) hb
  cases e
  exact this
set_option maxRecDepth 100000 in
set_option maxHeartbeats 4000000 in
theorem rz_header (p:Pr) (w:World) (hin:p.In w) (hz:p.sz ≤ 1048576) (a:Nat) (x:Hr) (hx:p.headers.l[a]? = some x):Kp Tryz.prog w 24 #[.agg #[.slice p.headers.p p.headers.l.length p.headers.cap,.slice p.metas.p p.metas.l.length p.metas.cap,.slice p.states.p p.states.l.length p.states.cap,.slice p.actions.p p.actions.l.length p.actions.cap,.slice p.tables.p p.tables.l.length p.tables.cap,.slice p.control.p p.control.l.length p.control.cap,.slice p.emit.p p.emit.l.length p.emit.cap],It.v (.num 1 a 0)] (.int .i64 (wrD p (.num 1 a 0))):=by
 have hv:wrD p (.num 1 a 0) = (if hdI p.headers.l x.name = (a:Int) then (if (bitsI x.fields.l).tmod 8 = 0 ∧ bitsI x.fields.l ≤ 256 then 0 else 10) else 8):=by simp only [wrD,wrDN,hx];rfl
 rw [hv]
 have hm:=List.mem_of_getElem? hx
 obtain ⟨pa,hp,hc⟩:=hin.headers.row a x hx
 have hl:=(List.getElem?_eq_some_iff.1 hx).1
 have hc1:CellsAt w (pa.add (a * 2)) [.string x.name,.slice x.fields.p x.fields.l.length x.fields.cap]:=hc
 have h2:=r_Bits x.name x.fields w _ (hin.headers.kids x hm).fields (len_le Fd.sz Fd.sz_pos x.fields (by have h3:=le_sum_of Hr.sz p.headers.l x hm;unfold Pr.sz Hr.sz Sl.size at *;omega))
 simp only [Sl.v] at h2
 have h1:=r_Header p w hin hz x.name
 rw [hp] at h1 ⊢
 exact o_1 _ _ _ _ _ _ _ _ _ _ _ _ _ _ _ _ _ _ _ _ _ _ _ _ _ _ _ _ _ _ _ _ _ _ _ _ _ _ _ _ _ _ _ _ _ (d_header _ _ _ _ _ _ _ _ _ _ _ _ _ _ _ _ _ _ _ _ _ _ _ _ _ _ _ _ _ _ _ _ _ _ _ _ _ _ _ _ _ _ _ _ _ _ _ _ _ (a) (hl) (hc1) (h1) (h2) (rfl))
set_option maxRecDepth 100000 in
set_option maxHeartbeats 4000000 in
theorem rz_field (p:Pr) (w:World) (hin:p.In w) (hz:p.sz ≤ 1048576) (a b:Nat) (x:Hr) (y:Fd) (hx:p.headers.l[a]? = some x) (hy:x.fields.l[b]? = some y):Kp Tryz.prog w 24 #[.agg #[.slice p.headers.p p.headers.l.length p.headers.cap,.slice p.metas.p p.metas.l.length p.metas.cap,.slice p.states.p p.states.l.length p.states.cap,.slice p.actions.p p.actions.l.length p.actions.cap,.slice p.tables.p p.tables.l.length p.tables.cap,.slice p.control.p p.control.l.length p.control.cap,.slice p.emit.p p.emit.l.length p.emit.cap],It.v (.num 2 a b)] (.int .i64 (wrD p (.num 2 a b))):=by
 have hv:wrD p (.num 2 a b) = (if fieldI p (a:Int) y.name = (b:Int) then 0 else 8):=by simp only [wrD,wrDN,hx,hy];rfl
 rw [hv]
 have hm:=List.mem_of_getElem? hx
 have hm2:=List.mem_of_getElem? hy
 obtain ⟨pa,hp,hc⟩:=hin.headers.row a x hx
 have hl:=(List.getElem?_eq_some_iff.1 hx).1
 have hc1:CellsAt w (pa.add (a * 2)) [.string x.name,.slice x.fields.p x.fields.l.length x.fields.cap]:=hc
 obtain ⟨pb,hpb,hc2⟩:=(hin.headers.kids x hm).fields.row b y hy
 have hl2:=(List.getElem?_eq_some_iff.1 hy).1
 rw [hpb] at hc1
 have h1:=r_Field p w hin hz (a:Int) y.name
 rw [hp] at h1 ⊢
 exact o_2 _ _ _ _ _ _ _ _ _ _ _ _ _ _ _ _ _ _ _ _ _ _ _ _ _ _ _ _ _ _ _ _ _ _ _ _ _ _ _ _ _ _ _ _ _ (d_field _ _ _ _ _ _ _ _ _ _ _ _ _ _ _ _ _ _ _ _ _ _ _ _ _ _ _ _ _ _ _ _ _ _ _ _ _ _ _ _ _ _ _ _ _ _ _ _ _ _ (a) (hl) (hc1) (b) (hl2) (hc2) (h1) (rfl))
set_option maxRecDepth 100000 in
set_option maxHeartbeats 4000000 in
theorem rz_mta (p:Pr) (w:World) (hin:p.In w) (hz:p.sz ≤ 1048576) (a:Nat) (x:Fd) (hx:p.metas.l[a]? = some x):Kp Tryz.prog w 24 #[.agg #[.slice p.headers.p p.headers.l.length p.headers.cap,.slice p.metas.p p.metas.l.length p.metas.cap,.slice p.states.p p.states.l.length p.states.cap,.slice p.actions.p p.actions.l.length p.actions.cap,.slice p.tables.p p.tables.l.length p.tables.cap,.slice p.control.p p.control.l.length p.control.cap,.slice p.emit.p p.emit.l.length p.emit.cap],It.v (.num 3 a 0)] (.int .i64 (wrD p (.num 3 a 0))):=by
 have hv:wrD p (.num 3 a 0) = (if fdI p.metas.l x.name = (a:Int) then 0 else 8):=by simp only [wrD,wrDN,hx];rfl
 rw [hv]
 have hm:=List.mem_of_getElem? hx
 obtain ⟨pa,hp,hc⟩:=hin.metas.row a x hx
 have hl:=(List.getElem?_eq_some_iff.1 hx).1
 have hc1:CellsAt w (pa.add (a * 2)) [.string x.name,.int .i64 x.w]:=hc
 have h1:=r_Meta p w hin hz x.name
 rw [hp] at h1 ⊢
 exact o_3 _ _ _ _ _ _ _ _ _ _ _ _ _ _ _ _ _ _ _ _ _ _ _ _ _ _ _ _ _ _ _ _ _ _ _ _ _ _ _ _ _ _ _ _ _ (d_meta _ _ _ _ _ _ _ _ _ _ _ _ _ _ _ _ _ _ _ _ _ _ _ _ _ _ _ _ _ _ _ _ _ _ _ _ _ _ _ _ _ _ _ _ _ _ (a) (hl) (hc1) (h1) (rfl))
set_option maxRecDepth 100000 in
set_option maxHeartbeats 4000000 in
theorem rz_state (p:Pr) (w:World) (hin:p.In w) (hz:p.sz ≤ 1048576) (a:Nat) (x:Sa) (hx:p.states.l[a]? = some x):Kp Tryz.prog w 24 #[.agg #[.slice p.headers.p p.headers.l.length p.headers.cap,.slice p.metas.p p.metas.l.length p.metas.cap,.slice p.states.p p.states.l.length p.states.cap,.slice p.actions.p p.actions.l.length p.actions.cap,.slice p.tables.p p.tables.l.length p.tables.cap,.slice p.control.p p.control.l.length p.control.cap,.slice p.emit.p p.emit.l.length p.emit.cap],It.v (.num 4 a 0)] (.int .i64 (wrD p (.num 4 a 0))):=by
 have hv:wrD p (.num 4 a 0) = (if (stI p.states.l x.name).1 = (a:Int) then 0 else 8):=by simp only [wrD,wrDN,hx];rfl
 rw [hv]
 have hm:=List.mem_of_getElem? hx
 obtain ⟨pa,hp,hc⟩:=hin.states.row a x hx
 have hl:=(List.getElem?_eq_some_iff.1 hx).1
 have hc1:CellsAt w (pa.add (a * 5)) [.string x.name,.slice x.takes.p x.takes.l.length x.takes.cap,.string x.to,.slice x.keys.p x.keys.l.length x.keys.cap,.slice x.cases.p x.cases.l.length x.cases.cap]:=hc
 have h1:=r_State p w hin hz x.name
 rw [hp] at h1 ⊢
 exact o_4 _ _ _ _ _ _ _ _ _ _ _ _ _ _ _ _ _ _ _ _ _ _ _ _ _ _ _ _ _ _ _ _ _ _ _ _ _ _ _ _ _ _ _ _ _ (d_state _ _ _ _ _ _ _ _ _ _ _ _ _ _ _ _ _ _ _ _ _ _ _ _ _ _ _ _ _ _ _ _ _ _ _ _ _ _ _ _ _ _ _ _ _ _ _ _ _ _ _ _ _ _ _ _ (a) (hl) (hc1) (h1) (rfl))
set_option maxRecDepth 100000 in
set_option maxHeartbeats 4000000 in
theorem rz_take (p:Pr) (w:World) (hin:p.In w) (hz:p.sz ≤ 1048576) (a b:Nat) (x:Sa) (y:ByteArray) (hx:p.states.l[a]? = some x) (hy:x.takes.l[b]? = some y):Kp Tryz.prog w 24 #[.agg #[.slice p.headers.p p.headers.l.length p.headers.cap,.slice p.metas.p p.metas.l.length p.metas.cap,.slice p.states.p p.states.l.length p.states.cap,.slice p.actions.p p.actions.l.length p.actions.cap,.slice p.tables.p p.tables.l.length p.tables.cap,.slice p.control.p p.control.l.length p.control.cap,.slice p.emit.p p.emit.l.length p.emit.cap],It.v (.num 5 a b)] (.int .i64 (wrD p (.num 5 a b))):=by
 have hv:wrD p (.num 5 a b) = (if (hdI p.headers.l y != -1) then 0 else 7):=by simp only [wrD,wrDN,hx,hy];rfl
 rw [hv]
 have hm:=List.mem_of_getElem? hx
 have hm2:=List.mem_of_getElem? hy
 obtain ⟨pa,hp,hc⟩:=hin.states.row a x hx
 have hl:=(List.getElem?_eq_some_iff.1 hx).1
 have hc1:CellsAt w (pa.add (a * 5)) [.string x.name,.slice x.takes.p x.takes.l.length x.takes.cap,.string x.to,.slice x.keys.p x.keys.l.length x.keys.cap,.slice x.cases.p x.cases.l.length x.cases.cap]:=hc
 obtain ⟨pb,hpb,hc2⟩:=(hin.states.kids x hm).takes.row b y hy
 have hl2:=(List.getElem?_eq_some_iff.1 hy).1
 rw [hpb] at hc1
 have h1:=r_Header p w hin hz y
 rw [hp] at h1 ⊢
 exact o_5 _ _ _ _ _ _ _ _ _ _ _ _ _ _ _ _ _ _ _ _ _ _ _ _ _ _ _ _ _ _ _ _ _ _ _ _ _ _ _ _ _ _ _ _ _ (p_take _ _ _ _ _ _ _ _ _ _ _ _ _ _ _ _ _ _ _ _ _ _ _ _ _ _ _ _ _ _ _ _ _ _ _ _ _ _ _ _ _ _ _ _ _ _ _ _ _ _ _ _ _ _ _ _ (a) (hl) (hc1) (b) (hl2) (hc2) (h1) (idx_ge (fun z:Hr=>z.name.toList == y.toList) p.headers.l) (rfl))
set_option maxRecDepth 100000 in
set_option maxHeartbeats 4000000 in
theorem rz_next (p:Pr) (w:World) (hin:p.In w) (hz:p.sz ≤ 1048576) (a:Nat) (x:Sa) (hx:p.states.l[a]? = some x):Kp Tryz.prog w 24 #[.agg #[.slice p.headers.p p.headers.l.length p.headers.cap,.slice p.metas.p p.metas.l.length p.metas.cap,.slice p.states.p p.states.l.length p.states.cap,.slice p.actions.p p.actions.l.length p.actions.cap,.slice p.tables.p p.tables.l.length p.tables.cap,.slice p.control.p p.control.l.length p.control.cap,.slice p.emit.p p.emit.l.length p.emit.cap],It.v (.num 6 a 0)] (.int .i64 (wrD p (.num 6 a 0))):=by
 have hv:wrD p (.num 6 a 0) = (if (if (x.to.toList == ([]:List UInt8)) = true then x.keys.l.all (Ex.there (isB p (-1))) else (stI p.states.l x.to).2) then 0 else 7):=by simp only [wrD,wrDN,hx];rfl
 rw [hv]
 have hm:=List.mem_of_getElem? hx
 obtain ⟨pa,hp,hc⟩:=hin.states.row a x hx
 have hl:=(List.getElem?_eq_some_iff.1 hx).1
 have hc1:CellsAt w (pa.add (a * 5)) [.string x.name,.slice x.takes.p x.takes.l.length x.takes.cap,.string x.to,.slice x.keys.p x.keys.l.length x.keys.cap,.slice x.cases.p x.cases.l.length x.cases.cap]:=hc
 have h1:=r_State p w hin hz x.to
 have hS:=hin.states.kids x hm
 have hkb:x.keys.l.length ≤ 1048576:=len_le Ex.wt Ex.wt_pos x.keys (by have h3:=le_sum_of Sa.sz p.states.l x hm;unfold Pr.sz Sa.sz Sl.size at *;omega)
 have hkid:=fun e (he:e ∈ x.keys.l)=>there_kp p w hin hz (-1) e (hS.keys.kids e he) (by have h3:=le_sum_of Sa.sz p.states.l x hm;have h4:=le_sum_of Ex.wt x.keys.l e he;unfold Pr.sz Sa.sz Sl.size at *;omega)
 rw [hp] at hkid
 rw [hp] at h1 ⊢
 exact o_6 _ _ _ _ _ _ _ _ _ _ _ _ _ _ _ _ _ _ _ _ _ _ _ _ _ _ _ _ _ _ _ _ _ _ _ _ _ _ _ _ _ _ _ _ _ (p_next _ _ _ _ _ _ _ _ _ _ _ _ _ _ _ _ _ _ _ _ _ _ _ _ _ _ _ _ _ _ _ _ _ _ _ _ _ _ _ _ _ _ _ _ _ _ _ _ _ _ _ _ _ _ (x.keys.l) (isB p (-1)) _ _ (a) (hl) (hc1) (h1) (rfl) (hkb) (hS.keys.row) (hkid) (rfl))
set_option maxRecDepth 100000 in
set_option maxHeartbeats 4000000 in
theorem rz_case_ (p:Pr) (w:World) (hin:p.In w) (hz:p.sz ≤ 1048576) (a b:Nat) (x:Sa) (y:Ca) (hx:p.states.l[a]? = some x) (hy:x.cases.l[b]? = some y):Kp Tryz.prog w 24 #[.agg #[.slice p.headers.p p.headers.l.length p.headers.cap,.slice p.metas.p p.metas.l.length p.metas.cap,.slice p.states.p p.states.l.length p.states.cap,.slice p.actions.p p.actions.l.length p.actions.cap,.slice p.tables.p p.tables.l.length p.tables.cap,.slice p.control.p p.control.l.length p.control.cap,.slice p.emit.p p.emit.l.length p.emit.cap],It.v (.num 7 a b)] (.int .i64 (wrD p (.num 7 a b))):=by
 have hv:wrD p (.num 7 a b) = (if (stI p.states.l y.to).2 then 0 else 7):=by simp only [wrD,wrDN,hx,hy];rfl
 rw [hv]
 have hm:=List.mem_of_getElem? hx
 have hm2:=List.mem_of_getElem? hy
 obtain ⟨pa,hp,hc⟩:=hin.states.row a x hx
 have hl:=(List.getElem?_eq_some_iff.1 hx).1
 have hc1:CellsAt w (pa.add (a * 5)) [.string x.name,.slice x.takes.p x.takes.l.length x.takes.cap,.string x.to,.slice x.keys.p x.keys.l.length x.keys.cap,.slice x.cases.p x.cases.l.length x.cases.cap]:=hc
 obtain ⟨pb,hpb,hc2⟩:=(hin.states.kids x hm).cases.row b y hy
 have hl2:=(List.getElem?_eq_some_iff.1 hy).1
 rw [hpb] at hc1
 have h1:=r_State p w hin hz y.to
 rw [hp] at h1 ⊢
 exact o_7 _ _ _ _ _ _ _ _ _ _ _ _ _ _ _ _ _ _ _ _ _ _ _ _ _ _ _ _ _ _ _ _ _ _ _ _ _ _ _ _ _ _ _ _ _ (p_case _ _ _ _ _ _ _ _ _ _ _ _ _ _ _ _ _ _ _ _ _ _ _ _ _ _ _ _ _ _ _ _ _ _ _ _ _ _ _ _ _ _ _ _ _ _ _ _ _ _ _ _ _ _ _ _ _ _ _ _ _ (a) (hl) (hc1) (b) (hl2) (hc2) (h1) (rfl))
set_option maxRecDepth 100000 in
set_option maxHeartbeats 4000000 in
theorem rz_action (p:Pr) (w:World) (hin:p.In w) (hz:p.sz ≤ 1048576) (a:Nat) (x:Ac) (hx:p.actions.l[a]? = some x):Kp Tryz.prog w 24 #[.agg #[.slice p.headers.p p.headers.l.length p.headers.cap,.slice p.metas.p p.metas.l.length p.metas.cap,.slice p.states.p p.states.l.length p.states.cap,.slice p.actions.p p.actions.l.length p.actions.cap,.slice p.tables.p p.tables.l.length p.tables.cap,.slice p.control.p p.control.l.length p.control.cap,.slice p.emit.p p.emit.l.length p.emit.cap],It.v (.num 8 a 0)] (.int .i64 (wrD p (.num 8 a 0))):=by
 have hv:wrD p (.num 8 a 0) = (if acI p.actions.l x.name = (a:Int) then 0 else 8):=by simp only [wrD,wrDN,hx];rfl
 rw [hv]
 have hm:=List.mem_of_getElem? hx
 obtain ⟨pa,hp,hc⟩:=hin.actions.row a x hx
 have hl:=(List.getElem?_eq_some_iff.1 hx).1
 have hc1:CellsAt w (pa.add (a * 3)) [.string x.name,.slice x.params.p x.params.l.length x.params.cap,.slice x.body.p x.body.l.length x.body.cap]:=hc
 have h1:=r_Action p w hin hz x.name
 rw [hp] at h1 ⊢
 exact o_8 _ _ _ _ _ _ _ _ _ _ _ _ _ _ _ _ _ _ _ _ _ _ _ _ _ _ _ _ _ _ _ _ _ _ _ _ _ _ _ _ _ _ _ _ _ (d_action _ _ _ _ _ _ _ _ _ _ _ _ _ _ _ _ _ _ _ _ _ _ _ _ _ _ _ _ _ _ _ _ _ _ _ _ _ _ _ _ _ _ _ _ _ _ _ _ _ _ _ (a) (hl) (hc1) (h1) (rfl))
set_option maxRecDepth 100000 in
set_option maxHeartbeats 4000000 in
theorem rz_param (p:Pr) (w:World) (hin:p.In w) (hz:p.sz ≤ 1048576) (a b:Nat) (x:Ac) (y:Fd) (hx:p.actions.l[a]? = some x) (hy:x.params.l[b]? = some y):Kp Tryz.prog w 24 #[.agg #[.slice p.headers.p p.headers.l.length p.headers.cap,.slice p.metas.p p.metas.l.length p.metas.cap,.slice p.states.p p.states.l.length p.states.cap,.slice p.actions.p p.actions.l.length p.actions.cap,.slice p.tables.p p.tables.l.length p.tables.cap,.slice p.control.p p.control.l.length p.control.cap,.slice p.emit.p p.emit.l.length p.emit.cap],It.v (.num 9 a b)] (.int .i64 (wrD p (.num 9 a b))):=by
 have hv:wrD p (.num 9 a b) = (if paramI p (a:Int) y.name = (b:Int) then 0 else 8):=by simp only [wrD,wrDN,hx,hy];rfl
 rw [hv]
 have hm:=List.mem_of_getElem? hx
 have hm2:=List.mem_of_getElem? hy
 obtain ⟨pa,hp,hc⟩:=hin.actions.row a x hx
 have hl:=(List.getElem?_eq_some_iff.1 hx).1
 have hc1:CellsAt w (pa.add (a * 3)) [.string x.name,.slice x.params.p x.params.l.length x.params.cap,.slice x.body.p x.body.l.length x.body.cap]:=hc
 obtain ⟨pb,hpb,hc2⟩:=(hin.actions.kids x hm).params.row b y hy
 have hl2:=(List.getElem?_eq_some_iff.1 hy).1
 rw [hpb] at hc1
 have h1:=r_Param p w hin hz (a:Int) y.name
 rw [hp] at h1 ⊢
 exact o_9 _ _ _ _ _ _ _ _ _ _ _ _ _ _ _ _ _ _ _ _ _ _ _ _ _ _ _ _ _ _ _ _ _ _ _ _ _ _ _ _ _ _ _ _ _ (d_param _ _ _ _ _ _ _ _ _ _ _ _ _ _ _ _ _ _ _ _ _ _ _ _ _ _ _ _ _ _ _ _ _ _ _ _ _ _ _ _ _ _ _ _ _ _ _ _ _ _ _ _ _ (a) (hl) (hc1) (b) (hl2) (hc2) (h1) (rfl))
set_option maxRecDepth 100000 in
set_option maxHeartbeats 4000000 in
theorem rz_table (p:Pr) (w:World) (hin:p.In w) (hz:p.sz ≤ 1048576) (a:Nat) (x:Ta) (hx:p.tables.l[a]? = some x):Kp Tryz.prog w 24 #[.agg #[.slice p.headers.p p.headers.l.length p.headers.cap,.slice p.metas.p p.metas.l.length p.metas.cap,.slice p.states.p p.states.l.length p.states.cap,.slice p.actions.p p.actions.l.length p.actions.cap,.slice p.tables.p p.tables.l.length p.tables.cap,.slice p.control.p p.control.l.length p.control.cap,.slice p.emit.p p.emit.l.length p.emit.cap],It.v (.num 11 a 0)] (.int .i64 (wrD p (.num 11 a 0))):=by
 have hv:wrD p (.num 11 a 0) = (if taI p.tables.l x.name = (a:Int) then 0 else 8):=by simp only [wrD,wrDN,hx];rfl
 rw [hv]
 have hm:=List.mem_of_getElem? hx
 obtain ⟨pa,hp,hc⟩:=hin.tables.row a x hx
 have hl:=(List.getElem?_eq_some_iff.1 hx).1
 have hc1:CellsAt w (pa.add (a * 5)) [.string x.name,.slice x.keys.p x.keys.l.length x.keys.cap,.slice x.actions.p x.actions.l.length x.actions.cap,.string x.dflt.name,.slice x.dflt.args.p x.dflt.args.l.length x.dflt.args.cap]:=hc
 have h1:=r_Table p w hin hz x.name
 rw [hp] at h1 ⊢
 exact o_11 _ _ _ _ _ _ _ _ _ _ _ _ _ _ _ _ _ _ _ _ _ _ _ _ _ _ _ _ _ _ _ _ _ _ _ _ _ _ _ _ _ _ _ _ _ (d_table _ _ _ _ _ _ _ _ _ _ _ _ _ _ _ _ _ _ _ _ _ _ _ _ _ _ _ _ _ _ _ _ _ _ _ _ _ _ _ _ _ _ _ _ _ _ _ _ _ _ _ _ _ _ _ (a) (hl) (hc1) (h1) (rfl))
set_option maxRecDepth 100000 in
set_option maxHeartbeats 4000000 in
theorem rz_key (p:Pr) (w:World) (hin:p.In w) (hz:p.sz ≤ 1048576) (a b:Nat) (x:Ta) (y:Ke) (hx:p.tables.l[a]? = some x) (hy:x.keys.l[b]? = some y):Kp Tryz.prog w 24 #[.agg #[.slice p.headers.p p.headers.l.length p.headers.cap,.slice p.metas.p p.metas.l.length p.metas.cap,.slice p.states.p p.states.l.length p.states.cap,.slice p.actions.p p.actions.l.length p.actions.cap,.slice p.tables.p p.tables.l.length p.tables.cap,.slice p.control.p p.control.l.length p.control.cap,.slice p.emit.p p.emit.l.length p.emit.cap],It.v (.num 12 a b)] (.int .i64 (wrD p (.num 12 a b))):=by
 have hv:wrD p (.num 12 a b) = (if y.e.there (isB p (-1)) then 0 else 7):=by simp only [wrD,wrDN,hx,hy];rfl
 rw [hv]
 have hm:=List.mem_of_getElem? hx
 have hm2:=List.mem_of_getElem? hy
 obtain ⟨pa,hp,hc⟩:=hin.tables.row a x hx
 have hl:=(List.getElem?_eq_some_iff.1 hx).1
 have hc1:CellsAt w (pa.add (a * 5)) [.string x.name,.slice x.keys.p x.keys.l.length x.keys.cap,.slice x.actions.p x.actions.l.length x.actions.cap,.string x.dflt.name,.slice x.dflt.args.p x.dflt.args.l.length x.dflt.args.cap]:=hc
 obtain ⟨pb,hpb,hc2⟩:=(hin.tables.kids x hm).keys.row b y hy
 have hl2:=(List.getElem?_eq_some_iff.1 hy).1
 rw [hpb] at hc1
 have h1:=there_kp p w hin hz (-1) y.e ((hin.tables.kids x hm).keys.kids y hm2).e (by have h3:=le_sum_of Ta.sz p.tables.l x hm;have h4:=le_sum_of Ke.sz x.keys.l y hm2;unfold Pr.sz Ta.sz Sl.size Ke.sz at *;omega)
 rw [hp] at h1 ⊢
 exact o_12 _ _ _ _ _ _ _ _ _ _ _ _ _ _ _ _ _ _ _ _ _ _ _ _ _ _ _ _ _ _ _ _ _ _ _ _ _ _ _ _ _ _ _ _ _ _ _ _ _ _ _ _ _ _ _ _ _ _ _ _ _ _ _ _ _ _ _ (a) (hl) (hc1) (b) (hl2) (hc2) (h1) (rfl)
set_option maxRecDepth 100000 in
set_option maxHeartbeats 4000000 in
theorem rz_listed (p:Pr) (w:World) (hin:p.In w) (hz:p.sz ≤ 1048576) (a b:Nat) (x:Ta) (y:ByteArray) (hx:p.tables.l[a]? = some x) (hy:x.actions.l[b]? = some y):Kp Tryz.prog w 24 #[.agg #[.slice p.headers.p p.headers.l.length p.headers.cap,.slice p.metas.p p.metas.l.length p.metas.cap,.slice p.states.p p.states.l.length p.states.cap,.slice p.actions.p p.actions.l.length p.actions.cap,.slice p.tables.p p.tables.l.length p.tables.cap,.slice p.control.p p.control.l.length p.control.cap,.slice p.emit.p p.emit.l.length p.emit.cap],It.v (.num 13 a b)] (.int .i64 (wrD p (.num 13 a b))):=by
 have hv:wrD p (.num 13 a b) = (if acI p.actions.l y = -1 then 7 else if nmI x.actions.l y < (b:Int) then 8 else 0):=by simp only [wrD,wrDN,hx,hy];rfl
 rw [hv]
 have hm:=List.mem_of_getElem? hx
 have hm2:=List.mem_of_getElem? hy
 obtain ⟨pa,hp,hc⟩:=hin.tables.row a x hx
 have hl:=(List.getElem?_eq_some_iff.1 hx).1
 have hc1:CellsAt w (pa.add (a * 5)) [.string x.name,.slice x.keys.p x.keys.l.length x.keys.cap,.slice x.actions.p x.actions.l.length x.actions.cap,.string x.dflt.name,.slice x.dflt.args.p x.dflt.args.l.length x.dflt.args.cap]:=hc
 obtain ⟨pb,hpb,hc2⟩:=(hin.tables.kids x hm).actions.row b y hy
 have hl2:=(List.getElem?_eq_some_iff.1 hy).1
 rw [hpb] at hc1
 have h2:=r_index strOk w x.actions (hin.tables.kids x hm).actions (len_le strSize (fun y=>by unfold strSize;omega) x.actions (by have h3:=le_sum_of Ta.sz p.tables.l x hm;unfold Pr.sz Ta.sz Sl.size at *;omega)) y
 simp only [Sl.v,hpb] at h2
 have h1:=r_Action p w hin hz y
 rw [hp] at h1 ⊢
 exact o_13 _ _ _ _ _ _ _ _ _ _ _ _ _ _ _ _ _ _ _ _ _ _ _ _ _ _ _ _ _ _ _ _ _ _ _ _ _ _ _ _ _ _ _ _ _ (l_listed _ _ _ _ _ _ _ _ _ _ _ _ _ _ _ _ _ _ _ _ _ _ _ _ _ _ _ _ _ _ _ _ _ _ _ _ _ _ _ _ _ _ _ _ _ _ _ _ _ _ _ _ _ _ _ _ _ (a) (hl) (hc1) (b) (hl2) (hc2) (h1) (h2) (idx_ge (fun z:Ac=>z.name.toList == y.toList) p.actions.l) (rfl))
set_option maxRecDepth 100000 in
set_option maxHeartbeats 4000000 in
theorem rz_dflt (p:Pr) (w:World) (hin:p.In w) (hz:p.sz ≤ 1048576) (a:Nat) (x:Ta) (hx:p.tables.l[a]? = some x):Kp Tryz.prog w 24 #[.agg #[.slice p.headers.p p.headers.l.length p.headers.cap,.slice p.metas.p p.metas.l.length p.metas.cap,.slice p.states.p p.states.l.length p.states.cap,.slice p.actions.p p.actions.l.length p.actions.cap,.slice p.tables.p p.tables.l.length p.tables.cap,.slice p.control.p p.control.l.length p.control.cap,.slice p.emit.p p.emit.l.length p.emit.cap],It.v (.num 14 a 0)] (.int .i64 (wrD p (.num 14 a 0))):=by
 have hm:=List.mem_of_getElem? hx
 obtain ⟨pa,hp,hc⟩:=hin.tables.row a x hx
 have hl:=(List.getElem?_eq_some_iff.1 hx).1
 have hc1:CellsAt w (pa.add (a * 5)) [.string x.name,.slice x.keys.p x.keys.l.length x.keys.cap,.slice x.actions.p x.actions.l.length x.actions.cap,.string x.dflt.name,.slice x.dflt.args.p x.dflt.args.l.length x.dflt.args.cap]:=hc
 have h2:=r_index strOk w x.actions (hin.tables.kids x hm).actions (len_le strSize (fun y=>by unfold strSize;omega) x.actions (by have h3:=le_sum_of Ta.sz p.tables.l x hm;unfold Pr.sz Ta.sz Sl.size at *;omega)) x.dflt.name
 simp only [Sl.v] at h2
 have h1:=r_Action p w hin hz x.dflt.name
 have gJ:=idx_ge (fun z:ByteArray=>z.toList == x.dflt.name.toList) x.actions.l
 by_cases hno:nmI x.actions.l x.dflt.name = -1 ∨ acI p.actions.l x.dflt.name = -1
 ·have hv:wrD p (.num 14 a 0) = 7:=by simp only [wrD,wrDN,hx];exact if_pos hno
  rw [hv]
  have hJ:nmI x.actions.l x.dflt.name = -1 ∨ (¬ nmI x.actions.l x.dflt.name < 0 ∧ acI p.actions.l x.dflt.name = -1):=by
   rcases gJ with g | g
   ·exact .inl g
   ·exact .inr ⟨g,hno.resolve_left (fun e=>g (by rw [show firstI (fun z:ByteArray=>z.toList == x.dflt.name.toList) x.actions.l 0 = -1 from e];decide))⟩
  rw [hp] at h1 ⊢
  exact o_14 _ _ _ _ _ _ _ _ _ _ _ _ _ _ _ _ _ _ _ _ _ _ _ _ _ _ _ _ _ _ _ _ _ _ _ _ _ _ _ _ _ _ _ _ _ (l_dflt_none _ _ _ _ _ _ _ _ _ _ _ _ _ _ _ _ _ _ _ _ _ _ _ _ _ _ _ _ _ _ _ _ _ _ _ _ _ _ _ _ _ _ _ _ _ _ _ _ _ _ _ _ _ _ _ _ (a) (hl) (hc1) (h1) (h2) (hJ) (rfl))
 ·obtain ⟨kx,z,hkx,hz2⟩:=acI_some (fun e=>hno (.inr e))
  have hv:wrD p (.num 14 a 0) = (if x.dflt.args.l.length < z.params.l.length then 13 else if z.params.l.length < x.dflt.args.l.length then 5 else 0):=by
   simp only [wrD,wrDN,hx]
   refine (if_neg hno).trans ?_
   rw [hkx,Int.toNat_natCast,hz2]
  rw [hv]
  have hJ:¬ nmI x.actions.l x.dflt.name < 0:=gJ.resolve_left (fun e=>hno (.inl e))
  obtain ⟨px,hpx,hcx⟩:=hin.actions.row kx z hz2
  have hlx:=(List.getElem?_eq_some_iff.1 hz2).1
  have hc3:CellsAt w (px.add (kx * 3)) [.string z.name,.slice z.params.p z.params.l.length z.params.cap,.slice z.body.p z.body.l.length z.body.cap]:=hcx
  rw [hkx] at h1
  rw [hp,hpx] at h1 ⊢
  exact o_14 _ _ _ _ _ _ _ _ _ _ _ _ _ _ _ _ _ _ _ _ _ _ _ _ _ _ _ _ _ _ _ _ _ _ _ _ _ _ _ _ _ _ _ _ _ (l_dflt_some _ _ _ _ _ _ _ _ _ _ _ _ _ _ _ _ _ _ _ _ _ _ _ _ _ _ _ _ _ _ _ _ _ _ _ _ _ _ _ _ _ _ _ _ _ _ _ _ _ _ _ _ _ _ _ _ _ _ _ _ _ _ (a) (hl) (hc1) (kx) (hlx) (hc3) (h1) (h2) (hJ) (rfl))
set_option maxRecDepth 100000 in
set_option maxHeartbeats 4000000 in
theorem rz_emit (p:Pr) (w:World) (hin:p.In w) (hz:p.sz ≤ 1048576) (a:Nat) (x:ByteArray) (hx:p.emit.l[a]? = some x):Kp Tryz.prog w 24 #[.agg #[.slice p.headers.p p.headers.l.length p.headers.cap,.slice p.metas.p p.metas.l.length p.metas.cap,.slice p.states.p p.states.l.length p.states.cap,.slice p.actions.p p.actions.l.length p.actions.cap,.slice p.tables.p p.tables.l.length p.tables.cap,.slice p.control.p p.control.l.length p.control.cap,.slice p.emit.p p.emit.l.length p.emit.cap],It.v (.num 15 a 0)] (.int .i64 (wrD p (.num 15 a 0))):=by
 have hv:wrD p (.num 15 a 0) = (if hdI p.headers.l x = -1 then 7 else if nmI p.emit.l x < (a:Int) then 8 else 0):=by simp only [wrD,wrDN,hx];rfl
 rw [hv]
 have hm:=List.mem_of_getElem? hx
 obtain ⟨pa,hp,hc⟩:=hin.emit.row a x hx
 have hl:=(List.getElem?_eq_some_iff.1 hx).1
 have hc1:CellsAt w (pa.add (a * 1)) [.string x]:=hc
 have h2:=r_index strOk w p.emit hin.emit (pr_len1 hz).2.2.2.2.2 x
 simp only [Sl.v,hp] at h2
 have h1:=r_Header p w hin hz x
 rw [hp] at h1 ⊢
 exact o_15 _ _ _ _ _ _ _ _ _ _ _ _ _ _ _ _ _ _ _ _ _ _ _ _ _ _ _ _ _ _ _ _ _ _ _ _ _ _ _ _ _ _ _ _ _ (l_emit _ _ _ _ _ _ _ _ _ _ _ _ _ _ _ _ _ _ _ _ _ _ _ _ _ _ _ _ _ _ _ _ _ _ _ _ _ _ _ _ _ _ _ _ _ _ (a) (hl) (hc1) (h1) (h2) (idx_ge (fun z:Hr=>z.name.toList == x.toList) p.headers.l) (rfl))
set_option maxRecDepth 100000 in
set_option maxHeartbeats 4000000 in
theorem rz_stmt (p:Pr) (w:World) (hin:p.In w) (hz:p.sz ≤ 1048576) (a:Int) (s:St) (hs:s.In w) (hsz:s.sz ≤ 1048576):Kp Tryz.prog w 24 #[.agg #[.slice p.headers.p p.headers.l.length p.headers.cap,.slice p.metas.p p.metas.l.length p.metas.cap,.slice p.states.p p.states.l.length p.states.cap,.slice p.actions.p p.actions.l.length p.actions.cap,.slice p.tables.p p.tables.l.length p.tables.cap,.slice p.control.p p.control.l.length p.control.cap,.slice p.emit.p p.emit.l.length p.emit.cap],It.v (.st a s)] (.int .i64 (wrD p (.st a s))) :=
 o_10 _ _ _ _ _ _ _ _ _ _ _ _ _ _ _ _ _ _ _ _ _ _ _ _ _ _ _ _ _ _ _ _ _ _ _ _ _ _ _ _ _ _ _ _ _ (d_stmt p w hin hz a s.kind s.head s.name s.e.op s.e.lit.w s.e.lit.h s.e.lit.l s.e.head s.e.name s.e.hi s.e.lo s.e.p s.e.args.length s.e.cap s.p s.thn.length s.cap s.q s.els.length s.cbp _ (there_kp p w hin hz a s.e (St.In.inE hs) (by have:=St.sz_eq s;omega))) (rfl)
theorem one_kp (p:Pr) (w:World) (hin:p.In w) (hz:p.sz ≤ 1048576) (z:It) (hok:OkIt p w z):Kp Tryz.prog w 24 #[.agg #[.slice p.headers.p p.headers.l.length p.headers.cap,.slice p.metas.p p.metas.l.length p.metas.cap,.slice p.states.p p.states.l.length p.states.cap,.slice p.actions.p p.actions.l.length p.actions.cap,.slice p.tables.p p.tables.l.length p.tables.cap,.slice p.control.p p.control.l.length p.control.cap,.slice p.emit.p p.emit.l.length p.emit.cap],z.v] (.int .i64 (wrD p z)):=by
 cases hok with
 | header a x hx=>exact rz_header p w hin hz a x hx
 | field a b x y hx hy=>exact rz_field p w hin hz a b x y hx hy
 | mta a x hx=>exact rz_mta p w hin hz a x hx
 | state a x hx=>exact rz_state p w hin hz a x hx
 | take a b x y hx hy=>exact rz_take p w hin hz a b x y hx hy
 | next a x hx=>exact rz_next p w hin hz a x hx
 | case_ a b x y hx hy=>exact rz_case_ p w hin hz a b x y hx hy
 | action a x hx=>exact rz_action p w hin hz a x hx
 | param a b x y hx hy=>exact rz_param p w hin hz a b x y hx hy
 | table a x hx=>exact rz_table p w hin hz a x hx
 | key a b x y hx hy=>exact rz_key p w hin hz a b x y hx hy
 | listed a b x y hx hy=>exact rz_listed p w hin hz a b x y hx hy
 | dflt a x hx=>exact rz_dflt p w hin hz a x hx
 | emit a x hx=>exact rz_emit p w hin hz a x hx
 | stmt a s hs hsz=>exact rz_stmt p w hin hz a s hs hsz
end Go.Proofs.YtlmhldcebllckaaGreat
namespace Go.Proofs.YtlmhldcebllckaaGreat
open Go.RowKit Go.Shelf
theorem each_mem {α:Type} {lo hi:Int} {f:α → Bool} {l:List α} (h:eachB lo hi f l = true):(lo ≤ (l.length:Int) ∧ (l.length:Int) ≤ hi) ∧ ∀ x ∈ l,f x = true:=by
 unfold eachB at h
 simp only [Bool.and_eq_true,decide_eq_true_eq,List.all_eq_true] at h
 exact h
theorem one_of (a:Int):∀ (s:St) (n:Nat),s.one = true → St.mayB n s.thn = true → St.mayB n s.els = true → ∀ z ∈ s.enc a,∃ t,z = .st a t ∧ t.one = true:=fun s=>St.ind (Q:=fun s=>∀ n:Nat,s.one = true → St.mayB n s.thn = true → St.mayB n s.els = true → ∀ z ∈ s.enc a,∃ t,z = .st a t ∧ t.one = true) (fun s h1 h2 n o1 m1 m2 z hz=>by
 have sub:∀ l:List St,(∀ x ∈ l,∀ n:Nat,x.one = true → St.mayB n x.thn = true → St.mayB n x.els = true → ∀ z ∈ x.enc a,∃ t,z = .st a t ∧ t.one = true) → ∀ n,St.mayB n l = true → ∀ z ∈ St.encs a l,∃ t,z = .st a t ∧ t.one = true:=by
  intro l hl n hm z hz
  cases n with
  | zero =>
   have:l = []:=by simpa [St.mayB] using hm
   subst this
   simp [St.encs] at hz
  | succ n =>
   obtain ⟨-,hall⟩:=each_mem hm
   rw [St.encs_fl a l 0] at hz
   obtain ⟨i,x,hx,hzx⟩:=mem_flI _ z _ 0 hz
   have hmem:=List.mem_of_getElem? hx
   have h:=hall x hmem
   simp only [Bool.and_eq_true] at h
   exact hl x hmem n h.1 h.2.1 h.2.2 z hzx
 rw [St.enc_eq] at hz
 rcases List.mem_cons.1 hz with rfl | hz
 ·exact ⟨s,rfl,o1⟩
 rcases List.mem_append.1 hz with hz | hz
 ·exact sub _ h1 n m1 z hz
 ·exact sub _ h2 n m2 z hz) s
theorem ones_of (a:Int) (l:List St) (n:Nat) (hm:St.mayB n l = true):∀ z ∈ St.encs a l,∃ t,z = .st a t ∧ t.one = true:=by
 intro z hz
 cases n with
 | zero =>
  have:l = []:=by simpa [St.mayB] using hm
  subst this
  simp [St.encs] at hz
 | succ n =>
  obtain ⟨-,hall⟩:=each_mem hm
  rw [St.encs_fl a l 0] at hz
  obtain ⟨i,x,hx,hzx⟩:=mem_flI _ z _ 0 hz
  have h:=hall x (List.mem_of_getElem? hx)
  simp only [Bool.and_eq_true] at h
  exact one_of a x n h.1 h.2.1 h.2.2 z hzx
theorem st_fine (p:Pr) (hB:prB p = true):∀ z ∈ encP p,∀ a s,z = .st a s → (a = -1 ∨ 0 ≤ a) ∧ s.one = true:=by
 unfold prB at hB
 simp only [Bool.and_eq_true] at hB
 obtain ⟨-,-,-,hA,-,hC,-⟩:=hB
 intro z hm a s e
 have k10:z.kd = 10:=by rw [e];rfl
 unfold encP at hm
 rcases List.mem_append.1 hm with hm | hm
 ·obtain ⟨i,x,hx,hm⟩:=mem_flI _ z _ 0 hm
  rcases List.mem_cons.1 hm with rfl | hm
  ·cases e
  ·obtain ⟨j,hj,rfl⟩:=mem_ptI hm
   cases e
 rcases List.mem_append.1 hm with hm | hm
 ·obtain ⟨i,x,hx,hm⟩:=mem_flI _ z _ 0 hm
  obtain rfl:=List.mem_singleton.1 hm
  cases e
 rcases List.mem_append.1 hm with hm | hm
 ·obtain ⟨i,x,hx,hm⟩:=mem_flI _ z _ 0 hm
  rcases List.mem_cons.1 hm with rfl | hm
  ·cases e
  rcases List.mem_append.1 hm with hm | hm
  ·obtain ⟨j,hj,rfl⟩:=mem_ptI hm
   cases e
  rcases List.mem_cons.1 hm with rfl | hm
  ·cases e
  ·obtain ⟨j,hj,rfl⟩:=mem_ptI hm
   cases e
 rcases List.mem_append.1 hm with hm | hm
 ·obtain ⟨i,x,hx,hm⟩:=mem_flI _ z _ 0 hm
  rw [Nat.zero_add] at hm
  rcases List.mem_cons.1 hm with rfl | hm
  ·cases e
  rcases List.mem_append.1 hm with hm | hm
  ·obtain ⟨j,hj,rfl⟩:=mem_ptI hm
   cases e
  ·have h:=(each_mem hA).2 x (List.mem_of_getElem? hx)
   unfold acB at h
   simp only [Bool.and_eq_true] at h
   obtain ⟨t,ht,ho⟩:=ones_of _ _ _ h.2.2 z hm
   rw [ht] at e
   injection e with e1 e2
   subst e1 e2
   exact ⟨.inr (Int.natCast_nonneg i),ho⟩
 rcases List.mem_append.1 hm with hm | hm
 ·obtain ⟨i,x,hx,hm⟩:=mem_flI _ z _ 0 hm
  rcases List.mem_cons.1 hm with rfl | hm
  ·cases e
  rcases List.mem_append.1 hm with hm | hm
  ·obtain ⟨j,hj,rfl⟩:=mem_ptI hm
   cases e
  rcases List.mem_append.1 hm with hm | hm
  ·obtain ⟨j,hj,rfl⟩:=mem_ptI hm
   cases e
  ·obtain rfl:=List.mem_singleton.1 hm
   cases e
 rcases List.mem_append.1 hm with hm | hm
 ·obtain ⟨t,ht,ho⟩:=ones_of _ _ _ hC z hm
  rw [ht] at e
  injection e with e1 e2
  subst e1 e2
  exact ⟨.inl rfl,ho⟩
 ·obtain ⟨i,x,hx,hm⟩:=mem_flI _ z _ 0 hm
  obtain rfl:=List.mem_singleton.1 hm
  cases e
/-- The place of a name that stands in a list is no greater than where it stands. -/
theorem first_le {α:Type} (q:α → Bool):∀ (l:List α) (k j:Nat) (y:α),l[j]? = some y → q y = true → (k:Int) ≤ firstI q l k ∧ firstI q l k ≤ ((k + j:Nat):Int)
 | [],k,j,y,h,_=>by simp at h
 | x :: l,k,j,y,h,hy=>by
  rw [firstI]
  split
  ·omega
  ·next hn =>
   cases j with
   | zero =>
    obtain rfl:x = y:=by simpa using h
    exact absurd hy hn
   | succ j =>
    have:=first_le q l (k + 1) j y (by simpa using h) hy
    omega
theorem nm_lt {l:List ByteArray} {j:Nat} {y:ByteArray} (h:l[j]? = some y):(if nmI l y = (j:Int) then (0:Int) else 8) = if nmI l y < (j:Int) then 8 else 0:=by
 have h1:=first_le (fun x:ByteArray=>x.toList == y.toList) l 0 j y h (by simp)
 have h2:nmI l y ≤ (j:Int):=by rw [show nmI l y = firstI (fun x:ByteArray=>x.toList == y.toList) l 0 from rfl];omega
 by_cases e:nmI l y = (j:Int)
 ·rw [if_pos e,if_neg (by omega)]
 ·rw [if_neg e,if_pos (by omega)]
theorem same_zero {e:Ex} (h:e.same zeroEx = true) (f:Ex → Bool) (hf:f e = true):e.there f = true:=by
 rw [Ex.same_eq,Bool.and_eq_true] at h
 obtain ⟨-,h2⟩:=h
 have:e.args = []:=by
  cases ha:e.args with
  | nil=>rfl
  | cons x l =>
   rw [ha] at h2
   simp [zeroEx,Ex.args,Ex.sames] at h2
 rw [Ex.there_eq,this,hf]
 rfl
theorem same_op {e:Ex} (h:e.same zeroEx = true):e.op = 0:=by
 rw [Ex.same_eq,Bool.and_eq_true] at h
 obtain ⟨h1,-⟩:=h
 unfold Ex.top at h1
 simp only [Bool.and_eq_true,beq_iff_eq] at h1
 exact h1.1.1.1.1.1
theorem next_eq (p:Pr) (hB:prB p = true) (a:Nat) (x:Sa) (hx:p.states.l[a]? = some x):(if (if (x.to.toList == ([]:List UInt8)) = true then x.keys.l.all (Ex.there (isB p (-1))) else (stI p.states.l x.to).2) then (0:Int) else 7) = wNxI p x:=by
 have h1:saB x = true:=by
  unfold prB at hB
  simp only [Bool.and_eq_true] at hB
  exact (each_mem hB.2.2.1).2 x (List.mem_of_getElem? hx)
 unfold saB at h1
 simp only [Bool.and_eq_true] at h1
 have h2:=h1.2.2
 unfold saT at h2
 unfold wNxI
 by_cases e:(x.to.toList == ([]:List UInt8)) = true
 ·rw [if_pos (by simpa using e)] at h2
  simp only [Bool.and_eq_true] at h2
  have h3:=(each_mem h2.1).1.1
  rw [if_pos e,if_neg (show ¬ x.keys.l.length = 0 by omega)]
 ·rw [if_neg (by simpa using e)] at h2
  simp only [Bool.and_eq_true] at h2
  have h3:x.keys.l.length = 0:=by simpa using h2.2.1
  rw [if_neg e,if_pos h3]
theorem stmt_eq (p:Pr) (a:Int) (s:St) (ha:a = -1 ∨ 0 ≤ a) (ho:s.one = true):wrD p (.st a s) = wrI p (.st a s):=by
 have h4:s.kind = 4 → s.e.there (isB p a) = true:=by
  intro k4
  unfold St.one at ho
  rw [k4] at ho
  simp only [Bool.and_eq_true] at ho
  have h:=ho.2.2
  rw [if_neg (by decide)] at h
  exact same_zero h _ (by unfold isB;rw [same_op h];simp)
 show (if s.kind = 3 ∧ 0 ≤ a then (9:Int) else if sB p s.kind s.head s.name (s.e.there (isB p a)) then 0 else 7) = wStI p a s.kind s.head s.name (if s.e.there (isB p a) then 0 else 7)
 unfold wStI sB
 by_cases k1:s.kind = 1
 ·rw [if_neg (by omega),if_pos k1,if_pos k1]
  by_cases t:targetI p s.head s.name = -1
  ·rw [if_pos t,if_pos t];rfl
  ·rw [if_neg t,if_neg t]
 rw [if_neg k1,if_neg k1]
 by_cases k3:s.kind = 3
 ·rw [if_pos k3,if_pos k3]
  rcases ha with rfl | ha
  ·rw [if_neg (by omega),if_pos rfl]
   by_cases t:taI p.tables.l s.name = -1
   ·rw [if_pos t,t];rfl
   ·rw [if_neg t,if_pos (by rw [bne_iff_ne];exact t)]
  ·rw [if_pos ⟨k3,ha⟩,if_neg (by omega)]
 rw [if_neg k3,if_neg k3,if_neg (fun h=>k3 h.1)]
 by_cases k6:s.kind = 6 ∨ s.kind = 7
 ·rw [if_pos k6,if_pos k6]
  by_cases t:hdI p.headers.l s.head = -1
  ·rw [if_pos t,t];rfl
  ·rw [if_neg t,if_pos (by rw [bne_iff_ne];exact t)]
 rw [if_neg k6,if_neg k6]
 by_cases k4:s.kind = 4
 ·rw [if_pos k4,h4 k4]
 ·rw [if_neg k4]
theorem wr_agree (p:Pr) (w:World) (hin:p.In w) (hz:p.sz ≤ 1048576) (hB:prB p = true) (z:It) (hm:z ∈ encP p) (hd:SafeD p z):wrD p z = wrI p z:=by
 have hok:=enc_ok p w hin hz z hm
 cases hok with
 | stmt a s hs hsz =>
  obtain ⟨h1,h2⟩:=st_fine p hB _ hm a s rfl
  exact stmt_eq p a s h1 h2
 | header a x hx=>simp [wrD,wrDN,wrI,wrN,wHdI,hx]
 | field a b x y hx hy=>simp [wrD,wrDN,wrI,wrN,hx,hy]
 | mta a x hx=>simp [wrD,wrDN,wrI,wrN,hx]
 | state a x hx=>simp [wrD,wrDN,wrI,wrN,hx]
 | take a b x y hx hy =>
  have e1:wrD p (.num 5 a b) = (if (hdI p.headers.l y != -1) then 0 else 7):=by simp only [wrD,wrDN,hx,hy];rfl
  have e2:wrI p (.num 5 a b) = (if hdI p.headers.l y = -1 then 7 else 0):=by simp only [wrI,wrN,hx,hy];rfl
  rw [e1,e2]
  by_cases t:hdI p.headers.l y = -1
  ·rw [if_pos t,t];rfl
  ·rw [if_neg t,if_pos (by rw [bne_iff_ne];exact t)]
 | next a x hx =>
  have e1:wrD p (.num 6 a 0) = (if (if (x.to.toList == ([]:List UInt8)) = true then x.keys.l.all (Ex.there (isB p (-1))) else (stI p.states.l x.to).2) then 0 else 7):=by simp only [wrD,wrDN,hx];rfl
  have e2:wrI p (.num 6 a 0) = wNxI p x:=by simp only [wrI,wrN,hx];rfl
  rw [e1,e2]
  exact next_eq p hB a x hx
 | case_ a b x y hx hy=>simp [wrD,wrDN,wrI,wrN,hx,hy]
 | action a x hx=>simp [wrD,wrDN,wrI,wrN,hx]
 | param a b x y hx hy=>simp [wrD,wrDN,wrI,wrN,hx,hy]
 | table a x hx=>simp [wrD,wrDN,wrI,wrN,hx]
 | key a b x y hx hy=>simp [wrD,wrDN,wrI,wrN,hx,hy]
 | listed a b x y hx hy =>
  have e1:wrD p (.num 13 a b) = (if acI p.actions.l y = -1 then 7 else if nmI x.actions.l y < (b:Int) then 8 else 0):=by simp only [wrD,wrDN,hx,hy];rfl
  have e2:wrI p (.num 13 a b) = (if acI p.actions.l y = -1 then 7 else if nmI x.actions.l y = (b:Int) then 0 else 8):=by simp only [wrI,wrN,hx,hy];rfl
  rw [e1,e2,nm_lt hy]
 | emit a x hx =>
  have e1:wrD p (.num 15 a 0) = (if hdI p.headers.l x = -1 then 7 else if nmI p.emit.l x < (a:Int) then 8 else 0):=by simp only [wrD,wrDN,hx];rfl
  have e2:wrI p (.num 15 a 0) = (if hdI p.headers.l x = -1 then 7 else if nmI p.emit.l x = (a:Int) then 0 else 8):=by simp only [wrI,wrN,hx];rfl
  rw [e1,e2,nm_lt hx]
 | dflt a x hx =>
  have e1:wrD p (.num 14 a 0) = (if nmI x.actions.l x.dflt.name = -1 ∨ acI p.actions.l x.dflt.name = -1 then 7 else (match p.actions.l[(acI p.actions.l x.dflt.name).toNat]? with | some z=>(if x.dflt.args.l.length < z.params.l.length then 13 else if z.params.l.length < x.dflt.args.l.length then 5 else 0) | none=>0)):=by simp only [wrD,wrDN,hx];rfl
  have e2:wrI p (.num 14 a 0) = wDfI x.actions.l x.dflt.name x.dflt.args.l.length (match p.actions.l[(acI p.actions.l x.dflt.name).toNat]? with | some z=>z.params.l.length | none=>0):=by simp only [wrI,wrN,hx];rfl
  rw [e1,e2]
  unfold wDfI
  by_cases t:nmI x.actions.l x.dflt.name = -1
  ·rw [if_pos (.inl t),if_pos t]
  ·have t2:=hd a x rfl hx t
   obtain ⟨k,y,hk,hy⟩:=acI_some t2
   rw [if_neg (fun h=>h.elim t t2),if_neg t,hk,Int.toNat_natCast,hy]
end Go.Proofs.YtlmhldcebllckaaGreat
namespace Go.Proofs.YtlmhldcebllckaaGreat
open Go.RowKit Go.Shelf
attribute [local go_sem] Oper.semAt_some
set_option maxRecDepth 100000 in
set_option maxHeartbeats 8000000 in
theorem check_no (p:Pr) (w:World)
  (hmay:Kp Tryz.prog w 19 #[.agg #[.slice p.headers.p p.headers.l.length p.headers.cap,.slice p.metas.p p.metas.l.length p.metas.cap,.slice p.states.p p.states.l.length p.states.cap,.slice p.actions.p p.actions.l.length p.actions.cap,.slice p.tables.p p.tables.l.length p.tables.cap,.slice p.control.p p.control.l.length p.control.cap,.slice p.emit.p p.emit.l.length p.emit.cap]] (.bool false)) :
  Kp Tryz.prog w 7 #[.agg #[.slice p.headers.p p.headers.l.length p.headers.cap,.slice p.metas.p p.metas.l.length p.metas.cap,.slice p.states.p p.states.l.length p.states.cap,.slice p.actions.p p.actions.l.length p.actions.cap,.slice p.tables.p p.tables.l.length p.tables.cap,.slice p.control.p p.control.l.length p.control.cap,.slice p.emit.p p.emit.l.length p.emit.cap]] (.tuple #[.int .i64 (-1),.int .i64 2]):=by
 intro y0
 have hmay:=hmay.up y0
 obtain ⟨V,hV⟩:∃ V,plus w y0 = V:=⟨_,rfl⟩
 rw [hV] at hmay ⊢
 clear hV
 have hmay':=Lib.hid hmay
 clear hmay
 refine (callsIn_wide (n:=0)).1 ?_
 refine callsIn_of_wp_marks Tryz.func7 rfl trivial ?_ rfl
 simp only [Tryz.ntmps7,List.size_toArray,List.length_cons,List.length_nil,Nat.reduceAdd,Nat.reduceSub,Array.replicate_succ,Array.replicate_zero,List.push_toArray,List.append_toArray,List.nil_append,List.cons_append]
 gi_wp2
 obtain ⟨W3,hW3,⟨z3,hz3⟩,cp,c2,c3,hs3⟩:=three_boxes V _ _ _ 30 3 33
 rw [hW3]
 have qm:=(kp_at hz3 hmay'.out) ⟨#[],W3.drawn⟩
 rw [plus_self] at qm
 have hz3':=Lib.hid hz3
 clear hz3 hW3 cp
 refine ⟨trivial,rfl,CallsIn.mono (callsIn_wide.2 qm) ?_⟩
 rintro e U ⟨rfl,x1,hU⟩
 have hzU:=Lib.hid (show U = plus V _ by rw [hU,hz3'.out,plus_plus])
 have c2:Boxed U _ _ _:=(by rw [hU];exact heap_plus c2 x1)
 have c3:Boxed U _ _ _:=(by rw [hU];exact heap_plus c3 x1)
 clear hU hz3' hs3 qm
 have d2:=c2.cell
 have f2:=c2.frozen
 have d3:=c3.cell
 have f3:=c3.frozen
 have C2:=Lib.hid c2
 have C3:=Lib.hid c3
 clear c2 c3
 gi_wp2
 refine ⟨_,res_cells _ (V.heap.size + 1) (V.heap.size + 1 + 1) (.int .i64 (-1)) (.int .i64 2) _ (Boxed.other (Boxed.set _ C2.out) (by omega) _).cell (Boxed.set _ (Boxed.other C3.out (by omega) _)).cell rfl rfl,rfl,?_⟩
 have kq:=((Kq.plus (fun b=>V.heap.size ≤ b) V _).trans (by rw [← hzU.out];exact Kq.setCell _ ⟨V.heap.size + 1,0,none⟩ (.int .i64 (-1)) (by simp))).trans (Kq.setCell _ ⟨V.heap.size + 1 + 1,0,none⟩ (.int .i64 2) (by simp only;omega))
 exact plus_of_below (kq.low _ (Nat.le_refl _) (fun b h=>h))
/-- What Check hands back. -/
def chkN (p:Pr):Int:=if prB p then ((scanI p (encP p) 0).1:Int) else -1
def chkE (p:Pr):Int:=if prB p then (scanI p (encP p) 0).2 else 2
theorem q_Check (p:Pr) (w:World) (hin:p.In w) (hz:p.sz ≤ 1048576):Kp Tryz.prog w 7 #[.agg #[.slice p.headers.p p.headers.l.length p.headers.cap,.slice p.metas.p p.metas.l.length p.metas.cap,.slice p.states.p p.states.l.length p.states.cap,.slice p.actions.p p.actions.l.length p.actions.cap,.slice p.tables.p p.tables.l.length p.tables.cap,.slice p.control.p p.control.l.length p.control.cap,.slice p.emit.p p.emit.l.length p.emit.cap]] (.tuple #[.int .i64 (chkN p),.int .i64 (chkE p)]):=by
 have h:=ast_may p w hin hz
 unfold chkN chkE
 cases hb:prB p with
 | true =>
  rw [hb] at h
  exact check_yes p w hin hz h
 | false =>
  rw [hb] at h
  exact check_no p w h
end Go.Proofs.YtlmhldcebllckaaGreat
