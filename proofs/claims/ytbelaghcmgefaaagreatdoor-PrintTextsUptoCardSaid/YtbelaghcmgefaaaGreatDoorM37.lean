/-
  WHAT IS PROVED HERE: a part of the proof (made narrower and merged by program; the parts: Pj Pk Pm Pl).
-/
import Derived.Test.YtbelaghcmgefaaaGreatDoorRows
import Derived.OpenShut
import Derived.Deep.RegionHeld3
import Derived.WalkKit
import Derived.Lib.Hide
import Derived.WalkSpells
import Derived.WalkLawsBesides
import Derived.Lib.UnsafeStr
import Derived.Lib.Builder
import Derived.Laws.EntriesVeiled
import Derived.Test.YtbelaghcmgefaaaGreatDoorM31
import Derived.Test.YtbelaghcmgefaaaGreatDoorM9
import Derived.Test.YtbelaghcmgefaaaGreatDoorM34
import Derived.Test.YtbelaghcmgefaaaGreatDoorM35
import Derived.Test.YtbelaghcmgefaaaGreatDoorM30
import Derived.Test.YtbelaghcmgefaaaGreatDoorM14
namespace Go.Proofs.YtbelaghcmgefaaaGreatDoor
open Go.RowKit
theorem i64_in {h:Int} (k:(Lit.int .i64 h).wf = true):-9223372036854775808 ≤ h ∧ h ≤ 9223372036854775807:=by
 have:=bounds_i64 k
 omega
/-- Itoa in the writer's worlds. -/
theorem itoa_kp {w0:World} (hT:Tab w0) (n:Int) (k:(Lit.int .i64 n).wf = true):Kp Tryz.prog w0 43 #[.int .i64 n] (.string (itoaB n)):=fun y =>
 lib_itoa n (i64_in k).1 (i64_in k).2 (plus w0 y) (tab_plus hT y)
set_option maxHeartbeats 4000000 in
set_option maxRecDepth 100000 in
theorem wr_param (w0:World) (hT:Tab w0) (b m1 m2:Nat) (e1 e2:Array MapEntry) (d:Int) (n:ByteArray) (k:Int) (hk:(Lit.int .i64 k).wf = true):Wm w0 b m1 m2 e1 e2 112 (.agg #[.string n,.int .i64 k]) ([98,105,116,60]++((itoaB k).data.toList++([62,32]++(n.data.toList)))) d:=by
 intro t v h hlen
 have h0:=h.alloc (.cells #[.string n,.int .i64 k] 88)
 have f0':=Lib.hid (Fr.alloc b v (.cells #[.string n,.int .i64 k] 88))
 have hne:v.heap.size ≠ b:=by have:=h.lt;omega
 have hb0:(v.alloc (.cells #[.string n,.int .i64 k] 88)).heap[v.heap.size]? = some (.cells #[.string n,.int .i64 k] 88):=alloc_new v _
 have hS:∀ U,Fr b (v.alloc (.cells #[.string n,.int .i64 k] 88)) U → (U.cell? ⟨v.heap.size,0,none⟩ = some (.string n) ∧ U.cell? ⟨v.heap.size,1,none⟩ = some (.int .i64 k) ∧ Fr b (v.alloc (.cells #[.string n,.int .i64 k] 88)) U):=fun U hU=>by
  have hb:=hU.box hb0 hne (show ¬ (88:TypeId) = 5 by decide)
  exact ⟨by rw [Lib.cell_of_heap hb];rfl,by rw [Lib.cell_of_heap hb];rfl,hU⟩
 have hS':=Lib.hid hS
 have hI:=Lib.hid (itoa_kp hT k hk)
 have hP:=Lib.hid (fun u (hu:Wr w0 b m1 m2 e1 e2 t d u)=>@put_at w0 b m1 m2 e1 e2 d [⟨#[98,105,116,60]⟩,(itoaB k),⟨#[62,32]⟩,n] ([98,105,116,60]++((itoaB k).data.toList++([62,32]++(n.data.toList)))) (by simp) (by simp [catB]) t u hu hlen)
 clear h hlen hne hb0 hS hT hk
 go_enter Tryz.func112,Tryz.ntmps112
 go_upto_region 1 with (fail)
 go_region_held3 (fun U=>U.cell? ⟨v.heap.size,0,none⟩ = some (.string n) ∧ U.cell? ⟨v.heap.size,1,none⟩ = some (.int .i64 k) ∧ Fr b (v.alloc (.cells #[.string n,.int .i64 k] 88)) U) (exact hS'.out _ (by repeat (first | exact Fr.refl _ _ | assumption | refine Fr.trans ?_ (Fr.alloc _ _ _) | refine Fr.trans ?_ (Fr.plus _ _ _) | refine Fr.trans ?_ (Fr.drew _ _) | refine Fr.trans ?_ (by assumption)))) (first | (go_at_call 43;refine (hI.out.over (b:=b) (t:=t) (d:=d) (m1:=m1) (m2:=m2) (e1:=e1) (e2:=e2) (by repeat (first | assumption | apply Wr.alloc | apply Wr.plus | apply Wr.drew))).mono ?_;rintro e w' ⟨rfl,y,rfl⟩) | (go_at_call 41;refine (hP.out _ (by repeat (first | assumption | apply Wr.alloc | apply Wr.plus | apply Wr.drew))).mono ?_;rintro e w' ⟨rfl,hw,hf⟩))
 all_goals go_wp2
 all_goals go_end0
 rename_i hh
 exact ⟨rfl,hw,f0'.out.trans hh.2.2⟩
set_option maxHeartbeats 4000000 in
set_option maxRecDepth 100000 in
theorem wr_expr_slice (w0:World) (hT:Tab w0) (b m1 m2:Nat) (e1 e2:Array MapEntry) (d:Int) (lw lh ll:Int) (hd9 nm:ByteArray) (hi lo:Int) (ac:Nat) (pa:Addr) (x0 x1 x2 x3:Int) (x4 x5:ByteArray) (x6 x7:Int) (xp:Option Addr) (xn xc:Nat) (hx:CellsAt w0 pa [.int .u8 x0,.int .i64 x1,.int .u64 x2,.int .u64 x3,.string x4,.string x5,.int .i64 x6,.int .i64 x7,.slice xp xn xc]) (AT:List UInt8) (hA:Wc w0 b m1 m2 e1 e2 42 #[.pointer (some ⟨b,0,none⟩),.agg #[.int .u8 x0,.int .i64 x1,.int .u64 x2,.int .u64 x3,.string x4,.string x5,.int .i64 x6,.int .i64 x7,.slice xp xn xc]] AT d d) (ka:(Lit.int .i64 hi).wf = true) (kb:(Lit.int .i64 lo).wf = true) :
  Wm w0 b m1 m2 e1 e2 22 (.agg #[.int .u8 10,.int .i64 lw,.int .u64 lh,.int .u64 ll,.string hd9,.string nm,.int .i64 hi,.int .i64 lo,.slice (some pa) 1 ac]) (AT++([91]++((itoaB hi).data.toList++([58]++((itoaB lo).data.toList++([93])))))) d:=by
 intro t v h hlen
 obtain ⟨XX,hXX⟩:∃ XX,t++(AT++([91]++((itoaB hi).data.toList++([58]++((itoaB lo).data.toList++([93])))))) = XX:=⟨_,rfl⟩
 rw [hXX]
 replace hXX:=Lib.hid hXX
 have h0:=h.alloc (.cells #[.int .u8 10,.int .i64 lw,.int .u64 lh,.int .u64 ll,.string hd9,.string nm,.int .i64 hi,.int .i64 lo,.slice (some pa) 1 ac] 29)
 have f0':=Lib.hid (Fr.alloc b v (.cells #[.int .u8 10,.int .i64 lw,.int .u64 lh,.int .u64 ll,.string hd9,.string nm,.int .i64 hi,.int .i64 lo,.slice (some pa) 1 ac] 29))
 have hne:v.heap.size ≠ b:=by have:=h.lt;omega
 have hb0:(v.alloc (.cells #[.int .u8 10,.int .i64 lw,.int .u64 lh,.int .u64 ll,.string hd9,.string nm,.int .i64 hi,.int .i64 lo,.slice (some pa) 1 ac] 29)).heap[v.heap.size]? = some (.cells #[.int .u8 10,.int .i64 lw,.int .u64 lh,.int .u64 ll,.string hd9,.string nm,.int .i64 hi,.int .i64 lo,.slice (some pa) 1 ac] 29):=alloc_new v _
 have hx0:CellsAt (v.alloc (.cells #[.int .u8 10,.int .i64 lw,.int .u64 lh,.int .u64 ll,.string hd9,.string nm,.int .i64 hi,.int .i64 lo,.slice (some pa) 1 ac] 29)) pa [.int .u8 x0,.int .i64 x1,.int .u64 x2,.int .u64 x3,.string x4,.string x5,.int .i64 x6,.int .i64 x7,.slice xp xn xc]:=by
  obtain ⟨z,hz⟩:=h0.over
  exact cellsat_at hz hx
 have d0:(v.alloc (.cells #[.int .u8 10,.int .i64 lw,.int .u64 lh,.int .u64 ll,.string hd9,.string nm,.int .i64 hi,.int .i64 lo,.slice (some pa) 1 ac] 29)).cell? pa = some (.int .u8 x0):=hx0.c0 _ rfl
 have d1:(v.alloc (.cells #[.int .u8 10,.int .i64 lw,.int .u64 lh,.int .u64 ll,.string hd9,.string nm,.int .i64 hi,.int .i64 lo,.slice (some pa) 1 ac] 29)).cell? ⟨pa.block,pa.off + 1,none⟩ = some (.int .i64 x1):=hx0.cs 0 _ rfl
 have d2:(v.alloc (.cells #[.int .u8 10,.int .i64 lw,.int .u64 lh,.int .u64 ll,.string hd9,.string nm,.int .i64 hi,.int .i64 lo,.slice (some pa) 1 ac] 29)).cell? ⟨pa.block,pa.off + 2,none⟩ = some (.int .u64 x2):=hx0.cs 1 _ rfl
 have d3:(v.alloc (.cells #[.int .u8 10,.int .i64 lw,.int .u64 lh,.int .u64 ll,.string hd9,.string nm,.int .i64 hi,.int .i64 lo,.slice (some pa) 1 ac] 29)).cell? ⟨pa.block,pa.off + 3,none⟩ = some (.int .u64 x3):=hx0.cs 2 _ rfl
 have d4:(v.alloc (.cells #[.int .u8 10,.int .i64 lw,.int .u64 lh,.int .u64 ll,.string hd9,.string nm,.int .i64 hi,.int .i64 lo,.slice (some pa) 1 ac] 29)).cell? ⟨pa.block,pa.off + 4,none⟩ = some (.string x4):=hx0.cs 3 _ rfl
 have d5:(v.alloc (.cells #[.int .u8 10,.int .i64 lw,.int .u64 lh,.int .u64 ll,.string hd9,.string nm,.int .i64 hi,.int .i64 lo,.slice (some pa) 1 ac] 29)).cell? ⟨pa.block,pa.off + 5,none⟩ = some (.string x5):=hx0.cs 4 _ rfl
 have d6:(v.alloc (.cells #[.int .u8 10,.int .i64 lw,.int .u64 lh,.int .u64 ll,.string hd9,.string nm,.int .i64 hi,.int .i64 lo,.slice (some pa) 1 ac] 29)).cell? ⟨pa.block,pa.off + 6,none⟩ = some (.int .i64 x6):=hx0.cs 5 _ rfl
 have d7:(v.alloc (.cells #[.int .u8 10,.int .i64 lw,.int .u64 lh,.int .u64 ll,.string hd9,.string nm,.int .i64 hi,.int .i64 lo,.slice (some pa) 1 ac] 29)).cell? ⟨pa.block,pa.off + 7,none⟩ = some (.int .i64 x7):=hx0.cs 6 _ rfl
 have d8:(v.alloc (.cells #[.int .u8 10,.int .i64 lw,.int .u64 lh,.int .u64 ll,.string hd9,.string nm,.int .i64 hi,.int .i64 lo,.slice (some pa) 1 ac] 29)).cell? ⟨pa.block,pa.off + 8,none⟩ = some (.slice xp xn xc):=hx0.cs 7 _ rfl
 have q1:=Lib.hid (hA t _ h0 (by rw [List.length_append] at hlen;omega))
 have hI:=Lib.hid (itoa_kp hT hi ka)
 have hL:=Lib.hid (itoa_kp hT lo kb)
 have hP:=Lib.hid (fun u (hu:Wr w0 b m1 m2 e1 e2 (t++AT) d u)=>@put_at w0 b m1 m2 e1 e2 d [⟨#[91]⟩,(itoaB hi),⟨#[58]⟩,(itoaB lo),⟨#[93]⟩] ([91]++((itoaB hi).data.toList++([58]++((itoaB lo).data.toList++([93]))))) (by simp) (by simp [catB]) (t++AT) u hu (by rw [List.length_append] at hlen ⊢;omega))
 have hne':=Lib.hid hne
 have hb0':=Lib.hid hb0
 clear h hlen hne hb0 hT ka kb hx hx0 hA h0
 go_enter Tryz.func22,Tryz.ntmps22
 go_wp2_with fail
 refine q1.out.mono ?_
 rintro e u1 ⟨rfl,h1,f1⟩
 have hS:∀ U,Fr b u1 U → (U.cell? ⟨v.heap.size,6,none⟩ = some (.int .i64 hi) ∧ U.cell? ⟨v.heap.size,7,none⟩ = some (.int .i64 lo) ∧ Fr b u1 U):=fun U hU=>by
  have hb:=(f1.trans hU).box hb0'.out hne'.out (show ¬ (29:TypeId) = 5 by decide)
  exact ⟨by rw [Lib.cell_of_heap hb];rfl,by rw [Lib.cell_of_heap hb];rfl,hU⟩
 have hS':=Lib.hid hS
 have f1':=Lib.hid f1
 clear q1 hS f1 d0 d1 d2 d3 d4 d5 d6 d7 d8
 go_upto_region 17 with (fail)
 go_region_held3 (fun U=>U.cell? ⟨v.heap.size,6,none⟩ = some (.int .i64 hi) ∧ U.cell? ⟨v.heap.size,7,none⟩ = some (.int .i64 lo) ∧ Fr b u1 U) (exact hS'.out _ (by repeat (first | exact Fr.refl _ _ | assumption | refine Fr.trans ?_ (Fr.alloc _ _ _) | refine Fr.trans ?_ (Fr.plus _ _ _) | refine Fr.trans ?_ (Fr.drew _ _) | refine Fr.trans ?_ (by assumption)))) (first | (go_at_call 43;refine (hI.out.over (b:=b) (t:=t++AT) (d:=d) (m1:=m1) (m2:=m2) (e1:=e1) (e2:=e2) (by repeat (first | assumption | apply Wr.alloc | apply Wr.plus | apply Wr.drew))).mono ?_;rintro e w' ⟨rfl,y,rfl⟩) | (go_at_call 43;refine (hL.out.over (b:=b) (t:=t++AT) (d:=d) (m1:=m1) (m2:=m2) (e1:=e1) (e2:=e2) (by repeat (first | assumption | apply Wr.alloc | apply Wr.plus | apply Wr.drew))).mono ?_;rintro e w' ⟨rfl,y,rfl⟩) | (go_at_call 41;refine (hP.out _ (by repeat (first | assumption | apply Wr.alloc | apply Wr.plus | apply Wr.drew))).mono ?_;rintro e w' ⟨rfl,hw,hf⟩))
 all_goals go_wp2
 all_goals go_end0
 all_goals rename_i hh
 all_goals exact ⟨rfl,by rw [← hXX.out,← List.append_assoc];exact hw,f0'.out.trans (f1'.out.trans hh.2.2)⟩
theorem look_nu8 {P:Program} {w:World} {mt kt et:TypeId} {r:Nat} {es:Array MapEntry} {z:Value} (hm:P.underlying mt = some (.map kt et)) (hk:P.underlying kt = some (.int .u8)) (hz:(zeroValue et).run P w = .ok z w) (h:MapAt w r es) (hu:u8Keys es.toList) (i:Int) :
  (Instr.lookup mt (.map (some r)) (.int .u8 i) false).run P w = .ok (getIn z i es.toList).1 w:=by
 obtain ⟨n,hb⟩:=h
 obtain ⟨q,h1,h2⟩:=find_get z i es.toList 0 hu
 have hc:(Instr.checkKey es.isEmpty 10000 kt (.int .u8 i)).run P w = .ok () w:=MapKept.run_checkKey (k:=.int .u8 i) hk (by simp [MapKept.IsKey]) _ 9999
 rcases h2 with ⟨a,v,rfl,hg⟩ | ⟨rfl,hg⟩
 ·simp [Instr.lookup,run_underlying hm,MapKept.run_getObj_map hb,hc,MapKept.run_findKey hk h1,Result.andThen,hg]
 ·simp [Instr.lookup,run_underlying hm,MapKept.run_getObj_map hb,hc,MapKept.run_findKey hk h1,Result.andThen,hg,hz]
/-- The signs' map, and the words' one. -/
def gK (i:Nat):Int:=if i < 3 then (i:Int) + 7 else (i:Int) + 8
def gV (k:Int):Value:=.agg #[.string ⟨(sgL k).toArray⟩]
def kV (k:Int):Value:=.agg #[.string ⟨(kwL k).toArray⟩]
def esG (n:Nat):Array MapEntry:=((List.range n).map fun (i:Nat)=>(⟨.int .u8 (gK i),gV (gK i),i⟩:MapEntry)).toArray
def esK (n:Nat):Array MapEntry:=((List.range n).map fun (i:Nat)=>(⟨.int .u8 ((i:Int) + 1),kV ((i:Int) + 1),i⟩:MapEntry)).toArray
def wG (V:World) (n:Nat):World:=V.alloc (.map (esG n) n)
def wK (V:World) (n:Nat):World:=V.alloc (.map (esK n) n)
theorem upd_G (V:World) (n:Nat) (hn:Instr.findNow (.int .u8) (.int .u8 (gK n)) (esG n).toList 0 = some none) :
  (Instr.mapUpdate 79 (.map (some V.heap.size)) (.int .u8 (gK n)) (gV (gK n))).run Tryz.prog (wG V n) = .ok () (wG V (n + 1)):=by
 unfold wG
 rw [upd_u8 Tryz.underlying79 Tryz.underlying5 V _ n _ _ hn]
 simp [esG,List.range_succ]
theorem upd_K (V:World) (n:Nat) (hn:Instr.findNow (.int .u8) (.int .u8 ((n:Int) + 1)) (esK n).toList 0 = some none) :
  (Instr.mapUpdate 79 (.map (some V.heap.size)) (.int .u8 ((n:Int) + 1)) (kV ((n:Int) + 1))).run Tryz.prog (wK V n) = .ok () (wK V (n + 1)):=by
 unfold wK
 rw [upd_u8 Tryz.underlying79 Tryz.underlying5 V _ n _ _ hn]
 simp [esK,List.range_succ]
theorem keys_G (n:Nat):u8Keys (esG n).toList:=by
 intro e he
 simp only [esG,List.mem_map] at he
 obtain ⟨j,_,rfl⟩:=he
 exact ⟨_,rfl⟩
theorem zero_sign (w:World):(zeroValue 150).run Tryz.prog w = .ok (.agg #[.string ⟨#[]⟩]) w:=by kernel_rfl
theorem getG (z:Value):∀ i:Fin 19,getIn z (gK i) (esG 19).toList = (gV (gK i),true):=by
 intro i
 match i with
 | ⟨0,_⟩=>exact rfl
 | ⟨1,_⟩=>exact rfl
 | ⟨2,_⟩=>exact rfl
 | ⟨3,_⟩=>exact rfl
 | ⟨4,_⟩=>exact rfl
 | ⟨5,_⟩=>exact rfl
 | ⟨6,_⟩=>exact rfl
 | ⟨7,_⟩=>exact rfl
 | ⟨8,_⟩=>exact rfl
 | ⟨9,_⟩=>exact rfl
 | ⟨10,_⟩=>exact rfl
 | ⟨11,_⟩=>exact rfl
 | ⟨12,_⟩=>exact rfl
 | ⟨13,_⟩=>exact rfl
 | ⟨14,_⟩=>exact rfl
 | ⟨15,_⟩=>exact rfl
 | ⟨16,_⟩=>exact rfl
 | ⟨17,_⟩=>exact rfl
 | ⟨18,_⟩=>exact rfl
 | ⟨n + 19,h⟩=>exact absurd h (by omega)
theorem look_g (w:World) (m:Nat) (h:MapAt w m (esG 19)) (op:Int) (h1:7 ≤ op) (h2:op ≤ 26) (h3:op ≠ 10):(Instr.lookup 79 (.map (some m)) (.int .u8 op) false).run Tryz.prog w = .ok (.agg #[.string ⟨(sgL op).toArray⟩]) w:=by
 rw [look_nu8 Tryz.underlying79 Tryz.underlying5 (zero_sign w) h (keys_G 19) op]
 obtain ⟨i,hi⟩:∃ i:Fin 19,gK i = op:=by
  by_cases h4:op < 10
  ·exact ⟨⟨(op - 7).toNat,by omega⟩,by show (if (op - 7).toNat < 3 then (((op - 7).toNat:Nat):Int) + 7 else _) = op;rw [if_pos (by omega)];omega⟩
  ·exact ⟨⟨(op - 8).toNat,by omega⟩,by show (if (op - 8).toNat < 3 then _ else (((op - 8).toNat:Nat):Int) + 8) = op;rw [if_neg (by omega)];omega⟩
 have hg:=getG (.agg #[.string ⟨#[]⟩]) i
 rw [hi] at hg
 rw [hg]
 rfl
theorem look_k (w:World) (m:Nat) (h:MapAt w m (esK 3)) (k:Int) (h1:1 ≤ k) (h2:k ≤ 3):(Instr.lookup 79 (.map (some m)) (.int .u8 k) false).run Tryz.prog w = .ok (.agg #[.string ⟨(kwL k).toArray⟩]) w:=by
 rw [look_nu8 Tryz.underlying79 Tryz.underlying5 (zero_sign w) h (keys_range kV 3) k]
 unfold esK
 rw [getIn_upto,if_pos ⟨h1,by omega⟩]
 rfl
set_option maxRecDepth 100000 in
set_option maxHeartbeats 8000000 in
theorem print_signs (V:World):Calls Tryz.prog 39 #[] V fun e w'=>∃ m1 m2,e = .returned (.agg #[.map (some m1),.map (some m2)]) ∧ (∃ x,w' = plus V x) ∧ MapAt w' m1 (esG 19) ∧ MapAt w' m2 (esK 3):=by
 obtain ⟨V0,hV0⟩:∃ V0,V.alloc (.cells #[.map none,.map none] 81) = V0:=⟨_,rfl⟩
 obtain ⟨V1,hV1⟩:∃ V1,wG V0 19 = V1:=⟨_,rfl⟩
 have hlt:V0.heap.size = V.heap.size + 1:=by rw [← hV0];simp
 have hlt1:V1.heap.size = V.heap.size + 2:=by rw [← hV1];unfold wG;simp [hlt]
 have u0:(Instr.makeMap 79 none).run Tryz.prog V0 = .ok (.map (some V0.heap.size)) (wG V0 0):=rfl
 have v0:(Instr.mapUpdate 79 (.map (some V0.heap.size)) (.int .u8 7) (.agg #[.string ⟨#[126]⟩])).run Tryz.prog (wG V0 0) = .ok () (wG V0 1):=upd_G V0 0 rfl
 have v1:(Instr.mapUpdate 79 (.map (some V0.heap.size)) (.int .u8 8) (.agg #[.string ⟨#[45]⟩])).run Tryz.prog (wG V0 1) = .ok () (wG V0 2):=upd_G V0 1 rfl
 have v2:(Instr.mapUpdate 79 (.map (some V0.heap.size)) (.int .u8 9) (.agg #[.string ⟨#[33]⟩])).run Tryz.prog (wG V0 2) = .ok () (wG V0 3):=upd_G V0 2 rfl
 have v3:(Instr.mapUpdate 79 (.map (some V0.heap.size)) (.int .u8 11) (.agg #[.string ⟨#[43,43]⟩])).run Tryz.prog (wG V0 3) = .ok () (wG V0 4):=upd_G V0 3 rfl
 have v4:(Instr.mapUpdate 79 (.map (some V0.heap.size)) (.int .u8 12) (.agg #[.string ⟨#[43]⟩])).run Tryz.prog (wG V0 4) = .ok () (wG V0 5):=upd_G V0 4 rfl
 have v5:(Instr.mapUpdate 79 (.map (some V0.heap.size)) (.int .u8 13) (.agg #[.string ⟨#[45]⟩])).run Tryz.prog (wG V0 5) = .ok () (wG V0 6):=upd_G V0 5 rfl
 have v6:(Instr.mapUpdate 79 (.map (some V0.heap.size)) (.int .u8 14) (.agg #[.string ⟨#[60,60]⟩])).run Tryz.prog (wG V0 6) = .ok () (wG V0 7):=upd_G V0 6 rfl
 have v7:(Instr.mapUpdate 79 (.map (some V0.heap.size)) (.int .u8 15) (.agg #[.string ⟨#[62,62]⟩])).run Tryz.prog (wG V0 7) = .ok () (wG V0 8):=upd_G V0 7 rfl
 have v8:(Instr.mapUpdate 79 (.map (some V0.heap.size)) (.int .u8 16) (.agg #[.string ⟨#[38]⟩])).run Tryz.prog (wG V0 8) = .ok () (wG V0 9):=upd_G V0 8 rfl
 have v9:(Instr.mapUpdate 79 (.map (some V0.heap.size)) (.int .u8 17) (.agg #[.string ⟨#[94]⟩])).run Tryz.prog (wG V0 9) = .ok () (wG V0 10):=upd_G V0 9 rfl
 have v10:(Instr.mapUpdate 79 (.map (some V0.heap.size)) (.int .u8 18) (.agg #[.string ⟨#[124]⟩])).run Tryz.prog (wG V0 10) = .ok () (wG V0 11):=upd_G V0 10 rfl
 have v11:(Instr.mapUpdate 79 (.map (some V0.heap.size)) (.int .u8 19) (.agg #[.string ⟨#[61,61]⟩])).run Tryz.prog (wG V0 11) = .ok () (wG V0 12):=upd_G V0 11 rfl
 have v12:(Instr.mapUpdate 79 (.map (some V0.heap.size)) (.int .u8 20) (.agg #[.string ⟨#[33,61]⟩])).run Tryz.prog (wG V0 12) = .ok () (wG V0 13):=upd_G V0 12 rfl
 have v13:(Instr.mapUpdate 79 (.map (some V0.heap.size)) (.int .u8 21) (.agg #[.string ⟨#[60]⟩])).run Tryz.prog (wG V0 13) = .ok () (wG V0 14):=upd_G V0 13 rfl
 have v14:(Instr.mapUpdate 79 (.map (some V0.heap.size)) (.int .u8 22) (.agg #[.string ⟨#[60,61]⟩])).run Tryz.prog (wG V0 14) = .ok () (wG V0 15):=upd_G V0 14 rfl
 have v15:(Instr.mapUpdate 79 (.map (some V0.heap.size)) (.int .u8 23) (.agg #[.string ⟨#[62]⟩])).run Tryz.prog (wG V0 15) = .ok () (wG V0 16):=upd_G V0 15 rfl
 have v16:(Instr.mapUpdate 79 (.map (some V0.heap.size)) (.int .u8 24) (.agg #[.string ⟨#[62,61]⟩])).run Tryz.prog (wG V0 16) = .ok () (wG V0 17):=upd_G V0 16 rfl
 have v17:(Instr.mapUpdate 79 (.map (some V0.heap.size)) (.int .u8 25) (.agg #[.string ⟨#[38,38]⟩])).run Tryz.prog (wG V0 17) = .ok () (wG V0 18):=upd_G V0 17 rfl
 have v18:(Instr.mapUpdate 79 (.map (some V0.heap.size)) (.int .u8 26) (.agg #[.string ⟨#[124,124]⟩])).run Tryz.prog (wG V0 18) = .ok () (V1):=by rw [← hV1];exact upd_G V0 18 rfl
 have t0:(Instr.makeMap 79 none).run Tryz.prog V1 = .ok (.map (some V1.heap.size)) (wK V1 0):=rfl
 have s0:(Instr.mapUpdate 79 (.map (some V1.heap.size)) (.int .u8 1) (.agg #[.string ⟨#[101,120,97,99,116]⟩])).run Tryz.prog (wK V1 0) = .ok () (wK V1 1):=upd_K V1 0 rfl
 have s1:(Instr.mapUpdate 79 (.map (some V1.heap.size)) (.int .u8 2) (.agg #[.string ⟨#[108,112,109]⟩])).run Tryz.prog (wK V1 1) = .ok () (wK V1 2):=upd_K V1 1 rfl
 have s2:(Instr.mapUpdate 79 (.map (some V1.heap.size)) (.int .u8 3) (.agg #[.string ⟨#[116,101,114,110,97,114,121]⟩])).run Tryz.prog (wK V1 2) = .ok () (wK V1 3):=upd_K V1 2 rfl
 have c0:(wK V1 3).heap[V.heap.size]? = some (.cells #[.map none,.map none] 81):=by
  rw [← hV1,← hV0]
  show ((((V.heap.push _).push _).push _))[V.heap.size]? = _
  rw [Array.getElem?_push,if_neg (by simp;omega),Array.getElem?_push,if_neg (by simp)]
  simp
 have c1:(wK V1 3).cell? ⟨V.heap.size,0,none⟩ = some (.map none):=ch c0
 have c2:(wK V1 3).cell? ⟨V.heap.size,1,none⟩ = some (.map none):=ch c0
 have z0:=Lib.frozen_of_heap c0
 clear c0
 have hB:∃ x,((wK V1 3).setCell ⟨V.heap.size,0,none⟩ (.map (some V0.heap.size))).setCell ⟨V.heap.size,1,none⟩ (.map (some V1.heap.size)) = plus V x:=by
  have b0:Below V.heap.size V V0:=by rw [← hV0];exact (Below.refl _ _).alloc (Nat.le_refl _) _
  have b1:Below V.heap.size V V1:=by rw [← hV1];exact b0.alloc (by omega) _
  exact plus_of_below (((b1.alloc (by omega) _).setCell (p:=⟨V.heap.size,0,none⟩) (Nat.le_refl _) _).setCell (p:=⟨V.heap.size,1,none⟩) (Nat.le_refl _) _)
 have hm1:MapAt (((wK V1 3).setCell ⟨V.heap.size,0,none⟩ (.map (some V0.heap.size))).setCell ⟨V.heap.size,1,none⟩ (.map (some V1.heap.size))) V0.heap.size (esG 19):=by
  refine ((MapAt.alloc ?_ _).set _ _ _ (by omega)).set _ _ _ (by omega)
  exact ⟨19,by rw [← hV1];show (V0.heap.push _)[V0.heap.size]? = _;simp⟩
 have hm2:MapAt (((wK V1 3).setCell ⟨V.heap.size,0,none⟩ (.map (some V0.heap.size))).setCell ⟨V.heap.size,1,none⟩ (.map (some V1.heap.size))) V1.heap.size (esK 3):=by
  refine (MapAt.set ?_ _ _ _ (by omega)).set _ _ _ (by omega)
  exact ⟨3,by show (V1.heap.push _)[V1.heap.size]? = _;simp⟩
 have hB':=Lib.hid hB
 have hm1':=Lib.hid hm1
 have hm2':=Lib.hid hm2
 clear hB hm1 hm2 hlt hlt1 hV1
 go_enter Tryz.func39,Tryz.ntmps39
 go_wp2
 exact bodyPost_ret (v:=.agg #[.map (some V0.heap.size),.map (some V1.heap.size)]) (by simp [results,Tryz.results39,go_sem,c1,c2]) rfl ⟨_,_,rfl,hB'.out,hm1'.out,hm2'.out⟩
/-- A fresh writer's block. -/
theorem fresh_writer (w0 v:World) (m1 m2:Nat) (e1 e2:Array MapEntry) (hB:∃ z,v = plus w0 z) (h1:MapAt v m1 e1) (h2:MapAt v m2 e2) :
  Wr w0 v.heap.size m1 m2 e1 e2 [] ((0:Nat):Int) (v.alloc (.cells #[.pointer none,.slice none 0 0,.map (some m1),.map (some m2),.int .i64 0] 83)):=by
 obtain ⟨z,rfl⟩:=hB
 refine .inl ⟨((below_plus w0 z).alloc (below_plus w0 z).size _),(below_plus w0 z).size,⟨.slice none 0 0,alloc_new _ _,?_⟩,h1.alloc _,h2.alloc _⟩
 exact ⟨rfl,.inl ⟨rfl,rfl⟩⟩
set_option maxRecDepth 100000 in
set_option maxHeartbeats 2000000 in
theorem wr_new (w0 v:World) (hB:∃ z,v = plus w0 z):Calls Tryz.prog 21 #[] v fun e w'=>∃ b m1 m2,e = .returned (.pointer (some ⟨b,0,none⟩)) ∧ Wr w0 b m1 m2 (esG 19) (esK 3) [] ((0:Nat):Int) w':=by
 have hB':=Lib.hid hB
 clear hB
 go_enter Tryz.func21,Tryz.ntmps21
 go_wp2_with fail
 refine (print_signs _).mono ?_
 rintro e w' ⟨m1,m2,rfl,⟨x,hx⟩,h1,h2⟩
 have hw:=Lib.hid (fresh_writer w0 w' m1 m2 (esG 19) (esK 3) (by
  obtain ⟨z,hz⟩:=hB'.out
  exact ⟨_,by rw [hx,hz,plus_plus]⟩) h1 h2)
 clear h1 h2 hx
 go_wp2
 go_ret
 exact ⟨_,_,_,rfl,hw.out⟩
set_option maxRecDepth 100000 in
set_option maxHeartbeats 2000000 in
theorem wr_string (w0:World) (b m1 m2:Nat) (e1 e2:Array MapEntry) (t:List UInt8) (d:Int) (w:World) (h:Wr w0 b m1 m2 e1 e2 t d w) (h0:t ≠ []) :
  Calls Tryz.prog 23 #[.pointer (some ⟨b,0,none⟩)] w fun e w'=>e = .returned (.string ⟨t.toArray⟩) ∧ ∃ x,w' = plus w0 x:=by
 obtain ⟨p,hw⟩:∃ p,WrP w0 b m1 m2 e1 e2 p t d w:=by
  rcases h with h | h
  ·exact ⟨_,h⟩
  ·exact ⟨_,h⟩
 have hbase:=hw.base
 obtain ⟨sl,hbk,hown⟩:=hw.one
 have hl0:t.length ≠ 0:=by simpa using h0
 obtain ⟨g,cap,cur,rfl,hbg,hg,hnc,hcm,hcs,htake⟩:∃ g cap cur,sl = .slice (some ⟨g,0,none⟩) t.length cap ∧ w0.heap.size ≤ g ∧ w.heap[g]? = some (.cells cur 5 (0,0)) ∧ t.length ≤ cap ∧ cap ≤ maxLen ∧ cur.size = cap * 1 ∧ cur.toList.take (t.length * 1) = Lib.byteCells t:=by
  rcases hown.2 with ⟨_,hz⟩ | ⟨g,cap,cur,hv,r⟩
  ·exact absurd hz hl0
  ·exact ⟨g,cap,cur,hv,r⟩
 have c1:w.drew.cell? ⟨b,1,none⟩ = some (.slice (some ⟨g,0,none⟩) t.length cap):=by
  have:w.drew.heap[b]? = some (.cells #[p,.slice (some ⟨g,0,none⟩) t.length cap,.map (some m1),.map (some m2),.int .i64 d] 83 (0,0)):=hbk
  rw [Lib.cell_of_heap this];rfl
 have hSD:(Builtin.unsafeSliceData_ #[76] 108 #[.slice (some ⟨g,0,none⟩) t.length cap]).run Tryz.prog w.drew = .ok (.pointer (some ⟨g,0,none⟩)) w.drew :=
  Lib.run_unsafeSliceData_row _ _ _ _ _ _ (by omega)
 have hUS:(Builtin.unsafeString_ #[108,3] 9 #[.pointer (some ⟨g,0,none⟩),.int .i64 t.length]).run Tryz.prog w.drew = .ok (.string ⟨t.toArray⟩) (w.drew.freeze ⟨g,0,none⟩ t.length):=by
  refine Lib.run_unsafeString_row w.drew 108 3 9 5 Tryz.underlying108 (by kernel_rfl) g cur.size (by have hg':w.drew.heap[g]? = some (.cells cur 5 (0,0)):=hg;simp [World.shape?,hg']) t h0 (by omega) (by unfold maxLen at hcm;omega) ?_
  intro j x hx
  have:=hown.cells (g:=g) rfl j (.int .u8 x.toNat) (by simp [Lib.byteCells,hx])
  exact this
 have mixed:Tryz.prog.follows .mixedOrders = true:=by kernel_rfl
 have hfin:=Lib.hid (plus_of_below (Lib.below_freeze (Below.drew hbase) (p:=⟨g,0,none⟩) hbg t.length))
 clear hown hbk hg hnc hcm hcs htake hbg hbase hw h hl0 h0
 go_enter Tryz.func23,Tryz.ntmps23
 go_wp2
 go_region
 all_goals (go_wp2;go_ret;exact ⟨rfl,hfin.out⟩)
theorem Wr.k1 {w0 v:World} {b m1 m2:Nat} {e1 e2:Array MapEntry} {t:List UInt8} {d:Int} (h:Wr w0 b m1 m2 e1 e2 t d v):MapAt v m1 e1:=by
 rcases h with h | h
 ·exact h.k1
 ·exact h.k1
theorem Wr.k2 {w0 v:World} {b m1 m2:Nat} {e1 e2:Array MapEntry} {t:List UInt8} {d:Int} (h:Wr w0 b m1 m2 e1 e2 t d v):MapAt v m2 e2:=by
 rcases h with h | h
 ·exact h.k2
 ·exact h.k2
theorem sign_field (s:ByteArray) (W:World):(Instr.field 150 (.agg #[.string s]) 0).run Tryz.prog W = .ok (.string s) W:=by
 have u:=run_underlying Tryz.underlying150
 simp [Instr.field,u,go_sem]
 rfl
set_option maxHeartbeats 4000000 in
set_option maxRecDepth 100000 in
theorem wr_key_of (w0:World) (b m1 m2:Nat) (e1:Array MapEntry) (d:Nat) (hd:d ≤ 500) (op lw lh ll:Int) (hd9 nm:ByteArray) (hi lo:Int) (ap:Option Addr) (an ac:Nat) (k:Int) (ka:1 ≤ k) (kb:k ≤ 3) (ET:List UInt8) (hE:Wc w0 b m1 m2 e1 (esK 3) 22 #[.pointer (some ⟨b,0,none⟩),.agg #[.int .u8 op,.int .i64 lw,.int .u64 lh,.int .u64 ll,.string hd9,.string nm,.int .i64 hi,.int .i64 lo,.slice ap an ac]] ET (d:Int) (d:Int)) :
  Wm w0 b m1 m2 e1 (esK 3) 119 (.agg #[.int .u8 op,.int .i64 lw,.int .u64 lh,.int .u64 ll,.string hd9,.string nm,.int .i64 hi,.int .i64 lo,.slice ap an ac,.int .u8 k]) (padB d++(ET++([58,32]++(kwL k++([59,10]))))) (d:Int):=by
 intro t v h hlen
 simp only [List.length_append] at hlen
 obtain ⟨XX,hXX⟩:∃ XX,t++(padB d++(ET++([58,32]++(kwL k++([59,10]))))) = XX:=⟨_,rfl⟩
 rw [hXX]
 replace hXX:=Lib.hid hXX
 have h0:=h.alloc (.cells #[.int .u8 op,.int .i64 lw,.int .u64 lh,.int .u64 ll,.string hd9,.string nm,.int .i64 hi,.int .i64 lo,.slice ap an ac,.int .u8 k] 67)
 have f0':=Lib.hid (Fr.alloc b v (.cells #[.int .u8 op,.int .i64 lw,.int .u64 lh,.int .u64 ll,.string hd9,.string nm,.int .i64 hi,.int .i64 lo,.slice ap an ac,.int .u8 k] 67))
 have hne:v.heap.size ≠ b:=by have:=h.lt;omega
 have hb0:(v.alloc (.cells #[.int .u8 op,.int .i64 lw,.int .u64 lh,.int .u64 ll,.string hd9,.string nm,.int .i64 hi,.int .i64 lo,.slice ap an ac,.int .u8 k] 67)).heap[v.heap.size]? = some (.cells #[.int .u8 op,.int .i64 lw,.int .u64 lh,.int .u64 ll,.string hd9,.string nm,.int .i64 hi,.int .i64 lo,.slice ap an ac,.int .u8 k] 67):=alloc_new v _
 have q1:=Lib.hid ((@beginnil_at w0 b m1 m2 e1 (esK 3) d (by omega)) t _ h0 (by omega))
 have q2:=Lib.hid (fun u (hu:Wr w0 b m1 m2 e1 (esK 3) (t++padB d) (d:Int) u)=>hE _ u hu (by simp only [List.length_append];omega))
 have hP:=Lib.hid (fun u (hu:Wr w0 b m1 m2 e1 (esK 3) (t++padB d++ET) (d:Int) u)=>@put_at w0 b m1 m2 e1 (esK 3) (d:Int) [⟨#[58,32]⟩,(⟨(kwL k).toArray⟩:ByteArray),⟨#[59,10]⟩] ([58,32]++(kwL k++([59,10]))) (by simp) (by simp [catB]) _ u hu (by simp only [List.length_append];omega))
 have hne':=Lib.hid hne
 have hb0':=Lib.hid hb0
 have hlk:=Lib.hid (fun U (hU:MapAt U m2 (esK 3))=>look_k U m2 hU k ka kb)
 clear h hlen hne hb0 hE h0 hd ka kb
 go_enter Tryz.func119,Tryz.ntmps119
 go_wp2_with fail
 refine q1.out.mono ?_
 rintro e u1 ⟨rfl,h1,f1⟩
 have hb1:=f1.box hb0'.out hne'.out (show ¬ (67:TypeId) = 5 by decide)
 have y0:u1.cell? ⟨v.heap.size,0,none⟩ = some (.int .u8 op):=ch hb1
 have y1:u1.cell? ⟨v.heap.size,1,none⟩ = some (.int .i64 lw):=ch hb1
 have y2:u1.cell? ⟨v.heap.size,2,none⟩ = some (.int .u64 lh):=ch hb1
 have y3:u1.cell? ⟨v.heap.size,3,none⟩ = some (.int .u64 ll):=ch hb1
 have y4:u1.cell? ⟨v.heap.size,4,none⟩ = some (.string hd9):=ch hb1
 have y5:u1.cell? ⟨v.heap.size,5,none⟩ = some (.string nm):=ch hb1
 have y6:u1.cell? ⟨v.heap.size,6,none⟩ = some (.int .i64 hi):=ch hb1
 have y7:u1.cell? ⟨v.heap.size,7,none⟩ = some (.int .i64 lo):=ch hb1
 have y8:u1.cell? ⟨v.heap.size,8,none⟩ = some (.slice ap an ac):=ch hb1
 have y9:u1.cell? ⟨v.heap.size,9,none⟩ = some (.int .u8 k):=ch hb1
 replace q2:=Lib.hid (q2.out u1 h1)
 have hb1':=Lib.hid hb1
 have f1':=Lib.hid f1
 clear q1 h1 f1 hb1
 go_wp2_with fail
 refine q2.out.mono ?_
 rintro e u2 ⟨rfl,h2,f2⟩
 have hS:∀ U,(∃ t',Wr w0 b m1 m2 e1 (esK 3) t' (d:Int) U) → Fr b u2 U → (U.cell? ⟨v.heap.size,9,none⟩ = some (.int .u8 k) ∧ U.cell? ⟨b,3,none⟩ = some (.map (some m2)) ∧ (Instr.lookup 79 (.map (some m2)) (.int .u8 k) false).run Tryz.prog U = .ok (.agg #[.string ⟨(kwL k).toArray⟩]) U ∧ Fr b u2 U):=fun U ⟨t',hw⟩ hU=>by
  have hb:=(f2.trans hU).box hb1'.out hne'.out (show ¬ (67:TypeId) = 5 by decide)
  exact ⟨by rw [Lib.cell_of_heap hb];rfl,hw.cell3,hlk.out U hw.k2,hU⟩
 have hS':=Lib.hid hS
 have f2':=Lib.hid f2
 have hfz:=h2.fz 0
 have hsf:=fun W=>sign_field ⟨(kwL k).toArray⟩ W
 clear q2 hS f2 y0 y1 y2 y3 y4 y5 y6 y7 y8 y9
 go_upto_region 3 with (fail)
 go_region_held3 (fun U=>U.cell? ⟨v.heap.size,9,none⟩ = some (.int .u8 k) ∧ U.cell? ⟨b,3,none⟩ = some (.map (some m2)) ∧ (Instr.lookup 79 (.map (some m2)) (.int .u8 k) false).run Tryz.prog U = .ok (.agg #[.string ⟨(kwL k).toArray⟩]) U ∧ Fr b u2 U) (exact hS'.out _ (by apply Exists.intro;repeat (first | assumption | apply Wr.alloc | apply Wr.plus | apply Wr.drew)) (by repeat (first | exact Fr.refl _ _ | assumption | refine Fr.trans ?_ (Fr.alloc _ _ _) | refine Fr.trans ?_ (Fr.plus _ _ _) | refine Fr.trans ?_ (Fr.drew _ _) | refine Fr.trans ?_ (by assumption)))) (first | (go_at_call 41;refine (hP.out u2.drew (h2.drew)).mono ?_;rintro e w' ⟨rfl,hw,hf⟩))
 all_goals go_wp2
 all_goals go_end0
 all_goals rename_i hh
 all_goals exact ⟨rfl,by rw [← hXX.out];have:=hw;simp only [List.append_assoc] at this ⊢;exact this,f0'.out.trans (f1'.out.trans (f2'.out.trans hh.2.2.2))⟩
set_option maxHeartbeats 4000000 in
set_option maxRecDepth 100000 in
theorem wr_signed_one (w0:World) (b m1 m2:Nat) (e2:Array MapEntry) (d:Int) (op lw lh ll:Int) (hd9 nm:ByteArray) (hi lo:Int) (ac:Nat) (pa:Addr) (x0 x1 x2 x3:Int) (x4 x5:ByteArray) (x6 x7:Int) (xp:Option Addr) (xn xc:Nat)  (hx:CellsAt w0 pa [.int .u8 x0,.int .i64 x1,.int .u64 x2,.int .u64 x3,.string x4,.string x5,.int .i64 x6,.int .i64 x7,.slice xp xn xc]) (AT:List UInt8) (hA:Wc w0 b m1 m2 (esG 19) e2 42 #[.pointer (some ⟨b,0,none⟩),.agg #[.int .u8 x0,.int .i64 x1,.int .u64 x2,.int .u64 x3,.string x4,.string x5,.int .i64 x6,.int .i64 x7,.slice xp xn xc]] AT d d) (ka:7 ≤ op) (kb:op ≤ 26) (kc:op ≠ 10) :
  Wm w0 b m1 m2 (esG 19) e2 44 (.agg #[.int .u8 op,.int .i64 lw,.int .u64 lh,.int .u64 ll,.string hd9,.string nm,.int .i64 hi,.int .i64 lo,.slice (some pa) 1 ac]) ((sgL op)++AT) d:=by
 intro t v h hlen
 simp only [List.length_append] at hlen
 obtain ⟨XX,hXX⟩:∃ XX,t++((sgL op)++AT) = XX:=⟨_,rfl⟩
 rw [hXX]
 replace hXX:=Lib.hid hXX
 have h0:=h.alloc (.cells #[.int .u8 op,.int .i64 lw,.int .u64 lh,.int .u64 ll,.string hd9,.string nm,.int .i64 hi,.int .i64 lo,.slice (some pa) 1 ac] 29)
 have f0':=Lib.hid (Fr.alloc b v (.cells #[.int .u8 op,.int .i64 lw,.int .u64 lh,.int .u64 ll,.string hd9,.string nm,.int .i64 hi,.int .i64 lo,.slice (some pa) 1 ac] 29))
 have hne:v.heap.size ≠ b:=by have:=h.lt;omega
 have hb0:(v.alloc (.cells #[.int .u8 op,.int .i64 lw,.int .u64 lh,.int .u64 ll,.string hd9,.string nm,.int .i64 hi,.int .i64 lo,.slice (some pa) 1 ac] 29)).heap[v.heap.size]? = some (.cells #[.int .u8 op,.int .i64 lw,.int .u64 lh,.int .u64 ll,.string hd9,.string nm,.int .i64 hi,.int .i64 lo,.slice (some pa) 1 ac] 29):=alloc_new v _
 have hxc:=Lib.hid (fun (u:World) (t':List UInt8) (hu:Wr w0 b m1 m2 (esG 19) e2 t' d u)=>by obtain ⟨z,hz⟩:=hu.over;exact cellsat_at hz hx:∀ (u:World) (t':List UInt8),Wr w0 b m1 m2 (esG 19) e2 t' d u → CellsAt u pa [.int .u8 x0,.int .i64 x1,.int .u64 x2,.int .u64 x3,.string x4,.string x5,.int .i64 x6,.int .i64 x7,.slice xp xn xc])
 have hlk:=Lib.hid (fun U (hU:MapAt U m1 (esG 19))=>look_g U m1 hU op ka kb kc)
 have hne':=Lib.hid hne
 have hb0':=Lib.hid hb0
 have h0':=Lib.hid h0
 have q1:=Lib.hid (fun u (hu:Wr w0 b m1 m2 (esG 19) e2 t d u)=>@put_at w0 b m1 m2 (esG 19) e2 d [(⟨(sgL op).toArray⟩:ByteArray)] (sgL op) (by simp) (by simp [catB]) _ u hu (by omega))
 have q2:=Lib.hid (fun u (hu:Wr w0 b m1 m2 (esG 19) e2 (t++(sgL op)) d u)=>hA _ u hu (by simp only [List.length_append];omega))
 have hS:∀ U,(∃ t',Wr w0 b m1 m2 (esG 19) e2 t' d U) → Fr b (v.alloc (.cells #[.int .u8 op,.int .i64 lw,.int .u64 lh,.int .u64 ll,.string hd9,.string nm,.int .i64 hi,.int .i64 lo,.slice (some pa) 1 ac] 29)) U → (U.cell? ⟨v.heap.size,0,none⟩ = some (.int .u8 op) ∧ U.cell? ⟨b,2,none⟩ = some (.map (some m1)) ∧ (Instr.lookup 79 (.map (some m1)) (.int .u8 op) false).run Tryz.prog U = .ok (.agg #[.string ⟨(sgL op).toArray⟩]) U ∧ Fr b (v.alloc (.cells #[.int .u8 op,.int .i64 lw,.int .u64 lh,.int .u64 ll,.string hd9,.string nm,.int .i64 hi,.int .i64 lo,.slice (some pa) 1 ac] 29)) U):=fun U ⟨t',hw⟩ hU=>by
  have hb:=hU.box hb0 hne (show ¬ (29:TypeId) = 5 by decide)
  exact ⟨by rw [Lib.cell_of_heap hb];rfl,hw.cell2,hlk.out U hw.k1,hU⟩
 have hS':=Lib.hid hS
 clear h hlen hne hb0 hx hA ka kb kc hS
 have hsf:=fun W=>sign_field ⟨(sgL op).toArray⟩ W
 go_enter Tryz.func44,Tryz.ntmps44
 go_upto_region 1 with (fail)
 go_region_held3 (fun U=>U.cell? ⟨v.heap.size,0,none⟩ = some (.int .u8 op) ∧ U.cell? ⟨b,2,none⟩ = some (.map (some m1)) ∧ (Instr.lookup 79 (.map (some m1)) (.int .u8 op) false).run Tryz.prog U = .ok (.agg #[.string ⟨(sgL op).toArray⟩]) U ∧ Fr b (v.alloc (.cells #[.int .u8 op,.int .i64 lw,.int .u64 lh,.int .u64 ll,.string hd9,.string nm,.int .i64 hi,.int .i64 lo,.slice (some pa) 1 ac] 29)) U) (exact hS'.out _ (by apply Exists.intro;repeat (first | assumption | apply Wr.alloc | apply Wr.plus | apply Wr.drew)) (by repeat (first | exact Fr.refl _ _ | assumption | refine Fr.trans ?_ (Fr.alloc _ _ _) | refine Fr.trans ?_ (Fr.plus _ _ _) | refine Fr.trans ?_ (Fr.drew _ _) | refine Fr.trans ?_ (by assumption)))) (fail)
 obtain ⟨V1,hV1⟩:∃ V1,(v.alloc (.cells #[.int .u8 op,.int .i64 lw,.int .u64 lh,.int .u64 ll,.string hd9,.string nm,.int .i64 hi,.int .i64 lo,.slice (some pa) 1 ac] 29)).drew = V1:=⟨_,rfl⟩
 rw [hV1]
 have h1:Wr w0 b m1 m2 (esG 19) e2 t d V1:=by rw [← hV1];exact h0'.out.drew
 have f1':Hid (Fr b v V1):=Lib.hid (by rw [← hV1];exact f0'.out.trans (Fr.drew _ _))
 have hb1:Hid (V1.heap[v.heap.size]? = some (.cells #[.int .u8 op,.int .i64 lw,.int .u64 lh,.int .u64 ll,.string hd9,.string nm,.int .i64 hi,.int .i64 lo,.slice (some pa) 1 ac] 29)):=Lib.hid (by rw [← hV1];exact hb0'.out)
 rename_i hh
 clear hh hS' h0 h0' hb0' f0' hlk hV1
 have y8:V1.cell? ⟨v.heap.size,8,none⟩ = some (.slice (some pa) 1 ac):=ch hb1.out
 replace q1:=Lib.hid (q1.out V1 h1)
 clear h1
 go_wp2_with fail
 refine q1.out.mono ?_
 rintro e u3 ⟨rfl,h3,f3⟩
 have hb3:=Lib.hid (f3.box hb1.out hne'.out (show ¬ (29:TypeId) = 5 by decide))
 clear y8
 have y8:u3.cell? ⟨v.heap.size,8,none⟩ = some (.slice (some pa) 1 ac):=ch hb3.out
 have ce:=hxc.out u3 _ h3
 have e0:u3.cell? pa = some (.int .u8 x0):=ce.c0 _ rfl
 have e1:u3.cell? ⟨pa.block,pa.off + 1,none⟩ = some (.int .i64 x1):=ce.cs 0 _ rfl
 have e2:u3.cell? ⟨pa.block,pa.off + 2,none⟩ = some (.int .u64 x2):=ce.cs 1 _ rfl
 have e3:u3.cell? ⟨pa.block,pa.off + 3,none⟩ = some (.int .u64 x3):=ce.cs 2 _ rfl
 have e4:u3.cell? ⟨pa.block,pa.off + 4,none⟩ = some (.string x4):=ce.cs 3 _ rfl
 have e5:u3.cell? ⟨pa.block,pa.off + 5,none⟩ = some (.string x5):=ce.cs 4 _ rfl
 have e6:u3.cell? ⟨pa.block,pa.off + 6,none⟩ = some (.int .i64 x6):=ce.cs 5 _ rfl
 have e7:u3.cell? ⟨pa.block,pa.off + 7,none⟩ = some (.int .i64 x7):=ce.cs 6 _ rfl
 have e8:u3.cell? ⟨pa.block,pa.off + 8,none⟩ = some (.slice xp xn xc):=ce.cs 7 _ rfl
 clear ce
 replace q2:=Lib.hid (q2.out u3 h3)
 have f3':=Lib.hid f3
 clear q1 h3 f3
 go_wp2_with fail
 refine q2.out.mono ?_
 rintro e u4 ⟨rfl,h4,f4⟩
 have h4':=Lib.hid h4
 have f4':=Lib.hid f4
 clear q2 h4 f4
 go_wp2
 go_end0
 exact ⟨rfl,by rw [← hXX.out];have:=h4'.out;simp only [List.append_assoc] at this ⊢;exact this,f1'.out.trans (f3'.out.trans f4'.out)⟩
set_option maxHeartbeats 4000000 in
set_option maxRecDepth 100000 in
theorem wr_signed_two (w0:World) (b m1 m2:Nat) (e2:Array MapEntry) (d:Int) (op lw lh ll:Int) (hd9 nm:ByteArray) (hi lo:Int) (ac:Nat) (pa:Addr) (x0 x1 x2 x3:Int) (x4 x5:ByteArray) (x6 x7:Int) (xp:Option Addr) (xn xc:Nat) (y0 y1 y2 y3:Int) (y4 y5:ByteArray) (y6 y7:Int) (yp:Option Addr) (yn yc:Nat) (hx:CellsAt w0 pa [.int .u8 x0,.int .i64 x1,.int .u64 x2,.int .u64 x3,.string x4,.string x5,.int .i64 x6,.int .i64 x7,.slice xp xn xc]) (AT:List UInt8) (hA:Wc w0 b m1 m2 (esG 19) e2 42 #[.pointer (some ⟨b,0,none⟩),.agg #[.int .u8 x0,.int .i64 x1,.int .u64 x2,.int .u64 x3,.string x4,.string x5,.int .i64 x6,.int .i64 x7,.slice xp xn xc]] AT d d) (hy:CellsAt w0 (pa.add 9) [.int .u8 y0,.int .i64 y1,.int .u64 y2,.int .u64 y3,.string y4,.string y5,.int .i64 y6,.int .i64 y7,.slice yp yn yc]) (BT:List UInt8) (hB:Wc w0 b m1 m2 (esG 19) e2 42 #[.pointer (some ⟨b,0,none⟩),.agg #[.int .u8 y0,.int .i64 y1,.int .u64 y2,.int .u64 y3,.string y4,.string y5,.int .i64 y6,.int .i64 y7,.slice yp yn yc]] BT d d) (ka:7 ≤ op) (kb:op ≤ 26) (kc:op ≠ 10) :
  Wm w0 b m1 m2 (esG 19) e2 44 (.agg #[.int .u8 op,.int .i64 lw,.int .u64 lh,.int .u64 ll,.string hd9,.string nm,.int .i64 hi,.int .i64 lo,.slice (some pa) 2 ac]) (AT++(([32]++(sgL op++([32])))++BT)) d:=by
 intro t v h hlen
 simp only [List.length_append] at hlen
 obtain ⟨XX,hXX⟩:∃ XX,t++(AT++(([32]++(sgL op++([32])))++BT)) = XX:=⟨_,rfl⟩
 rw [hXX]
 replace hXX:=Lib.hid hXX
 have h0:=h.alloc (.cells #[.int .u8 op,.int .i64 lw,.int .u64 lh,.int .u64 ll,.string hd9,.string nm,.int .i64 hi,.int .i64 lo,.slice (some pa) 2 ac] 29)
 have f0':=Lib.hid (Fr.alloc b v (.cells #[.int .u8 op,.int .i64 lw,.int .u64 lh,.int .u64 ll,.string hd9,.string nm,.int .i64 hi,.int .i64 lo,.slice (some pa) 2 ac] 29))
 have hne:v.heap.size ≠ b:=by have:=h.lt;omega
 have hb0:(v.alloc (.cells #[.int .u8 op,.int .i64 lw,.int .u64 lh,.int .u64 ll,.string hd9,.string nm,.int .i64 hi,.int .i64 lo,.slice (some pa) 2 ac] 29)).heap[v.heap.size]? = some (.cells #[.int .u8 op,.int .i64 lw,.int .u64 lh,.int .u64 ll,.string hd9,.string nm,.int .i64 hi,.int .i64 lo,.slice (some pa) 2 ac] 29):=alloc_new v _
 have hxc:=Lib.hid (fun (u:World) (t':List UInt8) (hu:Wr w0 b m1 m2 (esG 19) e2 t' d u)=>by obtain ⟨z,hz⟩:=hu.over;exact cellsat_at hz hx:∀ (u:World) (t':List UInt8),Wr w0 b m1 m2 (esG 19) e2 t' d u → CellsAt u pa [.int .u8 x0,.int .i64 x1,.int .u64 x2,.int .u64 x3,.string x4,.string x5,.int .i64 x6,.int .i64 x7,.slice xp xn xc])
 have hyc:=Lib.hid (fun (u:World) (t':List UInt8) (hu:Wr w0 b m1 m2 (esG 19) e2 t' d u)=>by obtain ⟨z,hz⟩:=hu.over;exact cellsat_at hz hy:∀ (u:World) (t':List UInt8),Wr w0 b m1 m2 (esG 19) e2 t' d u → CellsAt u (pa.add 9) [.int .u8 y0,.int .i64 y1,.int .u64 y2,.int .u64 y3,.string y4,.string y5,.int .i64 y6,.int .i64 y7,.slice yp yn yc])
 have hlk:=Lib.hid (fun U (hU:MapAt U m1 (esG 19))=>look_g U m1 hU op ka kb kc)
 have hne':=Lib.hid hne
 have hb0':=Lib.hid hb0
 have h0':=Lib.hid h0
 have q1:=Lib.hid (fun u (hu:Wr w0 b m1 m2 (esG 19) e2 t d u)=>hA t u hu (by omega))
 have q2:=Lib.hid (fun u (hu:Wr w0 b m1 m2 (esG 19) e2 (t++AT) d u)=>@put_at w0 b m1 m2 (esG 19) e2 d [⟨#[32]⟩,(⟨(sgL op).toArray⟩:ByteArray),⟨#[32]⟩] ([32]++(sgL op++([32]))) (by simp) (by simp [catB]) _ u hu (by simp only [List.length_append];omega))
 have q3:=Lib.hid (fun u (hu:Wr w0 b m1 m2 (esG 19) e2 (t++AT++([32]++(sgL op++([32])))) d u)=>hB _ u hu (by simp only [List.length_append];omega))
 have hS:∀ U,(∃ t',Wr w0 b m1 m2 (esG 19) e2 t' d U) → Fr b (v.alloc (.cells #[.int .u8 op,.int .i64 lw,.int .u64 lh,.int .u64 ll,.string hd9,.string nm,.int .i64 hi,.int .i64 lo,.slice (some pa) 2 ac] 29)) U → (U.cell? ⟨v.heap.size,0,none⟩ = some (.int .u8 op) ∧ U.cell? ⟨b,2,none⟩ = some (.map (some m1)) ∧ (Instr.lookup 79 (.map (some m1)) (.int .u8 op) false).run Tryz.prog U = .ok (.agg #[.string ⟨(sgL op).toArray⟩]) U ∧ Fr b (v.alloc (.cells #[.int .u8 op,.int .i64 lw,.int .u64 lh,.int .u64 ll,.string hd9,.string nm,.int .i64 hi,.int .i64 lo,.slice (some pa) 2 ac] 29)) U):=fun U ⟨t',hw⟩ hU=>by
  have hb:=hU.box hb0 hne (show ¬ (29:TypeId) = 5 by decide)
  exact ⟨by rw [Lib.cell_of_heap hb];rfl,hw.cell2,hlk.out U hw.k1,hU⟩
 have hS':=Lib.hid hS
 clear h hlen hne hb0 hx hA ka kb kc hS hy hB
 have hsf:=fun W=>sign_field ⟨(sgL op).toArray⟩ W
 go_enter Tryz.func44,Tryz.ntmps44
 go_upto_region 1 with (fail)
 go_region_held3 (fun U=>U.cell? ⟨v.heap.size,0,none⟩ = some (.int .u8 op) ∧ U.cell? ⟨b,2,none⟩ = some (.map (some m1)) ∧ (Instr.lookup 79 (.map (some m1)) (.int .u8 op) false).run Tryz.prog U = .ok (.agg #[.string ⟨(sgL op).toArray⟩]) U ∧ Fr b (v.alloc (.cells #[.int .u8 op,.int .i64 lw,.int .u64 lh,.int .u64 ll,.string hd9,.string nm,.int .i64 hi,.int .i64 lo,.slice (some pa) 2 ac] 29)) U) (exact hS'.out _ (by apply Exists.intro;repeat (first | assumption | apply Wr.alloc | apply Wr.plus | apply Wr.drew)) (by repeat (first | exact Fr.refl _ _ | assumption | refine Fr.trans ?_ (Fr.alloc _ _ _) | refine Fr.trans ?_ (Fr.plus _ _ _) | refine Fr.trans ?_ (Fr.drew _ _) | refine Fr.trans ?_ (by assumption)))) (fail)
 obtain ⟨V1,hV1⟩:∃ V1,(v.alloc (.cells #[.int .u8 op,.int .i64 lw,.int .u64 lh,.int .u64 ll,.string hd9,.string nm,.int .i64 hi,.int .i64 lo,.slice (some pa) 2 ac] 29)).drew = V1:=⟨_,rfl⟩
 rw [hV1]
 have h1:Wr w0 b m1 m2 (esG 19) e2 t d V1:=by rw [← hV1];exact h0'.out.drew
 have f1':Hid (Fr b v V1):=Lib.hid (by rw [← hV1];exact f0'.out.trans (Fr.drew _ _))
 have hb1:Hid (V1.heap[v.heap.size]? = some (.cells #[.int .u8 op,.int .i64 lw,.int .u64 lh,.int .u64 ll,.string hd9,.string nm,.int .i64 hi,.int .i64 lo,.slice (some pa) 2 ac] 29)):=Lib.hid (by rw [← hV1];exact hb0'.out)
 rename_i hh
 clear hh hS' h0 h0' hb0' f0' hlk hV1
 have y8:V1.cell? ⟨v.heap.size,8,none⟩ = some (.slice (some pa) 2 ac):=ch hb1.out
 have cd:=hxc.out V1 _ h1
 have d0:V1.cell? pa = some (.int .u8 x0):=cd.c0 _ rfl
 have d1:V1.cell? ⟨pa.block,pa.off + 1,none⟩ = some (.int .i64 x1):=cd.cs 0 _ rfl
 have d2:V1.cell? ⟨pa.block,pa.off + 2,none⟩ = some (.int .u64 x2):=cd.cs 1 _ rfl
 have d3:V1.cell? ⟨pa.block,pa.off + 3,none⟩ = some (.int .u64 x3):=cd.cs 2 _ rfl
 have d4:V1.cell? ⟨pa.block,pa.off + 4,none⟩ = some (.string x4):=cd.cs 3 _ rfl
 have d5:V1.cell? ⟨pa.block,pa.off + 5,none⟩ = some (.string x5):=cd.cs 4 _ rfl
 have d6:V1.cell? ⟨pa.block,pa.off + 6,none⟩ = some (.int .i64 x6):=cd.cs 5 _ rfl
 have d7:V1.cell? ⟨pa.block,pa.off + 7,none⟩ = some (.int .i64 x7):=cd.cs 6 _ rfl
 have d8:V1.cell? ⟨pa.block,pa.off + 8,none⟩ = some (.slice xp xn xc):=cd.cs 7 _ rfl
 clear cd
 replace q1:=Lib.hid (q1.out V1 h1)
 clear h1
 go_wp2_with fail
 refine q1.out.mono ?_
 rintro e u2 ⟨rfl,h2,f2⟩
 have hb2:=Lib.hid (f2.box hb1.out hne'.out (show ¬ (29:TypeId) = 5 by decide))
 replace q2:=Lib.hid (q2.out u2 h2)
 have f2':=Lib.hid f2
 clear q1 h2 f2 y8 d0 d1 d2 d3 d4 d5 d6 d7 d8
 go_wp2_with fail
 refine q2.out.mono ?_
 rintro e u3 ⟨rfl,h3,f3⟩
 have hb3:=Lib.hid (f3.box hb2.out hne'.out (show ¬ (29:TypeId) = 5 by decide))
 have y8:u3.cell? ⟨v.heap.size,8,none⟩ = some (.slice (some pa) 2 ac):=ch hb3.out
 have ce:=hyc.out u3 _ h3
 have e0:u3.cell? ⟨pa.block,pa.off + 9,none⟩ = some (.int .u8 y0):=ce.c0 _ rfl
 have e1:u3.cell? ⟨pa.block,pa.off + 9 + 1,none⟩ = some (.int .i64 y1):=ce.cs 0 _ rfl
 have e2:u3.cell? ⟨pa.block,pa.off + 9 + 2,none⟩ = some (.int .u64 y2):=ce.cs 1 _ rfl
 have e3:u3.cell? ⟨pa.block,pa.off + 9 + 3,none⟩ = some (.int .u64 y3):=ce.cs 2 _ rfl
 have e4:u3.cell? ⟨pa.block,pa.off + 9 + 4,none⟩ = some (.string y4):=ce.cs 3 _ rfl
 have e5:u3.cell? ⟨pa.block,pa.off + 9 + 5,none⟩ = some (.string y5):=ce.cs 4 _ rfl
 have e6:u3.cell? ⟨pa.block,pa.off + 9 + 6,none⟩ = some (.int .i64 y6):=ce.cs 5 _ rfl
 have e7:u3.cell? ⟨pa.block,pa.off + 9 + 7,none⟩ = some (.int .i64 y7):=ce.cs 6 _ rfl
 have e8:u3.cell? ⟨pa.block,pa.off + 9 + 8,none⟩ = some (.slice yp yn yc):=ce.cs 7 _ rfl
 clear ce
 replace q3:=Lib.hid (q3.out u3 h3)
 have f3':=Lib.hid f3
 clear q2 h3 f3
 go_wp2_with fail
 refine q3.out.mono ?_
 rintro e u4 ⟨rfl,h4,f4⟩
 have h4':=Lib.hid h4
 have f4':=Lib.hid f4
 clear q3 h4 f4
 go_wp2
 go_end0
 exact ⟨rfl,by rw [← hXX.out];have:=h4'.out;simp only [List.append_assoc] at this ⊢;exact this,f1'.out.trans (f2'.out.trans (f3'.out.trans f4'.out))⟩
end Go.Proofs.YtbelaghcmgefaaaGreatDoor
