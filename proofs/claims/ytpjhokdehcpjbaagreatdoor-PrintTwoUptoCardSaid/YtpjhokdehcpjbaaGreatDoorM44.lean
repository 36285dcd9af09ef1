/-
  WHAT IS PROVED HERE: a part of the proof (made narrower and merged by program; the parts: Pk Pm).
-/
import Derived.Test.YtpjhokdehcpjbaaGreatDoorRows
import Derived.Lib.UnsafeStr
import Derived.Lib.Builder
import Derived.WalkKit
import Derived.Lib.Hide
import Derived.WalkSpells
import Derived.WalkLawsBesides
import Derived.Laws.EntriesVeiled
import Derived.Test.YtpjhokdehcpjbaaGreatDoorM40
import Derived.Test.YtpjhokdehcpjbaaGreatDoorM35
import Derived.Test.YtpjhokdehcpjbaaGreatDoorM15
namespace Go.Proofs.YtpjhokdehcpjbaaGreatDoor
open Go.RowKit
theorem look_nu8 {P:Program} {w:World} {mt kt et:TypeId} {r:Nat} {es:Array MapEntry} {z:Value} (hm:P.underlying mt = some (.map kt et)) (hk:P.underlying kt = some (.int .u8)) (hz:(zeroValue et).run P w = .ok z w) (h:MapAt w r es) (hu:u8Keys es.toList) (i:Int) :
  (Instr.lookup mt (.map (some r)) (.int .u8 i) false).run P w = .ok (getIn z i es.toList).1 w:=by
 obtain ⟨n,hb⟩:=h
 obtain ⟨q,h1,h2⟩:=find_get z i es.toList 0 hu
 have hc:(Instr.checkKey es.isEmpty 10000 kt (.int .u8 i)).run P w = .ok () w:=MapKept.run_checkKey (k:=.int .u8 i) hk (by simp [MapKept.IsKey]) _ 9999
 rcases h2 with ⟨a,v,rfl,hg⟩ | ⟨rfl,hg⟩
 ·simp [Instr.lookup,run_underlying hm,MapKept.run_getObj_map hb,hc,MapKept.run_findKey hk h1,Result.andThen,hg]
 ·simp [Instr.lookup,run_underlying hm,MapKept.run_getObj_map hb,hc,MapKept.run_findKey hk h1,Result.andThen,hg,hz]
/-- The signs' map, and the words' one. -/
def gK (i:Nat):Int:=if i < 3 then (i:Int) + 7 else (i:Int) + 8
def gV (k:Int):Value:=.agg #[.string ⟨(sgL k).toArray⟩]
def kV (k:Int):Value:=.agg #[.string ⟨(kwL k).toArray⟩]
def esG (n:Nat):Array MapEntry:=((List.range n).map fun (i:Nat)=>(⟨.int .u8 (gK i),gV (gK i),i⟩:MapEntry)).toArray
def esK (n:Nat):Array MapEntry:=((List.range n).map fun (i:Nat)=>(⟨.int .u8 ((i:Int) + 1),kV ((i:Int) + 1),i⟩:MapEntry)).toArray
def wG (V:World) (n:Nat):World:=V.alloc (.map (esG n) n)
def wK (V:World) (n:Nat):World:=V.alloc (.map (esK n) n)
theorem upd_G (V:World) (n:Nat) (hn:Instr.findNow (.int .u8) (.int .u8 (gK n)) (esG n).toList 0 = some none) :
  (Instr.mapUpdate 98 (.map (some V.heap.size)) (.int .u8 (gK n)) (gV (gK n))).run Tryz.prog (wG V n) = .ok () (wG V (n + 1)):=by
 unfold wG
 rw [upd_u8 Tryz.underlying98 Tryz.underlying5 V _ n _ _ hn]
 simp [esG,List.range_succ]
theorem upd_K (V:World) (n:Nat) (hn:Instr.findNow (.int .u8) (.int .u8 ((n:Int) + 1)) (esK n).toList 0 = some none) :
  (Instr.mapUpdate 98 (.map (some V.heap.size)) (.int .u8 ((n:Int) + 1)) (kV ((n:Int) + 1))).run Tryz.prog (wK V n) = .ok () (wK V (n + 1)):=by
 unfold wK
 rw [upd_u8 Tryz.underlying98 Tryz.underlying5 V _ n _ _ hn]
 simp [esK,List.range_succ]
theorem keys_G (n:Nat):u8Keys (esG n).toList:=by
 intro e he
 simp only [esG,List.mem_map] at he
 obtain ⟨j,_,rfl⟩:=he
 exact ⟨_,rfl⟩
theorem zero_sign (w:World):(zeroValue 239).run Tryz.prog w = .ok (.agg #[.string ⟨#[]⟩]) w:=by kernel_rfl
theorem getG (z:Value):∀ i:Fin 19,getIn z (gK i) (esG 19).toList = (gV (gK i),true):=by
 intro i
 match i with
 | ⟨0,_⟩=>exact rfl
 | ⟨1,_⟩=>exact rfl
 | ⟨2,_⟩=>exact rfl
 | ⟨3,_⟩=>exact rfl
 | ⟨4,_⟩=>exact rfl
 | ⟨5,_⟩=>exact rfl
 | ⟨6,_⟩=>exact rfl
 | ⟨7,_⟩=>exact rfl
 | ⟨8,_⟩=>exact rfl
 | ⟨9,_⟩=>exact rfl
 | ⟨10,_⟩=>exact rfl
 | ⟨11,_⟩=>exact rfl
 | ⟨12,_⟩=>exact rfl
 | ⟨13,_⟩=>exact rfl
 | ⟨14,_⟩=>exact rfl
 | ⟨15,_⟩=>exact rfl
 | ⟨16,_⟩=>exact rfl
 | ⟨17,_⟩=>exact rfl
 | ⟨18,_⟩=>exact rfl
 | ⟨n + 19,h⟩=>exact absurd h (by omega)
theorem look_g (w:World) (m:Nat) (h:MapAt w m (esG 19)) (op:Int) (h1:7 ≤ op) (h2:op ≤ 26) (h3:op ≠ 10):(Instr.lookup 98 (.map (some m)) (.int .u8 op) false).run Tryz.prog w = .ok (.agg #[.string ⟨(sgL op).toArray⟩]) w:=by
 rw [look_nu8 Tryz.underlying98 Tryz.underlying5 (zero_sign w) h (keys_G 19) op]
 obtain ⟨i,hi⟩:∃ i:Fin 19,gK i = op:=by
  by_cases h4:op < 10
  ·exact ⟨⟨(op - 7).toNat,by omega⟩,by show (if (op - 7).toNat < 3 then (((op - 7).toNat:Nat):Int) + 7 else _) = op;rw [if_pos (by omega)];omega⟩
  ·exact ⟨⟨(op - 8).toNat,by omega⟩,by show (if (op - 8).toNat < 3 then _ else (((op - 8).toNat:Nat):Int) + 8) = op;rw [if_neg (by omega)];omega⟩
 have hg:=getG (.agg #[.string ⟨#[]⟩]) i
 rw [hi] at hg
 rw [hg]
 rfl
theorem look_k (w:World) (m:Nat) (h:MapAt w m (esK 3)) (k:Int) (h1:1 ≤ k) (h2:k ≤ 3):(Instr.lookup 98 (.map (some m)) (.int .u8 k) false).run Tryz.prog w = .ok (.agg #[.string ⟨(kwL k).toArray⟩]) w:=by
 rw [look_nu8 Tryz.underlying98 Tryz.underlying5 (zero_sign w) h (keys_range kV 3) k]
 unfold esK
 rw [getIn_upto,if_pos ⟨h1,by omega⟩]
 rfl
set_option maxRecDepth 100000 in
set_option maxHeartbeats 8000000 in
theorem print_signs (V:World):Calls Tryz.prog 101 #[] V fun e w'=>∃ m1 m2,e = .returned (.agg #[.map (some m1),.map (some m2)]) ∧ (∃ x,w' = plus V x) ∧ MapAt w' m1 (esG 19) ∧ MapAt w' m2 (esK 3):=by
 obtain ⟨V0,hV0⟩:∃ V0,V.alloc (.cells #[.map none,.map none] 100) = V0:=⟨_,rfl⟩
 obtain ⟨V1,hV1⟩:∃ V1,wG V0 19 = V1:=⟨_,rfl⟩
 have hlt:V0.heap.size = V.heap.size + 1:=by rw [← hV0];simp
 have hlt1:V1.heap.size = V.heap.size + 2:=by rw [← hV1];unfold wG;simp [hlt]
 have u0:(Instr.makeMap 98 none).run Tryz.prog V0 = .ok (.map (some V0.heap.size)) (wG V0 0):=rfl
 have v0:(Instr.mapUpdate 98 (.map (some V0.heap.size)) (.int .u8 7) (.agg #[.string ⟨#[126]⟩])).run Tryz.prog (wG V0 0) = .ok () (wG V0 1):=upd_G V0 0 rfl
 have v1:(Instr.mapUpdate 98 (.map (some V0.heap.size)) (.int .u8 8) (.agg #[.string ⟨#[45]⟩])).run Tryz.prog (wG V0 1) = .ok () (wG V0 2):=upd_G V0 1 rfl
 have v2:(Instr.mapUpdate 98 (.map (some V0.heap.size)) (.int .u8 9) (.agg #[.string ⟨#[33]⟩])).run Tryz.prog (wG V0 2) = .ok () (wG V0 3):=upd_G V0 2 rfl
 have v3:(Instr.mapUpdate 98 (.map (some V0.heap.size)) (.int .u8 11) (.agg #[.string ⟨#[43,43]⟩])).run Tryz.prog (wG V0 3) = .ok () (wG V0 4):=upd_G V0 3 rfl
 have v4:(Instr.mapUpdate 98 (.map (some V0.heap.size)) (.int .u8 12) (.agg #[.string ⟨#[43]⟩])).run Tryz.prog (wG V0 4) = .ok () (wG V0 5):=upd_G V0 4 rfl
 have v5:(Instr.mapUpdate 98 (.map (some V0.heap.size)) (.int .u8 13) (.agg #[.string ⟨#[45]⟩])).run Tryz.prog (wG V0 5) = .ok () (wG V0 6):=upd_G V0 5 rfl
 have v6:(Instr.mapUpdate 98 (.map (some V0.heap.size)) (.int .u8 14) (.agg #[.string ⟨#[60,60]⟩])).run Tryz.prog (wG V0 6) = .ok () (wG V0 7):=upd_G V0 6 rfl
 have v7:(Instr.mapUpdate 98 (.map (some V0.heap.size)) (.int .u8 15) (.agg #[.string ⟨#[62,62]⟩])).run Tryz.prog (wG V0 7) = .ok () (wG V0 8):=upd_G V0 7 rfl
 have v8:(Instr.mapUpdate 98 (.map (some V0.heap.size)) (.int .u8 16) (.agg #[.string ⟨#[38]⟩])).run Tryz.prog (wG V0 8) = .ok () (wG V0 9):=upd_G V0 8 rfl
 have v9:(Instr.mapUpdate 98 (.map (some V0.heap.size)) (.int .u8 17) (.agg #[.string ⟨#[94]⟩])).run Tryz.prog (wG V0 9) = .ok () (wG V0 10):=upd_G V0 9 rfl
 have v10:(Instr.mapUpdate 98 (.map (some V0.heap.size)) (.int .u8 18) (.agg #[.string ⟨#[124]⟩])).run Tryz.prog (wG V0 10) = .ok () (wG V0 11):=upd_G V0 10 rfl
 have v11:(Instr.mapUpdate 98 (.map (some V0.heap.size)) (.int .u8 19) (.agg #[.string ⟨#[61,61]⟩])).run Tryz.prog (wG V0 11) = .ok () (wG V0 12):=upd_G V0 11 rfl
 have v12:(Instr.mapUpdate 98 (.map (some V0.heap.size)) (.int .u8 20) (.agg #[.string ⟨#[33,61]⟩])).run Tryz.prog (wG V0 12) = .ok () (wG V0 13):=upd_G V0 12 rfl
 have v13:(Instr.mapUpdate 98 (.map (some V0.heap.size)) (.int .u8 21) (.agg #[.string ⟨#[60]⟩])).run Tryz.prog (wG V0 13) = .ok () (wG V0 14):=upd_G V0 13 rfl
 have v14:(Instr.mapUpdate 98 (.map (some V0.heap.size)) (.int .u8 22) (.agg #[.string ⟨#[60,61]⟩])).run Tryz.prog (wG V0 14) = .ok () (wG V0 15):=upd_G V0 14 rfl
 have v15:(Instr.mapUpdate 98 (.map (some V0.heap.size)) (.int .u8 23) (.agg #[.string ⟨#[62]⟩])).run Tryz.prog (wG V0 15) = .ok () (wG V0 16):=upd_G V0 15 rfl
 have v16:(Instr.mapUpdate 98 (.map (some V0.heap.size)) (.int .u8 24) (.agg #[.string ⟨#[62,61]⟩])).run Tryz.prog (wG V0 16) = .ok () (wG V0 17):=upd_G V0 16 rfl
 have v17:(Instr.mapUpdate 98 (.map (some V0.heap.size)) (.int .u8 25) (.agg #[.string ⟨#[38,38]⟩])).run Tryz.prog (wG V0 17) = .ok () (wG V0 18):=upd_G V0 17 rfl
 have v18:(Instr.mapUpdate 98 (.map (some V0.heap.size)) (.int .u8 26) (.agg #[.string ⟨#[124,124]⟩])).run Tryz.prog (wG V0 18) = .ok () (V1):=by rw [← hV1];exact upd_G V0 18 rfl
 have t0:(Instr.makeMap 98 none).run Tryz.prog V1 = .ok (.map (some V1.heap.size)) (wK V1 0):=rfl
 have s0:(Instr.mapUpdate 98 (.map (some V1.heap.size)) (.int .u8 1) (.agg #[.string ⟨#[101,120,97,99,116]⟩])).run Tryz.prog (wK V1 0) = .ok () (wK V1 1):=upd_K V1 0 rfl
 have s1:(Instr.mapUpdate 98 (.map (some V1.heap.size)) (.int .u8 2) (.agg #[.string ⟨#[108,112,109]⟩])).run Tryz.prog (wK V1 1) = .ok () (wK V1 2):=upd_K V1 1 rfl
 have s2:(Instr.mapUpdate 98 (.map (some V1.heap.size)) (.int .u8 3) (.agg #[.string ⟨#[116,101,114,110,97,114,121]⟩])).run Tryz.prog (wK V1 2) = .ok () (wK V1 3):=upd_K V1 2 rfl
 have c0:(wK V1 3).heap[V.heap.size]? = some (.cells #[.map none,.map none] 100):=by
  rw [← hV1,← hV0]
  show ((((V.heap.push _).push _).push _))[V.heap.size]? = _
  rw [Array.getElem?_push,if_neg (by simp;omega),Array.getElem?_push,if_neg (by simp)]
  simp
 have c1:(wK V1 3).cell? ⟨V.heap.size,0,none⟩ = some (.map none):=ch c0
 have c2:(wK V1 3).cell? ⟨V.heap.size,1,none⟩ = some (.map none):=ch c0
 have z0:=Lib.frozen_of_heap c0
 clear c0
 have hB:∃ x,((wK V1 3).setCell ⟨V.heap.size,0,none⟩ (.map (some V0.heap.size))).setCell ⟨V.heap.size,1,none⟩ (.map (some V1.heap.size)) = plus V x:=by
  have b0:Below V.heap.size V V0:=by rw [← hV0];exact (Below.refl _ _).alloc (Nat.le_refl _) _
  have b1:Below V.heap.size V V1:=by rw [← hV1];exact b0.alloc (by omega) _
  exact plus_of_below (((b1.alloc (by omega) _).setCell (p:=⟨V.heap.size,0,none⟩) (Nat.le_refl _) _).setCell (p:=⟨V.heap.size,1,none⟩) (Nat.le_refl _) _)
 have hm1:MapAt (((wK V1 3).setCell ⟨V.heap.size,0,none⟩ (.map (some V0.heap.size))).setCell ⟨V.heap.size,1,none⟩ (.map (some V1.heap.size))) V0.heap.size (esG 19):=by
  refine ((MapAt.alloc ?_ _).set _ _ _ (by omega)).set _ _ _ (by omega)
  exact ⟨19,by rw [← hV1];show (V0.heap.push _)[V0.heap.size]? = _;simp⟩
 have hm2:MapAt (((wK V1 3).setCell ⟨V.heap.size,0,none⟩ (.map (some V0.heap.size))).setCell ⟨V.heap.size,1,none⟩ (.map (some V1.heap.size))) V1.heap.size (esK 3):=by
  refine (MapAt.set ?_ _ _ _ (by omega)).set _ _ _ (by omega)
  exact ⟨3,by show (V1.heap.push _)[V1.heap.size]? = _;simp⟩
 have hB':=Lib.hid hB
 have hm1':=Lib.hid hm1
 have hm2':=Lib.hid hm2
 clear hB hm1 hm2 hlt hlt1 hV1
 go_enter Tryz.func101,Tryz.ntmps101
 go_wp2
 exact bodyPost_ret (v:=.agg #[.map (some V0.heap.size),.map (some V1.heap.size)]) (by simp [results,Tryz.results101,go_sem,c1,c2]) rfl ⟨_,_,rfl,hB'.out,hm1'.out,hm2'.out⟩
/-- A fresh writer's block. -/
theorem fresh_writer (w0 v:World) (m1 m2:Nat) (e1 e2:Array MapEntry) (hB:∃ z,v = plus w0 z) (h1:MapAt v m1 e1) (h2:MapAt v m2 e2) :
  Wr w0 v.heap.size m1 m2 e1 e2 [] ((0:Nat):Int) (v.alloc (.cells #[.pointer none,.slice none 0 0,.map (some m1),.map (some m2),.int .i64 0] 102)):=by
 obtain ⟨z,rfl⟩:=hB
 refine .inl ⟨((below_plus w0 z).alloc (below_plus w0 z).size _),(below_plus w0 z).size,⟨.slice none 0 0,alloc_new _ _,?_⟩,h1.alloc _,h2.alloc _⟩
 exact ⟨rfl,.inl ⟨rfl,rfl⟩⟩
set_option maxRecDepth 100000 in
set_option maxHeartbeats 2000000 in
theorem wr_new (w0 v:World) (hB:∃ z,v = plus w0 z):Calls Tryz.prog 37 #[] v fun e w'=>∃ b m1 m2,e = .returned (.pointer (some ⟨b,0,none⟩)) ∧ Wr w0 b m1 m2 (esG 19) (esK 3) [] ((0:Nat):Int) w':=by
 have hB':=Lib.hid hB
 clear hB
 go_enter Tryz.func37,Tryz.ntmps37
 go_wp2_with fail
 refine (print_signs _).mono ?_
 rintro e w' ⟨m1,m2,rfl,⟨x,hx⟩,h1,h2⟩
 have hw:=Lib.hid (fresh_writer w0 w' m1 m2 (esG 19) (esK 3) (by
  obtain ⟨z,hz⟩:=hB'.out
  exact ⟨_,by rw [hx,hz,plus_plus]⟩) h1 h2)
 clear h1 h2 hx
 go_wp2
 go_ret
 exact ⟨_,_,_,rfl,hw.out⟩
set_option maxRecDepth 100000 in
set_option maxHeartbeats 2000000 in
theorem wr_string (w0:World) (b m1 m2:Nat) (e1 e2:Array MapEntry) (t:List UInt8) (d:Int) (w:World) (h:Wr w0 b m1 m2 e1 e2 t d w) (h0:t ≠ []) :
  Calls Tryz.prog 39 #[.pointer (some ⟨b,0,none⟩)] w fun e w'=>e = .returned (.string ⟨t.toArray⟩) ∧ ∃ x,w' = plus w0 x:=by
 obtain ⟨p,hw⟩:∃ p,WrP w0 b m1 m2 e1 e2 p t d w:=by
  rcases h with h | h
  ·exact ⟨_,h⟩
  ·exact ⟨_,h⟩
 have hbase:=hw.base
 obtain ⟨sl,hbk,hown⟩:=hw.one
 have hl0:t.length ≠ 0:=by simpa using h0
 obtain ⟨g,cap,cur,rfl,hbg,hg,hnc,hcm,hcs,htake⟩:∃ g cap cur,sl = .slice (some ⟨g,0,none⟩) t.length cap ∧ w0.heap.size ≤ g ∧ w.heap[g]? = some (.cells cur 5 (0,0)) ∧ t.length ≤ cap ∧ cap ≤ maxLen ∧ cur.size = cap * 1 ∧ cur.toList.take (t.length * 1) = Lib.byteCells t:=by
  rcases hown.2 with ⟨_,hz⟩ | ⟨g,cap,cur,hv,r⟩
  ·exact absurd hz hl0
  ·exact ⟨g,cap,cur,hv,r⟩
 have c1:w.drew.cell? ⟨b,1,none⟩ = some (.slice (some ⟨g,0,none⟩) t.length cap):=by
  have:w.drew.heap[b]? = some (.cells #[p,.slice (some ⟨g,0,none⟩) t.length cap,.map (some m1),.map (some m2),.int .i64 d] 102 (0,0)):=hbk
  rw [Lib.cell_of_heap this];rfl
 have hSD:(Builtin.unsafeSliceData_ #[95] 171 #[.slice (some ⟨g,0,none⟩) t.length cap]).run Tryz.prog w.drew = .ok (.pointer (some ⟨g,0,none⟩)) w.drew :=
  Lib.run_unsafeSliceData_row _ _ _ _ _ _ (by omega)
 have hUS:(Builtin.unsafeString_ #[171,3] 9 #[.pointer (some ⟨g,0,none⟩),.int .i64 t.length]).run Tryz.prog w.drew = .ok (.string ⟨t.toArray⟩) (w.drew.freeze ⟨g,0,none⟩ t.length):=by
  refine Lib.run_unsafeString_row w.drew 171 3 9 5 Tryz.underlying171 (by kernel_rfl) g cur.size (by have hg':w.drew.heap[g]? = some (.cells cur 5 (0,0)):=hg;simp [World.shape?,hg']) t h0 (by omega) (by unfold maxLen at hcm;omega) ?_
  intro j x hx
  have:=hown.cells (g:=g) rfl j (.int .u8 x.toNat) (by simp [Lib.byteCells,hx])
  exact this
 have mixed:Tryz.prog.follows .mixedOrders = true:=by kernel_rfl
 have hfin:=Lib.hid (plus_of_below (Lib.below_freeze (Below.drew hbase) (p:=⟨g,0,none⟩) hbg t.length))
 clear hown hbk hg hnc hcm hcs htake hbg hbase hw h hl0 h0
 go_enter Tryz.func39,Tryz.ntmps39
 go_wp2
 go_region
 all_goals (go_wp2;go_ret;exact ⟨rfl,hfin.out⟩)
end Go.Proofs.YtpjhokdehcpjbaaGreatDoor
