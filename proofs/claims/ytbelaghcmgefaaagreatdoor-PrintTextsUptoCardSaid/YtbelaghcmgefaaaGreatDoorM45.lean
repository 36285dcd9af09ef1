/-
  WHAT IS PROVED HERE: a part of the proof (made narrower and merged by program; the parts: Ya Yb Yt).
-/
import Derived.Test.YtbelaghcmgefaaaGreatDoorRows
import Derived.Deep.AppendLies
import Derived.Laws.OwnMore
import Derived.WalkKit
import Derived.Lib.Hide
import Derived.WalkSpells
import Derived.WalkLawsBesides
import Derived.Laws.EntriesVeiled
import Derived.Shelf.Abstract
import Derived.Test.YtbelaghcmgefaaaGreatDoorM35
import Derived.Test.YtbelaghcmgefaaaGreatDoorM16
namespace Go.Proofs.YtbelaghcmgefaaaGreatDoor
open Go.RowKit
/-- A number's digit. -/
def dgN (v j:Nat):Nat:=v / 10 ^ j % 10
/-- What is carried when it is doubled. -/
def cyN (v c j:Nat):Nat:=(2 * (v % 10 ^ j) + c) / 10 ^ j
theorem dgN_lt (v j:Nat):dgN v j < 10:=Nat.mod_lt _ (by decide)
theorem cyN_zero (v c:Nat):cyN v c 0 = c:=by simp [cyN,Nat.mod_one]
theorem cyN_le (v c j:Nat) (hc:c ≤ 1):cyN v c j ≤ 1:=by
 unfold cyN
 have hp:0 < 10 ^ j:=Nat.pow_pos (by decide)
 have h1:=Nat.mod_lt v hp
 have:(2 * (v % 10 ^ j) + c) / 10 ^ j < 2:=by
  rw [Nat.div_lt_iff_lt_mul hp]
  omega
 omega
theorem dbl_sum (v c j:Nat):2 * dgN v j + cyN v c j = (2 * (v % 10 ^ (j + 1)) + c) / 10 ^ j:=by
 unfold dgN cyN
 have hp:0 < 10 ^ j:=Nat.pow_pos (by decide)
 rw [Nat.pow_succ,Nat.mod_mul]
 have e:2 * (v % 10 ^ j + 10 ^ j * (v / 10 ^ j % 10)) + c = (2 * (v % 10 ^ j) + c) + 10 ^ j * (2 * (v / 10 ^ j % 10)):=by
  rw [Nat.mul_add,Nat.mul_left_comm 2 (10 ^ j)]
  omega
 rw [e,Nat.add_mul_div_left _ _ hp]
 omega
theorem dbl_carry (v c j:Nat):(2 * dgN v j + cyN v c j) / 10 = cyN v c (j + 1):=by
 rw [dbl_sum,Nat.div_div_eq_div_mul,← Nat.pow_succ]
 rfl
theorem dbl_digit (v c j:Nat):(2 * dgN v j + cyN v c j) % 10 = dgN (2 * v + c) j:=by
 rw [dbl_sum]
 unfold dgN
 have hp:0 < 10 ^ j:=Nat.pow_pos (by decide)
 have e:2 * v + c = (2 * (v % 10 ^ (j + 1)) + c) + 10 ^ j * (20 * (v / 10 ^ (j + 1))):=by
  have h:=Nat.div_add_mod v (10 ^ (j + 1))
  rw [Nat.pow_succ] at h ⊢
  have h2:10 ^ j * (20 * (v / (10 ^ j * 10))) = 2 * (10 ^ j * 10 * (v / (10 ^ j * 10))):=by
   rw [Nat.mul_assoc (10 ^ j) 10,Nat.mul_left_comm (10 ^ j) 20,Nat.mul_left_comm (10 ^ j) 10]
   omega
  rw [h2]
  omega
 rw [e,Nat.add_mul_div_left _ _ hp]
 omega
/-- Its digits, the highest one first, so many; the first m are as they were. -/
def midN (v c N m t:Nat):Nat:=if t < m then dgN v (N - 1 - t) else dgN (2 * v + c) (N - 1 - t)
def midL (v c N m:Nat):List Value:=(List.range N).map fun t=>.int .u8 (midN v c N m t:Int)
def digL (v N:Nat):List Value:=(List.range N).map fun t=>.int .u8 (dgN v (N - 1 - t):Int)
theorem midL_all (v c N:Nat):midL v c N N = digL v N:=by
 unfold midL digL
 refine List.map_congr_left fun t ht=>?_
 have:=List.mem_range.1 ht
 unfold midN
 rw [if_pos this]
theorem midL_none (v c N:Nat):midL v c N 0 = digL (2 * v + c) N:=by
 unfold midL digL midN
 refine List.map_congr_left fun t _=>?_
 rw [if_neg (Nat.not_lt_zero t)]
theorem midL_length (v c N m:Nat):(midL v c N m).length = N:=by simp [midL]
theorem midL_get (v c N m:Nat) (h:m < N):(midL v c N (m + 1))[m]? = some (.int .u8 (dgN v (N - 1 - m):Int)):=by
 unfold midL midN
 simp [h]
theorem midL_set (v c N m:Nat) (h:m < N):(midL v c N (m + 1)).set m (.int .u8 (dgN (2 * v + c) (N - 1 - m):Int)) = midL v c N m:=by
 apply List.ext_getElem?
 intro t
 rw [List.getElem?_set]
 by_cases e:m = t
 ·subst e
  simp [midL,midN,h]
 ·rw [if_neg e]
  by_cases ht:t < N
  ·simp only [midL,List.getElem?_map,List.getElem?_range ht,Option.map_some,midN]
   by_cases h1:t < m
   ·rw [if_pos h1,if_pos (by omega)]
   ·rw [if_neg h1,if_neg (by omega)]
  ·rw [List.getElem?_eq_none (by rw [midL_length];omega),List.getElem?_eq_none (by rw [midL_length];omega)]
theorem carry_top (v c:Nat):cyN v c (Lib.nDigits v) = (2 * v + c) / 10 ^ Lib.nDigits v:=by
 unfold cyN
 rw [Nat.mod_eq_of_lt (Lib.lt_pow_nDigits v)]
theorem pow_le_self {v:Nat} (h:0 < v):10 ^ (Lib.nDigits v - 1) ≤ v:=by
 rcases Nat.lt_or_ge v (10 ^ (Lib.nDigits v - 1)) with hlt | hge
 ·exfalso
  have h1:=Lib.nDigits_pos v
  by_cases e:Lib.nDigits v = 1
  ·rw [e] at hlt;simp at hlt;omega
  ·obtain ⟨k,hk⟩:∃ k,Lib.nDigits v = k + 2:=⟨Lib.nDigits v - 2,by omega⟩
   rw [hk] at hlt
   have:Lib.nDigits v ≤ k + 1:=by
    clear h1 e
    have aux:∀ (k u:Nat),u < 10 ^ (k + 1) → Lib.nDigits u ≤ k + 1:=by
     intro k
     induction k with
     | zero=>intro u hu;rw [Lib.nDigits_small (by simpa using hu)];omega
     | succ k ih =>
      intro u hu
      by_cases hs:u < 10
      ·rw [Lib.nDigits_small hs];omega
      ·rw [Lib.nDigits_big hs]
       have:=ih (u / 10) (by rw [Nat.div_lt_iff_lt_mul (by decide)];rwa [Nat.pow_succ] at hu)
       omega
    exact aux k v (by simpa using hlt)
   omega
 ·exact hge
theorem same_width {v c:Nat} (hc:c ≤ 1) (h:cyN v c (Lib.nDigits v) = 0):Lib.nDigits (2 * v + c) = Lib.nDigits v:=by
 rw [carry_top] at h
 have hp:0 < 10 ^ Lib.nDigits v:=Nat.pow_pos (by decide)
 have hlt:2 * v + c < 10 ^ Lib.nDigits v:=by
  rcases Nat.lt_or_ge (2 * v + c) (10 ^ Lib.nDigits v) with h1 | h1
  ·exact h1
  ·have:=Nat.div_pos h1 hp
   omega
 by_cases e:v = 0
 ·subst e
  rw [Lib.nDigits_small (by omega),Lib.nDigits_small (by omega)]
 ·have h1:=Lib.nDigits_pos v
  have h2:=pow_le_self (v:=v) (by omega)
  have h3:=Lib.nDigits_unique (Lib.nDigits v - 1) (2 * v + c) (by omega) (by rw [Nat.sub_add_cancel h1];exact hlt)
  omega
theorem more_width {v c:Nat} (hc:c ≤ 1) (h:cyN v c (Lib.nDigits v) ≠ 0):Lib.nDigits (2 * v + c) = Lib.nDigits v + 1 ∧ cyN v c (Lib.nDigits v) = 1:=by
 have h1:=cyN_le v c (Lib.nDigits v) hc
 refine ⟨?_,by omega⟩
 have h2:cyN v c (Lib.nDigits v) = 1:=by omega
 rw [carry_top] at h2
 have hp:0 < 10 ^ Lib.nDigits v:=Nat.pow_pos (by decide)
 have h3:10 ^ Lib.nDigits v ≤ 2 * v + c:=by
  rcases Nat.lt_or_ge (2 * v + c) (10 ^ Lib.nDigits v) with h3 | h3
  ·rw [Nat.div_eq_of_lt h3] at h2;omega
  ·exact h3
 have h4:=Lib.lt_pow_nDigits v
 exact Lib.nDigits_unique _ _ h3 (by rw [Nat.pow_succ];omega)
theorem digL_more {v c:Nat} (hc:c ≤ 1) (h:cyN v c (Lib.nDigits v) ≠ 0):[Value.int .u8 (cyN v c (Lib.nDigits v):Int)]++digL (2 * v + c) (Lib.nDigits v) = digL (2 * v + c) (Lib.nDigits v + 1):=by
 obtain ⟨_,h2⟩:=more_width hc h
 have h3:=h2
 rw [carry_top] at h3
 unfold digL
 rw [List.range_succ_eq_map,List.map_cons,List.map_map,h2,List.singleton_append]
 congr 1
 ·unfold dgN
  rw [show Lib.nDigits v + 1 - 1 - 0 = Lib.nDigits v by omega,h3]
 ·refine List.map_congr_left fun t _=>?_
  show _ = Value.int .u8 (dgN (2 * v + c) (Lib.nDigits v + 1 - 1 - (t + 1)):Int)
  rw [show Lib.nDigits v + 1 - 1 - (t + 1) = Lib.nDigits v - 1 - t by omega]
/-- The digits, the first m as bytes. -/
def asc (v N m t:Nat):Nat:=if t < m then 48 + dgN v (N - 1 - t) else dgN v (N - 1 - t)
def ascL (v N m:Nat):List Value:=(List.range N).map fun t=>.int .u8 (asc v N m t:Int)
theorem ascL_none (v N:Nat):ascL v N 0 = digL v N:=by
 unfold ascL digL asc
 refine List.map_congr_left fun t _=>?_
 rw [if_neg (Nat.not_lt_zero t)]
theorem ascL_length (v N m:Nat):(ascL v N m).length = N:=by simp [ascL]
theorem ascL_get (v N m:Nat) (h:m < N):(ascL v N m)[m]? = some (.int .u8 (dgN v (N - 1 - m):Int)):=by
 unfold ascL asc
 simp [h]
theorem ascL_set (v N m:Nat) (h:m < N):(ascL v N m).set m (.int .u8 ((dgN v (N - 1 - m):Int) + 48)) = ascL v N (m + 1):=by
 apply List.ext_getElem?
 intro t
 rw [List.getElem?_set]
 by_cases e:m = t
 ·subst e
  simp [ascL,asc,h,Int.add_comm]
 ·rw [if_neg e]
  by_cases ht:t < N
  ·simp only [ascL,List.getElem?_map,List.getElem?_range ht,Option.map_some,asc]
   by_cases h1:t < m
   ·rw [if_pos h1,if_pos (by omega)]
   ·rw [if_neg h1,if_neg (by omega)]
  ·rw [List.getElem?_eq_none (by rw [ascL_length];omega),List.getElem?_eq_none (by rw [ascL_length];omega)]
theorem ascL_all (v:Nat) (t:Nat) (h:t < Lib.nDigits v):(ascL v (Lib.nDigits v) (Lib.nDigits v))[t]? = some (.int .u8 (((Lib.decDigits v)[t]'(by rw [Lib.decDigits_length];exact h)).toNat:Int)):=by
 have e:(Lib.decDigits v)[t]'(by rw [Lib.decDigits_length];exact h) = Lib.dg v (Lib.nDigits v - 1 - t):=by
  simp only [Lib.decDigits_eq,List.getElem_map,List.getElem_range]
 have k:∀ x:Nat,x < 10 → (UInt8.ofNat (48 + x)).toNat = 48 + x:=fun x hx=>by
  rw [UInt8.toNat_ofNat']
  exact Nat.mod_eq_of_lt (by omega)
 have k2:=k _ (dgN_lt v (Lib.nDigits v - 1 - t))
 have k3:(Lib.dg v (Lib.nDigits v - 1 - t)).toNat = 48 + dgN v (Lib.nDigits v - 1 - t):=k2
 rw [e,k3]
 unfold ascL asc
 rw [List.getElem?_map,List.getElem?_range h,Option.map_some,if_pos h]
theorem half_bit (n i:Nat):n / 2 ^ i = 2 * (n / 2 ^ (i + 1)) + (if n.testBit i = true then 1 else 0):=by
 have h:n / 2 ^ (i + 1) = n / 2 ^ i / 2:=by rw [Nat.pow_succ,Nat.div_div_eq_div_mul]
 rw [h,Nat.testBit_eq_decide_div_mod_eq]
 by_cases e:n / 2 ^ i % 2 = 1
 ·rw [if_pos (by simpa using e)];omega
 ·rw [if_neg (by simpa using e)];omega
theorem u8_info:(Tryz.prog.info? 5).map (fun i=>(i.zero,i.size,i.bytes)) = some (some (.int .u8 0),1,1):=by kernel_rfl
/-- A world with the digits in a row of its own, beside the row of bits. -/
structure Dw (w:World) (rb:Nat) (f:Nat → Bool) (g cap N:Nat) (xs:List Value) (V:World):Prop where
 below:Below w.heap.size w V
 bits:BitsAt V rb f
 own:V.ownsRow w.heap.size 5 1 (.slice (some ⟨g,0,none⟩) N cap) N xs
 ne:rb ≠ g
 lb:rb < V.heap.size
variable {w V:World} {rb g cap N:Nat} {f:Nat → Bool} {xs:List Value}
theorem Dw.get (h:Dw w rb f g cap N xs V) (j:Nat) (v:Value) (hj:xs[j]? = some v):V.cell? ⟨g,j,none⟩ = some v:=by
 have:=h.own.cells (g:=g) rfl j v hj
 rwa [Addr.add_lit,Nat.zero_add] at this
theorem Dw.fr (h:Dw w rb f g cap N xs V) (j:Nat):V.frozen? ⟨g,j,none⟩ = false:=h.own.frozenAt j
theorem Dw.lt (h:Dw w rb f g cap N xs V):w.heap.size ≤ g ∧ g < V.heap.size:=h.own.lt g rfl
theorem Dw.set (h:Dw w rb f g cap N xs V) (j:Nat) (u:Value):Dw w rb f g cap N (xs.set j u) (V.setCell ⟨g,j,none⟩ u) :=
 ⟨h.below.setCell (p:=⟨g,j,none⟩) h.lt.1 u,h.bits.other _ (fun e=>h.ne e.symm) u,(h.own.stored j u).1,h.ne,by rw [World.size_setCell];exact h.lb⟩
theorem Dw.made (h:Below w.heap.size w V) (hb:BitsAt V rb f) (hl:rb < V.heap.size) (c:Value):Dw w rb f V.heap.size 1 1 [c] (V.alloc (.cells #[c] 5)):=by
 refine ⟨h.alloc h.size _,hb.old hl _,⟨rfl,.inr ⟨V.heap.size,1,#[c],rfl,h.size,heap_alloc_new V _,Nat.le_refl _,by decide,rfl,rfl⟩⟩,by omega,by simp;omega⟩
theorem Dw.more (h:Dw w rb f g cap N xs V) (c:Value) {g' cap':Nat} {w':World} (ho:w'.ownsRow w.heap.size 5 1 (.slice (some ⟨g',0,none⟩) (1 + N) cap') (1 + N) ([c]++xs)) (hg:(V.alloc (.cells #[c] 5)).grownBy w' (some V.heap.size)) (hw:some V.heap.size = some g' ∨ g' = V.heap.size + 1):Dw w rb f g' cap' (1 + N) ([c]++xs) w':=by
 have hl:=h.lb
 have hs:=h.below.size
 have hgs:=hg.size
 rw [World.size_alloc] at hgs
 refine ⟨(h.below.alloc hs _).grown hg (by simp;omega) (fun k e=>by cases e;exact hs),?_,ho,?_,by omega⟩
 ·have hb:=h.bits.old hl (.cells #[c] 5)
  refine ⟨fun i hi=>(hg.cell_far ⟨rb,i,none⟩ (by simp;omega) (by simp;omega)).trans (hb.c i hi),fun o=>(hg.frozen_far ⟨rb,o,none⟩ (by simp;omega) (by simp;omega)).trans (hb.fz o)⟩
 ·rcases hw with e | e
  ·cases e;omega
  ·omega
theorem down_eq (k:Nat) (h:k ≤ 200):wrap64 ((k:Int) - 1) = (k:Int) - 1:=wr_in _ (by omega)
theorem step_down (k:Nat) (h:wrap64 ((k:Int) - 1) = (k:Int) - 1):(intOf (.int .i64 (wrap64 ((k:Int) - 1))) + 1).toNat < (intOf (.int .i64 (k:Int)) + 1).toNat:=by
 rw [h]
 simp only [intOf]
 omega
theorem carry_eq (X k N cy:Nat) (hk:k < N) (v c:Nat) (h:X / 10 = cyN v c (N - 1 - k + 1)) (hcy:cyN v c (N - 1 - k + 1) ≤ cy) (h2:cy ≤ 1):(X:Int) / 10 % 256 = (cyN v c (N - k):Int):=by
 have e:N - 1 - k + 1 = N - k:=by omega
 rw [e] at h hcy
 omega
theorem mid_set {w V:World} {rb g cap N:Nat} {f:Nat → Bool} {v c k X:Nat} (h:Dw w rb f g cap N (midL v c N (k + 1)) V) (hk:k < N) (hx:X % 10 = dgN (2 * v + c) (N - 1 - k)):Dw w rb f g cap N (midL v c N k) (V.setCell ⟨g,k,none⟩ (.int .u8 ((X:Int) % 10))):=by
 have e:(X:Int) % 10 = (dgN (2 * v + c) (N - 1 - k):Int):=by rw [← hx];omega
 rw [e,← midL_set v c N k hk]
 exact h.set k _
theorem asc_set {w V:World} {rb g cap N:Nat} {f:Nat → Bool} {v k:Nat} (h:Dw w rb f g cap N (ascL v N k) V) (hk:k < N):Dw w rb f g cap N (ascL v N (k + 1)) (V.setCell ⟨g,k,none⟩ (.int .u8 (((dgN v (N - 1 - k):Int) + 48) % 256))):=by
 have e:((dgN v (N - 1 - k):Int) + 48) % 256 = (dgN v (N - 1 - k):Int) + 48:=by
  have:=dgN_lt v (N - 1 - k)
  omega
 rw [e,← ascL_set v N k hk]
 exact h.set k _
theorem same_dw {w V:World} {rb g cap N:Nat} {f:Nat → Bool} {n i v c:Nat} (h:Dw w rb f g cap N (midL v c N 0) V) (hc:c ≤ 1) (hN:Lib.nDigits v = N) (hd:n / 2 ^ i = 2 * v + c) (h0:cyN v c N = 0):Lib.nDigits (n / 2 ^ i) = N ∧ Dw w rb f g cap N (digL (n / 2 ^ i) N) V:=by
 subst hN
 rw [hd,midL_none] at *
 exact ⟨same_width hc h0,h⟩
theorem more_dw {w V w':World} {rb g cap N g' cap':Nat} {f:Nat → Bool} {n i v c:Nat} (h:Dw w rb f g cap N (midL v c N 0) V) (hc:c ≤ 1) (hN:Lib.nDigits v = N) (hd:n / 2 ^ i = 2 * v + c) (h0:cyN v c N ≠ 0)
  (ho:w'.ownsRow w.heap.size 5 1 (.slice (some ⟨g',0,none⟩) (1 + N) cap') (1 + N) ([.int .u8 1]++midL v c N 0)) (hg:(V.alloc (.cells #[.int .u8 1] 5)).grownBy w' (some V.heap.size)) (hw:some V.heap.size = some g' ∨ g' = V.heap.size + 1) :
  Lib.nDigits (n / 2 ^ i) = 1 + N ∧ Dw w rb f g' cap' (1 + N) (digL (n / 2 ^ i) (1 + N)) w':=by
 subst hN
 obtain ⟨m1,m2⟩:=more_width hc h0
 have h1:=h.more _ ho hg hw
 have h2:=digL_more hc h0
 rw [m2] at h2
 have h3:[Value.int .u8 1]++midL v c (Lib.nDigits v) 0 = digL (2 * v + c) (1 + Lib.nDigits v):=by
  rw [midL_none,Nat.add_comm 1]
  exact h2
 rw [h3] at h1
 rw [hd]
 exact ⟨by rw [m1,Nat.add_comm],h1⟩
theorem news_dw {w V:World} {rb g cap N:Nat} {f:Nat → Bool} {xs:List Value} (h:Dw w rb f g cap N xs V) (o:Obj):∀ (j:Nat) (u:Value),xs[j]? = some u → (V.alloc o).cell? ((⟨g,0,none⟩:Addr).add j) = some u:=fun j u hu=>by
 rw [Addr.add_lit,Nat.zero_add]
 exact (cell_old V o g j h.lt.2).trans (h.get j u hu)
theorem mid_one (v c N m:Nat):∀ u ∈ midL v c N m,u.oneCell' = true:=fun u hu=>by
 unfold midL at hu
 obtain ⟨t,_,rfl⟩:=List.mem_map.1 hu
 rfl
theorem asc_all (v N t:Nat) (hN:Lib.nDigits v = N) (h:t < N):(ascL v N N)[t]? = some (.int .u8 (((Lib.decDigits v)[t]'(by rw [Lib.decDigits_length,hN];exact h)).toNat:Int)):=by
 subst hN
 exact ascL_all v t h
theorem step_down' (k:Nat):(intOf (.int .i64 ((k:Int) - 1)) + 1).toNat < (intOf (.int .i64 (k:Int)) + 1).toNat:=by
 simp only [intOf]
 omega
theorem own_lit {w V:World} (h:Below w.heap.size w V) (c:Value):(V.alloc (.cells #[c] 5)).ownsRow w.heap.size 5 1 (.slice (some ⟨V.heap.size,0,none⟩) 1 1) 1 [c] :=
 ⟨rfl,.inr ⟨V.heap.size,1,#[c],rfl,h.size,heap_alloc_new V _,Nat.le_refl _,by decide,rfl,rfl⟩⟩
set_option maxRecDepth 100000 in
set_option maxHeartbeats 8000000 in
theorem ref_text (n:Nat) (hn:n < B128):Pure Tryz.prog 19 #[nv n] (.string (numS n)):=by
 intro w
 have hz:=zero_run
 have Bt:=Lib.hid (ref_bits n hn)
 have hn':=Lib.hid hn
 clear hn
 go_enter Tryz.func19,Tryz.ntmps19
 go_wp2_with fail
 obtain ⟨W,hW,hB,hs,ca,fa⟩:=box1 w _ 24
 rw [← hW]
 clear ca fa hW
 refine (Bt.out W).mono ?_
 rintro e w' ⟨rfl,x,rfl⟩
 have hrow:=BitsAt.new (plus W x) (fun _=>false) 97
 have hth:=Lib.hid (hrow.there' (bitF n))
 have hrow':=hrow.written (bitF n)
 have hbl:Below w.heap.size w (((plus W x).alloc (.cells (rowL fun _=>false).toArray 97)).setCells (plus W x).heap.size 0 (rowL (bitF n))):=below_setCells _ _ _ _ _ ((hB.trans ((below_plus W x).mono hB.size)).alloc (by have:=size_plus W x;have:=hB.size;omega) _) (by have:=size_plus W x;have:=hB.size;omega)
 have hlb:(plus W x).heap.size < (((plus W x).alloc (.cells (rowL fun _=>false).toArray 97)).setCells (plus W x).heap.size 0 (rowL (bitF n))).heap.size:=World.block_lt_of_cell? _ ⟨(plus W x).heap.size,0,none⟩ (hrow'.c 0 (by omega))
 obtain ⟨U,hU⟩:∃ U,((plus W x).alloc (.cells (rowL fun _=>false).toArray 97)).setCells (plus W x).heap.size 0 (rowL (bitF n)) = U:=⟨_,rfl⟩
 rw [hU] at hbl hrow' hlb
 have hU':=Lib.hid hU
 obtain ⟨rb,hrb⟩:∃ rb,(plus W x).heap.size = rb:=⟨_,rfl⟩
 rw [hrb] at hrow' hlb
 have D0:=Lib.hid (Dw.made hbl hrow' hlb (.int .u8 0))
 have hrb':=Lib.hid hrb
 clear hrow hrow' hB hs hU hbl hlb hrb
 go_upto_region 2 with (first | (refine wpList_store_mid rfl 97 _ _ rfl (plus W x).heap.size 0 (rowL (bitF n)).toArray rfl rfl hth.out (row_size' _) (row_one _) ?_;refine wpList_world hU'.out ?_))
 rw [hrb'.out]
 clear hth hU' hrb' Bt hz
 go_upto_region 4 with (fail)
 have s0:Hid (digL (n / 2 ^ 128) 1 = [.int .u8 0]):=Lib.hid (by rw [Nat.div_eq_of_lt (by rw [← b128];exact hn'.out)];rfl)
 have s1:Hid (Lib.nDigits (n / 2 ^ 128) = 1):=Lib.hid (by rw [Nat.div_eq_of_lt (by rw [← b128];exact hn'.out)];exact Lib.nDigits_small (by decide))
 have hN:Hid (∀ v,v ≤ n → Lib.nDigits v ≤ 39):=Lib.hid (fun v hv=>by
  rw [← Lib.decDigits_length]
  exact numS_len v (Nat.lt_of_le_of_lt hv hn'.out))
 obtain ⟨i0,hi0,hi1,hi2,hi3⟩:=info_parts u8_info
 go_loopw [4,5] (fun dv iv V=>∃ (j g cap N:Nat),j ≤ 128 ∧ iv = .int .i64 ((j:Int) - 1) ∧ dv = .slice (some ⟨g,0,none⟩) N cap ∧ Lib.nDigits (n / 2 ^ j) = N ∧ Dw w rb (bitF n) g cap N (digL (n / 2 ^ j) N) V) (fun _ iv _=>(intOf iv + 1).toNat)
 case atStart=>exact ⟨128,U.heap.size,1,1,Nat.le_refl _,rfl,rfl,s1.out,by rw [s0.out];exact D0.out⟩
 case round =>
  obtain ⟨j,g,cap,N,hj,rfl,rfl,hNj,hD⟩:=hrel
  clear D0 s0 s1
  by_cases hj0:j = 0
  ·subst hj0
   have hNn:Hid (Lib.nDigits n = N):=Lib.hid (by rw [← hNj,Nat.pow_zero,Nat.div_one])
   have hDn:Hid (Dw w rb (bitF n) g cap N (ascL n N 0) wr):=Lib.hid (by rw [ascL_none];rw [Nat.pow_zero,Nat.div_one] at hD;exact hD)
   have hNl:Hid (N ≤ 39):=Lib.hid (by rw [← hNn.out];exact hN.out n (Nat.le_refl _))
   clear hNj hD hj
   go_upto_region 18 with (fail)
   go_loopw [9] (fun kv V=>∃ k:Nat,k ≤ N ∧ kv = .int .i64 (k:Int) ∧ Dw w rb (bitF n) g cap N (ascL n N k) V) (fun kv _=>N - (intOf kv).toNat)
   case atStart=>exact ⟨0,Nat.zero_le _,rfl,hDn.out⟩
   case round =>
    obtain ⟨k,hk,rfl,hE⟩:=hrel
    clear hDn
    by_cases hlt:k < N
    ·have ck:=hE.get k _ (ascL_get n N k hlt)
     have fk:=hE.fr k
     have a6:=Lib.hid (wr_succ k N hlt (by have:=hNl.out;omega))
     have hE':=Lib.hid hE
     clear hE
     go_wp2
     go_roundw
     case rel=>exact ⟨k + 1,hlt,congrArg (Value.int .i64) a6.out,asc_set hE'.out hlt⟩
     case measure=>exact step_less k N hlt a6.out
    ·obtain rfl:k = N:=by omega
     have hcv:=run_convert_bytes_back (P:=Tryz.prog) wr 76 9 5 ⟨g,0,none⟩ cap (Lib.decDigits n) Tryz.underlying76 Tryz.underlying5 Tryz.underlying9 (fun j hj=>by
      rw [Addr.add_lit,Nat.zero_add]
      exact hE.get j _ (asc_all n k j hNn.out (by rwa [Lib.decDigits_length,hNn.out] at hj)))
     rw [Lib.decDigits_length,hNn.out] at hcv
     have hB:=hE.below
     clear hlt hk hE
     go_wp2
     go_ret
     exact ⟨rfl,plus_of_below hB⟩
  ·obtain ⟨i,rfl⟩:∃ i,j = i + 1:=⟨j - 1,by omega⟩
   have e:((i + 1:Nat):Int) - 1 = (i:Int):=by omega
   rw [e]
   clear e hj0
   obtain ⟨v,hv⟩:∃ v,n / 2 ^ (i + 1) = v:=⟨_,rfl⟩
   rw [hv] at hNj hD
   have hvn:v ≤ n:=by rw [← hv];exact Nat.div_le_self _ _
   have hNl:Hid (N ≤ 39):=Lib.hid (by rw [← hNj];exact hN.out v hvn)
   have hcb:=hD.bits.c i (by omega)
   have hb:=half_bit n i
   rw [hv] at hb
   have hN1:Hid (1 ≤ N):=Lib.hid (by rw [← hNj];exact Lib.nDigits_pos v)
   have hw1:Hid (wrap64 ((N:Int) - 1) = (N:Int) - 1):=Lib.hid (wr_in _ (by have:=hNl.out;omega))
   unfold bitF at hcb
   obtain ⟨c,hc,hbc⟩:∃ c:Nat,c ≤ 1 ∧ ((n.testBit i = true ∧ c = 1) ∨ (n.testBit i = false ∧ c = 0)) ∧ n / 2 ^ i = 2 * v + c:=by
    cases ht:n.testBit i with
    | true=>rw [ht,if_pos rfl] at hb;exact ⟨1,by omega,.inl ⟨rfl,rfl⟩,hb⟩
    | false=>rw [ht,if_neg (by decide)] at hb;exact ⟨0,by omega,.inr ⟨rfl,rfl⟩,hb⟩
   obtain ⟨hbc,hdiv⟩:=hbc
   have hDm:Hid (Dw w rb (bitF n) g cap N (midL v c N N) wr):=Lib.hid (by rw [midL_all];exact hD)
   have hdiv':=Lib.hid hdiv
   have hNj':=Lib.hid hNj
   have hc':=Lib.hid hc
   have hi128:i < 128:=by omega
   clear hb hv hD hNj hvn hdiv hc hj
   rcases hbc with ⟨ht,rfl⟩ | ⟨ht,rfl⟩
   ·rw [ht] at hcb
    clear ht
    go_upto_region 10 with (fail)
    rw [hw1.out]
    go_loopw [6,7] (fun cv kv V=>∃ m:Nat,m ≤ N ∧ kv = .int .i64 ((m:Int) - 1) ∧ cv = .int .u8 (cyN v 1 (N - m):Int) ∧ Dw w rb (bitF n) g cap N (midL v 1 N m) V) (fun _ kv _=>(intOf kv + 1).toNat)
    case atStart=>exact ⟨N,Nat.le_refl _,rfl,by rw [Nat.sub_self,cyN_zero];rfl,hDm.out⟩
    case round =>
     obtain ⟨m,hm,rfl,rfl,hE⟩:=hrel
     clear hDm hcb
     by_cases hm0:m = 0
     ·subst hm0
      clear hm
      rw [Nat.sub_zero]
      have a7:=Lib.hid (down_eq i (by omega))
      by_cases h0:cyN v 1 N = 0
      ·obtain ⟨r1,r2⟩:=same_dw hE hc'.out hNj'.out hdiv'.out h0
       have r2':=Lib.hid r2
       rw [h0]
       clear hE h0 r2
       go_wp2
       go_roundw
       case rel=>exact ⟨i,g,cap,N,by omega,(by first | exact congrArg (Value.int .i64) a7.out | rfl),rfl,r1,r2'.out⟩
       case measure=>first | exact step_down i a7.out | exact step_down' i
      ·have h1:cyN v 1 N = 1:=by have:=hNj'.out;subst this;exact (more_width hc'.out h0).2
       rw [h1]
       have h0':=Lib.hid h0
       have hE':=Lib.hid hE
       have hsz:=hE.below.size
       clear h0 h1 hE
       go_wp2_with (first | (at_builtin;refine wpList_append_lies _ rfl _ _ 76 rfl w.heap.size 5 i0 _ 1 1 Tryz.underlying76 hi0 hi1 hi2 hi3 rfl (by decide) _ _ _ rfl (own_lit hE'.out.below _) ⟨g,0,none⟩ N cap (midL v 1 N 0) rfl (by rw [midL_length,Nat.mul_one]) (news_dw hE'.out _) (mid_one _ _ _ _) (by have:=hN1.out;omega) (by have:=hNl.out;simp only [maxLen];omega) (by have:=hNl.out;omega) (by simp;omega) (wr.heap.size + 1) (by simp) ?_;intro g' cap' w' hown hgrow hg' hlt';have r:=Lib.hid (more_dw hE'.out hc'.out hNj'.out hdiv'.out h0'.out hown hgrow hg');clear hown hgrow hg'))
       go_roundw
       case rel=>exact ⟨i,g',cap',1 + N,by omega,(by first | exact congrArg (Value.int .i64) a7.out | rfl),rfl,r.out.1,r.out.2⟩
       case measure=>first | exact step_down i a7.out | exact step_down' i
     ·obtain ⟨k,rfl⟩:∃ k,m = k + 1:=⟨m - 1,by omega⟩
      have e:((k + 1:Nat):Int) - 1 = (k:Int):=by omega
      rw [e]
      clear e hm0
      have hkN:k < N:=by omega
      have ck:=hE.get k _ (midL_get v 1 N k hkN)
      have fk:=hE.fr k
      have e2:N - (k + 1) = N - 1 - k:=by omega
      rw [e2]
      clear e2
      have hx:Hid ((2 * (dgN v (N - 1 - k):Int) % 256 + (cyN v 1 (N - 1 - k):Int)) % 256 = ((2 * dgN v (N - 1 - k) + cyN v 1 (N - 1 - k):Nat):Int)):=Lib.hid (by
       have h1:=dgN_lt v (N - 1 - k)
       have h2:=cyN_le v 1 (N - 1 - k) hc'.out
       omega)
      have x1:=dbl_digit v 1 (N - 1 - k)
      have x2:=dbl_carry v 1 (N - 1 - k)
      go_upto_region 13 with (fail)
      rw [hx.out]
      obtain ⟨X,hX⟩:∃ X:Nat,2 * dgN v (N - 1 - k) + cyN v 1 (N - 1 - k) = X:=⟨_,rfl⟩
      rw [hX] at x1 x2 ⊢
      have a7:=Lib.hid (down_eq k (by have:=hNl.out;omega))
      have x3:=Lib.hid (carry_eq X k N 1 hkN v 1 x2 (cyN_le v 1 _ hc'.out) (Nat.le_refl _))
      have hE':=Lib.hid (mid_set hE hkN x1)
      clear x1 x2 hX hx hE
      go_wp2
      go_roundw
      case rel=>exact ⟨k,by omega,congrArg (Value.int .i64) a7.out,congrArg (Value.int .u8) x3.out,hE'.out⟩
      case measure=>exact step_down k a7.out
   ·rw [ht] at hcb
    clear ht
    go_upto_region 10 with (fail)
    rw [hw1.out]
    go_loopw [6,7] (fun cv kv V=>∃ m:Nat,m ≤ N ∧ kv = .int .i64 ((m:Int) - 1) ∧ cv = .int .u8 (cyN v 0 (N - m):Int) ∧ Dw w rb (bitF n) g cap N (midL v 0 N m) V) (fun _ kv _=>(intOf kv + 1).toNat)
    case atStart=>exact ⟨N,Nat.le_refl _,rfl,by rw [Nat.sub_self,cyN_zero];rfl,hDm.out⟩
    case round =>
     obtain ⟨m,hm,rfl,rfl,hE⟩:=hrel
     clear hDm hcb
     by_cases hm0:m = 0
     ·subst hm0
      clear hm
      rw [Nat.sub_zero]
      have a7:=Lib.hid (down_eq i (by omega))
      by_cases h0:cyN v 0 N = 0
      ·obtain ⟨r1,r2⟩:=same_dw hE hc'.out hNj'.out hdiv'.out h0
       have r2':=Lib.hid r2
       rw [h0]
       clear hE h0 r2
       go_wp2
       go_roundw
       case rel=>exact ⟨i,g,cap,N,by omega,(by first | exact congrArg (Value.int .i64) a7.out | rfl),rfl,r1,r2'.out⟩
       case measure=>first | exact step_down i a7.out | exact step_down' i
      ·have h1:cyN v 0 N = 1:=by have:=hNj'.out;subst this;exact (more_width hc'.out h0).2
       rw [h1]
       have h0':=Lib.hid h0
       have hE':=Lib.hid hE
       have hsz:=hE.below.size
       clear h0 h1 hE
       go_wp2_with (first | (at_builtin;refine wpList_append_lies _ rfl _ _ 76 rfl w.heap.size 5 i0 _ 1 1 Tryz.underlying76 hi0 hi1 hi2 hi3 rfl (by decide) _ _ _ rfl (own_lit hE'.out.below _) ⟨g,0,none⟩ N cap (midL v 0 N 0) rfl (by rw [midL_length,Nat.mul_one]) (news_dw hE'.out _) (mid_one _ _ _ _) (by have:=hN1.out;omega) (by have:=hNl.out;simp only [maxLen];omega) (by have:=hNl.out;omega) (by simp;omega) (wr.heap.size + 1) (by simp) ?_;intro g' cap' w' hown hgrow hg' hlt';have r:=Lib.hid (more_dw hE'.out hc'.out hNj'.out hdiv'.out h0'.out hown hgrow hg');clear hown hgrow hg'))
       go_roundw
       case rel=>exact ⟨i,g',cap',1 + N,by omega,(by first | exact congrArg (Value.int .i64) a7.out | rfl),rfl,r.out.1,r.out.2⟩
       case measure=>first | exact step_down i a7.out | exact step_down' i
     ·obtain ⟨k,rfl⟩:∃ k,m = k + 1:=⟨m - 1,by omega⟩
      have e:((k + 1:Nat):Int) - 1 = (k:Int):=by omega
      rw [e]
      clear e hm0
      have hkN:k < N:=by omega
      have ck:=hE.get k _ (midL_get v 0 N k hkN)
      have fk:=hE.fr k
      have e2:N - (k + 1) = N - 1 - k:=by omega
      rw [e2]
      clear e2
      have hx:Hid ((2 * (dgN v (N - 1 - k):Int) % 256 + (cyN v 0 (N - 1 - k):Int)) % 256 = ((2 * dgN v (N - 1 - k) + cyN v 0 (N - 1 - k):Nat):Int)):=Lib.hid (by
       have h1:=dgN_lt v (N - 1 - k)
       have h2:=cyN_le v 0 (N - 1 - k) hc'.out
       omega)
      have x1:=dbl_digit v 0 (N - 1 - k)
      have x2:=dbl_carry v 0 (N - 1 - k)
      go_upto_region 13 with (fail)
      rw [hx.out]
      obtain ⟨X,hX⟩:∃ X:Nat,2 * dgN v (N - 1 - k) + cyN v 0 (N - 1 - k) = X:=⟨_,rfl⟩
      rw [hX] at x1 x2 ⊢
      have a7:=Lib.hid (down_eq k (by have:=hNl.out;omega))
      have x3:=Lib.hid (carry_eq X k N 1 hkN v 0 x2 (cyN_le v 0 _ hc'.out) (Nat.le_refl _))
      have hE':=Lib.hid (mid_set hE hkN x1)
      clear x1 x2 hX hx hE
      go_wp2
      go_roundw
      case rel=>exact ⟨k,by omega,congrArg (Value.int .i64) a7.out,congrArg (Value.int .u8) x3.out,hE'.out⟩
      case measure=>exact step_down k a7.out
end Go.Proofs.YtbelaghcmgefaaaGreatDoor
