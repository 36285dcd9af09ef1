/-
  WHAT IS PROVED HERE: a part of the proof (made narrower and merged by program; the parts: Plain2 Plain3 Plain4 Plain5 Plain6 Shelf Nc Nd Ne Pt).
-/
import Derived.Lib.OthersKept
import Derived.Shelf.Strings.Builder1
import Derived.Shelf.Small.Bits
import Derived.Shelf.Strconv.Itoa0
import Derived.Shelf.Strconv.Itoa1
import Derived.Shelf.LaysM
import Derived.Shelf.Strconv.Itoa2
import Derived.Shelf.Strconv.Itoa3
import Derived.Test.YtbelaghcmgefaaaGreatDoorProg
import Derived.Test.YtbelaghcmgefaaaGreatDoorRows
import Derived.WalkKit
import Derived.WalkSpells
import Derived.WalkLawsBesides
import Derived.Lib.ItoaLen
import Derived.Test.YtbelaghcmgefaaaGreatDoorM8
import Derived.Test.YtbelaghcmgefaaaGreatDoorM1
namespace Go.Proofs.YtbelaghcmgefaaaGreatDoor
open Go.RowKit
theorem div10_end (h l:Nat) (U V R:Int) (hU:U = h * 1152921504606846976 + l / 16) (hV:V = l % 16 * 1152921504606846976) (hR:R = U % 2684354560 * 4294967296 + V / 4294967296) :
  U / 2684354560 * 4294967296 + R / 2684354560 = (((h * 18446744073709551616 + l) / 10:Nat):Int) ∧
  IntKind.u64.wrap (IntKind.u64.wrap (IntKind.u64.wrap (R * 4294967296)) - IntKind.u64.wrap (R / 2684354560 * 11529215046068469760)) / 1152921504606846976 = (((h * 18446744073709551616 + l) % 10:Nat):Int):=by
 simp only [IntKind.wrap_u64]
 constructor <;> omega
theorem div_or32 (h l:Nat) (hh:h < 10) (hl:l < 18446744073709551616):bits .or .u64 ((h:Int) * 1152921504606846976) ((l:Int) / 16) = h * 1152921504606846976 + l / 16:=by
 have h1:=u64_or_nat (h * 1152921504606846976) (l / 16) (by omega) (by omega)
 have h2:h * 1152921504606846976 ||| l / 16 = h * 1152921504606846976 + l / 16:=by
  have:=Nat.two_pow_add_eq_or_of_lt (i:=60) (b:=l / 16) (by omega) h
  rw [Nat.mul_comm];exact this.symm
 rw [h2] at h1
 exact h1.trans (by omega)
theorem div_and0 (l:Nat) (V:Int) (hV:V = l % 16 * 1152921504606846976):bits .and .u64 V 4294967295 = 0:=by
 subst hV
 have h1:=u64_and_nat (l % 16 * 1152921504606846976) 4294967295 (by omega) (by decide)
 have h2:l % 16 * 1152921504606846976 &&& 4294967295 = 0:=by
  have:=Nat.and_two_pow_sub_one_eq_mod (l % 16 * 1152921504606846976) 32
  rw [show (2:Nat) ^ 32 - 1 = 4294967295 from rfl] at this
  rw [this];omega
 rw [h2] at h1
 exact (show _ = _ from h1 ▸ (by congr 1))
/-- The last j + 1 decimal digits. -/
def digB (n j:Nat):List UInt8:=(List.range (j + 1)).map fun i=>UInt8.ofNat (48 + n / 10 ^ (j - i) % 10)
/-- What the digits' array holds behind j digits. -/
def tdig (n j i:Nat):Int:=if 38 < i + j then ((48 + n / 10 ^ (38 - i) % 10:Nat):Int) else 0
theorem tdig_zero (n i:Nat) (h:i < 39):tdig n 0 i = 0:=if_neg (by omega)
theorem tdig_new (n j p:Nat) (h:p + j = 38):tdig n (j + 1) p = ((48 + n / 10 ^ j % 10:Nat):Int):=by
 unfold tdig;rw [if_pos (by omega),show 38 - p = j by omega]
theorem tdig_old (n j p i:Nat) (h:p + j = 38) (hi:i ≠ p):tdig n (j + 1) i = tdig n j i:=by
 unfold tdig
 by_cases h1:38 < i + j
 ·rw [if_pos h1,if_pos (by omega)]
 ·rw [if_neg h1,if_neg (by omega)]
theorem hi_div (N:Nat):hi N / 10 = hi (N / 10):=by unfold hi;omega
theorem hi_pos (N:Nat):0 ≤ hi N:=by unfold hi;omega
theorem lo_div (N:Nat):((N / 18446744073709551616 % 10 * 18446744073709551616 + N % 18446744073709551616) / 10:Nat) = N / 10 % 18446744073709551616:=by omega
theorem rem_div (N:Nat):((N / 18446744073709551616 % 10 * 18446744073709551616 + N % 18446744073709551616) % 10:Nat) = N % 10:=by omega
theorem div_pow (n j:Nat):n / 10 ^ j / 10 = n / 10 ^ (j + 1):=by rw [Nat.div_div_eq_div_mul,Nat.pow_succ]
theorem div_ne (n j:Nat) (hn:n < B128) (h:n / 10 ^ j ≠ 0):j ≤ 38:=by
 apply Classical.byContradiction
 intro hj
 apply h
 apply Nat.div_eq_of_lt
 refine Nat.lt_of_lt_of_le hn ?_
 refine Nat.le_trans (by decide +kernel:B128 ≤ 10 ^ 39) (Nat.pow_le_pow_right (by decide) (by omega))
/-- The world at a round's head of Text's loop, behind j digits. -/
structure TInv (w:World) (n j:Nat) (wr:World):Prop where
 below:Below w.heap.size w wr
 size:w.heap.size + 1 + 1 ≤ wr.heap.size
 n0:wr.cell? ⟨w.heap.size,0,none⟩ = some (.int .u64 (hi (n / 10 ^ j)))
 n1:wr.cell? ⟨w.heap.size,1,none⟩ = some (.int .u64 (lo (n / 10 ^ j)))
 fn:∀ o,wr.frozen? ⟨w.heap.size,o,none⟩ = false
 fb:∀ o,wr.frozen? ⟨w.heap.size + 1,o,none⟩ = false
 b:∀ i,i < 39 → wr.cell? ⟨w.heap.size + 1,i,none⟩ = some (.int .u8 (tdig n j i))
theorem TInv.store {w wr:World} {n j p:Nat} (h:TInv w n j wr) (hp:p + j = 38) (x:Ext) (d:Int) (hd:d = ((48 + n / 10 ^ j % 10:Nat):Int)) (N:Nat) (hN:N = n / 10 ^ (j + 1)) :
  TInv w n (j + 1) ((((plus wr x).setCell ⟨w.heap.size + 1,p,none⟩ (.int .u8 d)).setCell ⟨w.heap.size,0,none⟩ (.int .u64 (hi N))).setCell ⟨w.heap.size,1,none⟩ (.int .u64 (lo N))):=by
 subst hN
 have hs:=h.size
 have bp:=below_plus wr x
 have c:∀ b o,b < wr.heap.size → (plus wr x).cell? ⟨b,o,none⟩ = wr.cell? ⟨b,o,none⟩:=fun b o hb=>cell_plus wr x b o hb
 refine ⟨(((h.below.trans (bp.mono (by omega))).setCell (by simp) _).setCell (by simp) _).setCell (by simp) _,?_,?_,?_,?_,?_,fun i hi=>?_⟩
 ·have:=bp.size;simp [World.setCell];omega
 ·rw [World.cell?_setCell_other _ _ _ _ (by simp)]
  exact World.cell?_setCell_same _ _ _ ((World.cell?_setCell_other _ _ _ _ (by simp)).trans ((c _ _ (by omega)).trans h.n0))
 ·exact World.cell?_setCell_same _ _ _ ((World.cell?_setCell_other _ _ _ _ (by simp)).trans ((World.cell?_setCell_other _ _ _ _ (by simp)).trans ((c _ _ (by omega)).trans h.n1)))
 ·intro o;simp only [World.frozen?_setCell];exact (frozen_plus wr x _ _ (by omega)).trans (h.fn o)
 ·intro o;simp only [World.frozen?_setCell];exact (frozen_plus wr x _ _ (by omega)).trans (h.fb o)
 ·rw [World.cell?_setCell_other _ _ _ _ (by simp),World.cell?_setCell_other _ _ _ _ (by simp)]
  by_cases hip:i = p
  ·subst hip
   rw [tdig_new n j i hp,← hd]
   exact World.cell?_setCell_same _ _ _ ((c _ _ (by omega)).trans (h.b i hi))
  ·rw [World.cell?_setCell_other _ _ _ _ (by simp <;> omega),tdig_old n j p i hp hip]
   exact (c _ _ (by omega)).trans (h.b i hi)
theorem TInv.plus {w wr:World} {n j:Nat} (h:TInv w n j wr) (x:Ext):TInv w n j (plus wr x):=by
 have hs:=h.size
 have bp:=below_plus wr x
 exact ⟨h.below.trans (bp.mono (by omega)),Nat.le_trans h.size bp.size,(cell_plus wr x _ _ (by omega)).trans h.n0,(cell_plus wr x _ _ (by omega)).trans h.n1,
  fun o=>(frozen_plus wr x _ _ (by omega)).trans (h.fn o),fun o=>(frozen_plus wr x _ _ (by omega)).trans (h.fb o),fun i hi=>(cell_plus wr x _ _ (by omega)).trans (h.b i hi)⟩
/-- The bytes of the last cells, as a string. -/
theorem bytes_fold:∀ (ns:List Int) (s:ByteArray),(ns.foldl (fun r n=>r.push (UInt8.ofNat n.toNat)) s).data.toList = s.data.toList++ns.map fun n=>UInt8.ofNat n.toNat
 | [],s=>by simp
 | n :: ns,s=>by
  rw [List.foldl_cons,bytes_fold ns]
  simp [ByteArray.push]
theorem bytes_of {s:ByteArray} {l:List UInt8} (h:s.data.toList = l):s = ⟨l.toArray⟩:=by
 subst h;rfl
theorem digB_eq (n j p:Nat) (hp:p + j = 38):((List.range (39 - p)).map fun i=>tdig n (j + 1) (p + i)).map (fun z=>UInt8.ofNat z.toNat) = digB n j:=by
 unfold digB
 rw [List.map_map,show 39 - p = j + 1 by omega]
 apply List.map_congr_left
 intro i hi
 have hi':i < j + 1:=by simpa using hi
 simp only [Function.comp]
 unfold tdig
 rw [if_pos (by omega),show 38 - (p + i) = j - i by omega]
 rfl
/-- A number has so many digits. -/
theorem ndig (n:Nat):∃ J,n / 10 ^ (J + 1) = 0 ∧ ∀ j,j < J → n / 10 ^ (j + 1) ≠ 0:=by
 induction n using Nat.strongRecOn with
 | _ n ih =>
  by_cases h:n < 10
  ·exact ⟨0,by simp [Nat.div_eq_of_lt h],fun j hj=>by omega⟩
  ·obtain ⟨J,h1,h2⟩:=ih (n / 10) (by omega)
   refine ⟨J + 1,?_,fun j hj=>?_⟩
   ·rw [Nat.pow_succ,Nat.mul_comm,← Nat.div_div_eq_div_mul];exact h1
   ·rw [Nat.pow_succ,Nat.mul_comm,← Nat.div_div_eq_div_mul]
    cases j with
    | zero=>simp;omega
    | succ j=>exact h2 j (by omega)
theorem ndig_le (n J:Nat) (hn:n < B128) (h:∀ j,j < J → n / 10 ^ (j + 1) ≠ 0):J ≤ 38:=by
 cases J with
 | zero=>omega
 | succ J=>exact div_ne n (J + 1) hn (h J (by omega))
end Go.Proofs.YtbelaghcmgefaaaGreatDoor
namespace Go.Proofs
open Go.Shelf
def Tryz.lays134_ren:Go.Shelf.Ren:=⟨fun | 134=>156 | 129=>171 | n=>n,fun | 53=>22 | 3=>3 | 4=>4 | 46=>197 | 5=>5 | 9=>9 | n=>n,fun | n=>n⟩
theorem Tryz.lays134:Go.Proofs.Lays.n134 Tryz.prog Tryz.lays134_ren:={
 mixed:=by kernel_rfl
 f129:=Tryz.func171.trans (congrArg some (by kernel_rfl))
 f134:=Tryz.func156.trans (congrArg some (by kernel_rfl))
 t3:=Tryz.underlying3
 a3:=Tryz.isAgg3
 z3:=Tryz.sizeOf3
 v3:=Tryz.zeroValue3
 t4:=Tryz.underlying4
 a4:=Tryz.isAgg4
 z4:=Tryz.sizeOf4
 v4:=Tryz.zeroValue4
 t5:=Tryz.underlying5
 a5:=Tryz.isAgg5
 z5:=Tryz.sizeOf5
 v5:=Tryz.zeroValue5
 t9:=Tryz.underlying9
 a9:=Tryz.isAgg9
 z9:=Tryz.sizeOf9
 v9:=Tryz.zeroValue9
 t46:=Tryz.underlying197
 a46:=Tryz.isAgg197
 z46:=Tryz.sizeOf197
 v46:=Tryz.zeroValue197
 t53:=Tryz.underlying22
 a53:=Tryz.isAgg22
 z53:=Tryz.sizeOf22
 v53:=Tryz.zeroValue22 }
/-- bits.LeadingZeros64: "LeadingZeros64 returns the number of leading zero bits in x; the result is 64 for x == 0.": IT RETURNS '64 - Lib.bitLen x'; the world is as it was. ITS CALLEE bits.Len64 IS MET BY ITS OWN CONTRACT OFF THE SHELF (lay that first): entered in place it sends the kernel out of memory. (LAID: no walk: one application.) -/
theorem Tryz.bits_LeadingZeros64 (x:Int) (w:World) (h0:0 ≤ x) (h1:x ≤ 18446744073709551615) :
  Calls Tryz.prog 156 #[.int .u64 x] w fun e w'=>e = .returned (.int .i64 (64 - (Lib.bitLen x.toNat:Int))) ∧ w' = w:=Any.bits_LeadingZeros64 Tryz.lays134 x w h0 h1
def Tryz.laysM246_ren:Go.Shelf.Ren:=⟨fun | 246=>141 | 283=>158 | 284=>159 | 285=>160 | 286=>161 | 129=>171 | 317=>172 | 318=>173 | 319=>174 | 320=>175 | 337=>179 | 338=>180 | n=>n,fun | 2=>2 | 3=>3 | 9=>9 | 4=>4 | 171=>201 | 0=>0 | 53=>22 | 37=>76 | 5=>5 | 173=>203 | 212=>213 | 51=>214 | 20=>20 | 213=>215 | 46=>197 | 232=>224 | 233=>225 | n=>n,fun | 17=>2 | 18=>3 | 19=>4 | n=>n⟩
def Tryz.laysM243_ren:Go.Shelf.Ren:=⟨fun | 243=>91 | 246=>141 | 283=>158 | 284=>159 | 285=>160 | 286=>161 | 129=>171 | 317=>172 | 318=>173 | 319=>174 | 320=>175 | 337=>179 | 338=>180 | n=>n,fun | 3=>3 | 9=>9 | 2=>2 | 4=>4 | 171=>201 | 0=>0 | 53=>22 | 37=>76 | 5=>5 | 173=>203 | 212=>213 | 51=>214 | 20=>20 | 213=>215 | 46=>197 | 232=>224 | 233=>225 | n=>n,fun | 17=>2 | 18=>3 | 19=>4 | n=>n⟩
def Tryz.laysM171_ren:Go.Shelf.Ren:=⟨fun | 171=>43 | 243=>91 | 246=>141 | 283=>158 | 284=>159 | 285=>160 | 286=>161 | 129=>171 | 317=>172 | 318=>173 | 319=>174 | 320=>175 | 337=>179 | 338=>180 | n=>n,fun | 3=>3 | 9=>9 | 2=>2 | 4=>4 | 171=>201 | 0=>0 | 53=>22 | 37=>76 | 5=>5 | 173=>203 | 212=>213 | 51=>214 | 20=>20 | 213=>215 | 46=>197 | 232=>224 | 233=>225 | n=>n,fun | 17=>2 | 18=>3 | 19=>4 | n=>n⟩
theorem Tryz.laysM171:Go.Proofs.LaysM.n171 Tryz.prog Tryz.laysM171_ren:={
 mixed:=by kernel_rfl
 f129:=Tryz.func171.trans (congrArg some (by kernel_rfl))
 f171:=Tryz.func43.trans (congrArg some (by kernel_rfl))
 f243:=Tryz.func91.trans (congrArg some (by kernel_rfl))
 f246:=Tryz.func141.trans (congrArg some (by kernel_rfl))
 f283:=Tryz.func158.trans (congrArg some (by kernel_rfl))
 f284:=Tryz.func159.trans (congrArg some (by kernel_rfl))
 f285:=Tryz.func160.trans (congrArg some (by kernel_rfl))
 f286:=Tryz.func161.trans (congrArg some (by kernel_rfl))
 f317:=Tryz.func172.trans (congrArg some (by kernel_rfl))
 f318:=Tryz.func173.trans (congrArg some (by kernel_rfl))
 f319:=Tryz.func174.trans (congrArg some (by kernel_rfl))
 f320:=Tryz.func175.trans (congrArg some (by kernel_rfl))
 f337:=Tryz.func179.trans (congrArg some (by kernel_rfl))
 f338:=Tryz.func180.trans (congrArg some (by kernel_rfl))
 t0:=Tryz.underlying0
 a0:=Tryz.isAgg0
 z0:=Tryz.sizeOf0
 v0:=Tryz.zeroValue0
 t2:=Tryz.underlying2
 a2:=Tryz.isAgg2
 z2:=Tryz.sizeOf2
 v2:=Tryz.zeroValue2
 t3:=Tryz.underlying3
 a3:=Tryz.isAgg3
 z3:=Tryz.sizeOf3
 v3:=Tryz.zeroValue3
 t4:=Tryz.underlying4
 a4:=Tryz.isAgg4
 z4:=Tryz.sizeOf4
 v4:=Tryz.zeroValue4
 t5:=Tryz.underlying5
 a5:=Tryz.isAgg5
 z5:=Tryz.sizeOf5
 v5:=Tryz.zeroValue5
 t9:=Tryz.underlying9
 a9:=Tryz.isAgg9
 z9:=Tryz.sizeOf9
 v9:=Tryz.zeroValue9
 t20:=Tryz.underlying20
 a20:=Tryz.isAgg20
 z20:=Tryz.sizeOf20
 v20:=Tryz.zeroValue20
 t37:=Tryz.underlying76
 a37:=Tryz.isAgg76
 z37:=Tryz.sizeOf76
 v37:=Tryz.zeroValue76
 t46:=Tryz.underlying197
 a46:=Tryz.isAgg197
 z46:=Tryz.sizeOf197
 v46:=Tryz.zeroValue197
 t51:=Tryz.underlying214
 a51:=Tryz.isAgg214
 z51:=Tryz.sizeOf214
 v51:=Tryz.zeroValue214
 t53:=Tryz.underlying22
 a53:=Tryz.isAgg22
 z53:=Tryz.sizeOf22
 v53:=Tryz.zeroValue22
 t171:=Tryz.underlying201
 a171:=Tryz.isAgg201
 z171:=Tryz.sizeOf201
 v171:=Tryz.zeroValue201
 t173:=Tryz.underlying203
 a173:=Tryz.isAgg203
 z173:=Tryz.sizeOf203
 v173:=Tryz.zeroValue203
 t212:=Tryz.underlying213
 a212:=Tryz.isAgg213
 z212:=Tryz.sizeOf213
 v212:=Tryz.zeroValue213
 t213:=Tryz.underlying215
 a213:=Tryz.isAgg215
 z213:=Tryz.sizeOf215
 t232:=Tryz.underlying224
 a232:=Tryz.isAgg224
 z232:=Tryz.sizeOf224
 v232:=Tryz.zeroValue224
 t233:=Tryz.underlying225
 a233:=Tryz.isAgg225
 z233:=Tryz.sizeOf225
 v233:=Tryz.zeroValue225
 g17:=by kernel_rfl
 g18:=by kernel_rfl
 g19:=by kernel_rfl
 i0:=by kernel_rfl
 i2:=by kernel_rfl
 i3:=by kernel_rfl
 i4:=by kernel_rfl
 i5:=by kernel_rfl
 i9:=by kernel_rfl
 i20:=by kernel_rfl
 i37:=by kernel_rfl
 i46:=by kernel_rfl
 i51:=by kernel_rfl
 i53:=by kernel_rfl
 i171:=by kernel_rfl
 i173:=by kernel_rfl
 i212:=by kernel_rfl
 i232:=by kernel_rfl
 i233:=by kernel_rfl
 m17:=by kernel_rfl
 m18:=by kernel_rfl
 m19:=by kernel_rfl }
open Go.RowKit Go.Sort Go.Lib in
/-- strconv.Itoa: "Itoa is equivalent to FormatInt(int64(i), 10).": i's DECIMAL NUMERAL ('Lib.itoa': a '-' where i is negative, then the digits), FOR EVERY int. The world behind the call: the world before it, new blocks behind the heap (the library's 'var a [24]byte'), draws. (LAID: no walk: one application.) -/
theorem Tryz.strconv_Itoa (n:Int) (h0:-9223372036854775808 ≤ n) (h1:n ≤ 9223372036854775807) (w:World) (htab:Lib.TabIs Tryz.prog w "internal/strconv.uint64pow10" .u64 Lib.pow10Tab) :
  Calls Tryz.prog 43 #[.int .i64 n] w fun e w'=>e = .returned (.string ⟨(Lib.itoa n).toArray⟩) ∧ ∃ k os,w' = grow (w.drewN k) os:=Any.strconv_Itoa Tryz.laysM171 n h0 h1 w htab
end Go.Proofs
namespace Go.Proofs.YtbelaghcmgefaaaGreatDoor
open Go.RowKit
theorem lz10 (w:World):Calls Tryz.prog 156 #[.int .u64 10] w fun e w'=>e = .returned (.int .i64 60) ∧ w = w' :=
 (Tryz.bits_LeadingZeros64 10 w (by decide) (by decide)).mono fun e w' ⟨he,hw⟩=>⟨by rw [he];rfl,hw.symm⟩
set_option maxHeartbeats 400000 in
theorem div10a (l:Nat) (hl:l < 18446744073709551616):Pure Tryz.prog 138 #[.int .u64 0,.int .u64 (l:Int),.int .u64 10] (.tuple #[.int .u64 ((l / 10:Nat):Int),.int .u64 ((l % 10:Nat):Int)]):=by
 intro w
 go_enter Tryz.func138,Tryz.ntmps138
 go_wp2
 refine wp_region_own0 (by kernel_rfl) (by kernel_rfl) ?_
 repeat (go_big_quiet_step (fail))
 refine wpQuiet_nil ?_
 rintro _ ⟨y,rfl⟩
 go_wp2
 go_ret2
 exact ⟨rfl,y,rfl⟩
set_option maxHeartbeats 400000 in
theorem div10b (h l:Nat) (h0:0 < h) (hh:h < 10) (hl:l < 18446744073709551616) (w:World):Calls Tryz.prog 138 #[.int .u64 (h:Int),.int .u64 (l:Int),.int .u64 10] w fun e w'=>e = .returned (.tuple #[.int .u64 ((h * 18446744073709551616 + l) / 10:Nat),.int .u64 ((h * 18446744073709551616 + l) % 10:Nat)]) ∧ w = w':=by
 have g1:((h:Int) == 0) = false:=by simp;omega
 have E1:bits .and .u64 11529215046068469760 4294967295 = 0:=by decide +kernel
 obtain ⟨U,hU,E2⟩:∃ U:Int,U = h * 1152921504606846976 + l / 16 ∧ bits .or .u64 ((h:Int) * 1152921504606846976) ((l:Int) / 16) = U:=⟨_,rfl,div_or32 h l hh hl⟩
 obtain ⟨V,hV,E3⟩:∃ V:Int,V = l % 16 * 1152921504606846976 ∧ IntKind.u64.wrap ((l:Int) * 1152921504606846976) = V:=⟨_,rfl,by rw [IntKind.wrap_u64];omega⟩
 have E4:bits .and .u64 V 4294967295 = 0:=div_and0 l V hV
 have bU0:0 ≤ U:=by omega
 have bU1:U < 11529215046068469760:=by omega
 have bV0:0 ≤ V:=by omega
 have bV1:V < 18446744073709551616:=by omega
 obtain ⟨R,hR,E5⟩:∃ R:Int,R = U % 2684354560 * 4294967296 + V / 4294967296 ∧ IntKind.u64.wrap (IntKind.u64.wrap (IntKind.u64.wrap (U * 4294967296) + V / 4294967296) - IntKind.u64.wrap (U / 2684354560 * 11529215046068469760)) = R:=⟨_,rfl,by simp only [IntKind.wrap_u64];omega⟩
 have bR0:0 ≤ R:=by omega
 have bR1:R < 11529215046068469760:=by omega
 have HR:=Lib.hid hR
 clear hR
 have HU:=Lib.hid hU
 have HV:=Lib.hid hV
 clear hU hV
 go_enter Tryz.func138,Tryz.ntmps138
 go_wp2_with (go_at_call 156;refine (lz10 _).mono ?_;rintro e w' ⟨rfl,rfl⟩)
 refine wp_loop_rounds 1 ?_
 rw [rounds_succ]
 go_wp2
 refine wp_loop_rounds 1 ?_
 rw [rounds_succ]
 go_wp2
 go_ret2
 obtain ⟨e1,e2⟩:=div10_end h l U V R HU.out HV.out HR.out
 refine ⟨?_,rfl⟩
 rw [← e1,← e2]
 rfl
/-- bits.Div64 by 10, of an upper half below 10. -/
theorem div10 (h l:Nat) (hh:h < 10) (hl:l < 18446744073709551616):Pure Tryz.prog 138 #[.int .u64 (h:Int),.int .u64 (l:Int),.int .u64 10] (.tuple #[.int .u64 ((h * 18446744073709551616 + l) / 10:Nat),.int .u64 ((h * 18446744073709551616 + l) % 10:Nat)]):=by
 by_cases h0:h = 0
 ·subst h0
  rw [Nat.zero_mul,Nat.zero_add]
  exact div10a l hl
 ·intro w
  exact (div10b h l (by omega) hh hl w).mono fun e w' ⟨he,hw⟩=>⟨he,⟨#[],w.drawn⟩,by rw [← hw];exact (plus_self w).symm⟩
theorem abs_world {P:Program} {c:Code} {Q:Exit → Act → World → Prop} {a:Act} {W:World} {T:World → Prop} (h:∀ W,T W → c.wp P Q a W) (hT:T W):c.wp P Q a W:=h W hT
theorem hi_lt (N:Nat) (h:N < B128):hi N ≤ 18446744073709551615:=by unfold B128 at h;unfold hi;omega
theorem TInv.start (w:World) (n:Nat) (T U:TypeId):TInv w n 0 ((w.alloc (.cells #[.int .u64 (hi n),.int .u64 (lo n)] T)).alloc (.cells #[.int .u8 0,.int .u8 0,.int .u8 0,.int .u8 0,.int .u8 0,.int .u8 0,.int .u8 0,.int .u8 0,.int .u8 0,.int .u8 0,.int .u8 0,.int .u8 0,.int .u8 0,.int .u8 0,.int .u8 0,.int .u8 0,.int .u8 0,.int .u8 0,.int .u8 0,.int .u8 0,.int .u8 0,.int .u8 0,.int .u8 0,.int .u8 0,.int .u8 0,.int .u8 0,.int .u8 0,.int .u8 0,.int .u8 0,.int .u8 0,.int .u8 0,.int .u8 0,.int .u8 0,.int .u8 0,.int .u8 0,.int .u8 0,.int .u8 0,.int .u8 0,.int .u8 0] U)):=by
 have h1:(w.alloc (.cells #[.int .u64 (hi n),.int .u64 (lo n)] T)).heap.size = w.heap.size + 1:=by simp
 refine ⟨((Below.refl _ _).alloc (Nat.le_refl _) _).alloc (by omega) _,by simp,?_,?_,?_,?_,fun i hi=>?_⟩
 ·rw [Nat.pow_zero,Nat.div_one];exact (cell_old _ _ _ 0 (by omega)).trans (cell_new w _ T _ 0 rfl)
 ·rw [Nat.pow_zero,Nat.div_one];exact (cell_old _ _ _ 1 (by omega)).trans (cell_new w _ T _ 1 rfl)
 ·exact fun o=>(frozen_old _ _ _ o (by omega)).trans (frozen_new w _ T _ o rfl)
 ·exact fun o=>frozen_new _ _ U _ o h1.symm
 ·rw [tdig_zero n i hi]
  refine (cell_new _ _ U _ i h1.symm).trans ?_
  rw [show (#[.int .u8 0,.int .u8 0,.int .u8 0,.int .u8 0,.int .u8 0,.int .u8 0,.int .u8 0,.int .u8 0,.int .u8 0,.int .u8 0,.int .u8 0,.int .u8 0,.int .u8 0,.int .u8 0,.int .u8 0,.int .u8 0,.int .u8 0,.int .u8 0,.int .u8 0,.int .u8 0,.int .u8 0,.int .u8 0,.int .u8 0,.int .u8 0,.int .u8 0,.int .u8 0,.int .u8 0,.int .u8 0,.int .u8 0,.int .u8 0,.int .u8 0,.int .u8 0,.int .u8 0,.int .u8 0,.int .u8 0,.int .u8 0,.int .u8 0,.int .u8 0,.int .u8 0]:Array Value) = Array.replicate 39 (.int .u8 0) from rfl,Array.getElem?_replicate,if_pos hi]
/-- A digit is split off. -/
theorem div_n (N:Nat):Pure Tryz.prog 138 #[.int .u64 (hi N % 10),.int .u64 (lo N),.int .u64 10] (.tuple #[.int .u64 (lo (N / 10)),.int .u64 ((N % 10:Nat):Int)]):=by
 have h:=div10 (N / 18446744073709551616 % 10) (N % 18446744073709551616) (Nat.mod_lt _ (by decide)) (Nat.mod_lt _ (by decide))
 rw [lo_div,rem_div] at h
 exact h
/-- The bytes behind place p, as a string. -/
theorem text_run (w W:World) (n j p:Nat) (hp:p + j = 38) (h:TInv w n (j + 1) W):(convert 76 9 (.slice (some ⟨w.heap.size + 1,p,none⟩) (39 - p) (39 - p))).run Tryz.prog W = .ok (.string ⟨(digB n j).toArray⟩) W:=by
 rw [run_convert_bytes_string W _ _ 5 _ _ _ Tryz.underlying76 Tryz.underlying5 Tryz.underlying9]
 have hl:(loadCells ⟨w.heap.size + 1,p,none⟩ (39 - p)).run Tryz.prog W = .ok (((List.range (39 - p)).map fun i=>tdig n (j + 1) (p + i)).map (Value.int .u8)).toArray W:=by
  have:=run_loadCells_list (P:=Tryz.prog) (w:=W) ⟨w.heap.size + 1,p,none⟩ (((List.range (39 - p)).map fun i=>tdig n (j + 1) (p + i)).map (Value.int .u8)) (fun i v hv=>by
   have hi:i < 39 - p:=by
    have:=(List.getElem?_eq_some_iff.1 hv).1
    simpa using this
   simp [hi] at hv
   subst hv
   have hb:=h.b (p + i) (by omega)
   rcases Nat.eq_zero_or_pos i with rfl | hpos
   ·simpa [Addr.add] using hb
   ·simpa [Addr.add,Nat.ne_of_gt hpos] using hb)
  simpa using this
 rw [run_bytesToString W _ _ _ _ hl]
 congr 2
 exact bytes_of (by rw [bytes_fold];exact digB_eq n j p hp)
set_option maxRecDepth 100000 in
theorem slice_run (B p:Nat) (hp:p < 39) (w:World):(Instr.sliceAt 179 (.pointer (some ⟨B,0,none⟩)) (some (.int .i64 (p:Int))) none none).run Tryz.prog w = .ok (.slice (some ⟨B,p,none⟩) (39 - p) (39 - p)) w:=by
 have hn:Tryz.prog.arrayLen 179 = 39:=by kernel_rfl
 have he:Tryz.prog.elem 179 = 5:=by kernel_rfl
 have hz:(sizeOf 5).run Tryz.prog w = .ok 1 w:=by kernel_rfl
 rw [run_sliceAt_array_l w 179 ⟨B,0,none⟩ (by kernel_rfl) .i64 (p:Int) (by omega) (by rw [hn];omega),he,hz,hn]
 have h3:¬ (39 = p):=by omega
 simp only [Result.andThen,slicedAt,Int.toNat_natCast,if_neg h3,Nat.mul_one]
 congr 4
 rcases Nat.eq_zero_or_pos p with rfl | hpos
 ·rfl
 ·simp [Addr.add,Nat.ne_of_gt hpos]
set_option maxHeartbeats 1000000 in
set_option maxRecDepth 100000 in
theorem num_text (n J:Nat) (hn:n < B128) (hJ:J ≤ 38) (hz:n / 10 ^ (J + 1) = 0) (hnz:∀ j,j < J → n / 10 ^ (j + 1) ≠ 0):Pure Tryz.prog 89 #[nv n] (.string ⟨(digB n J).toArray⟩):=by
 intro w
 have eqN:=eql_nv
 have hn':=Lib.hid hn
 have hz':=Lib.hid hz
 have hnz':=Lib.hid hnz
 clear hn hz hnz
 go_enter Tryz.func89,Tryz.ntmps89
 go_wp2
 go_loopw [4] (fun a wr=>∃ j p:Nat,p + j = 38 ∧ j ≤ J ∧ a = .int .i64 p ∧ TInv w n j wr) (fun a _=>(intOf a).toNat)
 case atStart=>exact ⟨0,38,rfl,Nat.zero_le _,rfl,TInv.start w n _ _⟩
 case round =>
  obtain ⟨j,p,hp,hj,rfl,hT⟩:=hrel
  have hN:n / 10 ^ j < B128:=Nat.lt_of_le_of_lt (Nat.div_le_self _ _) hn'.out
  have hD:=Lib.hid (div_n (n / 10 ^ j))
  have hd:n / 10 ^ j % 10 < 10:=Nat.mod_lt _ (by decide)
  have hq:=hi_div (n / 10 ^ j)
  have h0:=hi_pos (n / 10 ^ j)
  have h1:=hi_lt (n / 10 ^ j) hN
  have hS:=Lib.hid (fun x=>hT.store hp x _ rfl (n / 10 ^ j / 10) (div_pow n j))
  have n0:=hT.n0
  have n1:=hT.n1
  have hX:=fun x=>hT.plus x
  have f0:=fun x=>(hX x).fn
  have f1:=fun x=>(hX x).fb
  have m0:=fun x=>(hX x).n0
  have m1:=fun x=>(hX x).n1
  have bp:=fun x=>(hX x).b p (by omega)
  generalize hNN:n / 10 ^ j = N at hD hd hq h0 h1 hS n0 n1 m0 m1
  generalize hdd:N % 10 = d at hD hd hS
  have hNN':=Lib.hid hNN
  have hp':=Lib.hid hp
  have hT':=Lib.hid hT
  have hlt:p < 39:=by omega
  clear hNN hdd hN hX hT hp
  go_wp2_with fail
  refine (hD.out wr).mono ?_
  rintro e w' ⟨rfl,x,rfl⟩
  go_wp2
  refine abs_world (T:=TInv w n (j + 1)) ?_ (hS.out x)
  intro W2 hW
  have hX:=fun x=>hW.plus x
  have n0:=fun x=>(hX x).n0
  have n1:=fun x=>(hX x).n1
  have hO:=Lib.hid (num_of 0 (by decide))
  have hSl:=slice_run (w.heap.size + 1) p hlt
  have hR:=Lib.hid (fun y=>text_run w (plus W2 y) n j p hp'.out (hX y))
  rw [← div_pow,hNN'.out] at n0 n1
  have hW':=Lib.hid hW
  clear hW hX
  by_cases hjJ:j = J
  ·have e0:N / 10 = 0:=by rw [← hNN'.out,div_pow,hjJ];exact hz'.out
   refine wp_region_own0 (by kernel_rfl) (by kernel_rfl) ?_
   repeat (go_big_quiet_step (exact hO.out.at _ _))
   refine wpQuiet_nil ?_
   rintro _ ⟨y,rfl⟩
   have hR':=fun y=>hR.out y
   go_wp2
   go_ret
   subst hjJ
   exact ⟨rfl,plus_of_below (hW'.out.plus y).below⟩
  ·have e0:¬ N / 10 = 0:=by rw [← hNN'.out,div_pow];exact hnz'.out j (by omega)
   refine wp_region_own0 (by kernel_rfl) (by kernel_rfl) ?_
   repeat (go_big_quiet_step (exact hO.out.at _ _))
   refine wpQuiet_nil ?_
   rintro _ ⟨y,rfl⟩
   go_wp2
   have hj':j < J:=by omega
   have h1:=hp'.out
   have hW2:=hW'.out.plus y
   go_roundw
   case rel=>exact ⟨j + 1,p - 1,by omega,by omega,by go_num,hW2⟩
   case measure=>simp [intOf];omega
abbrev decB (n:Nat):ByteArray:=⟨(Lib.decDigits n).toArray⟩
theorem decB_more (n:Nat) (h:¬ n < 10):decB (n / 10)++decB (n % 10) = decB n:=by
 have h1:Lib.decDigits n = Lib.decDigits (n / 10)++[UInt8.ofNat (48 + n % 10)]:=by rw [Lib.decDigits,dif_neg h]
 have h2:=Lib.decDigits_one (i:=n % 10) (by omega)
 unfold decB
 rw [h1,h2]
 apply ByteArray.ext
 simp
theorem dec_len (n:Nat) (h:n < 18446744073709551616):(Lib.decDigits n).length ≤ 20:=by rw [Lib.decDigits_length];exact Lib.nDigits_le20 n h
abbrev itoaB (n:Int):ByteArray:=⟨(Lib.itoa n).toArray⟩
/-- The library's table of powers of ten holds what the library's text says. -/
abbrev Tab (w:World):Prop:=Lib.TabIs Tryz.prog w "internal/strconv.uint64pow10" .u64 Lib.pow10Tab
theorem tab_plus {w:World} (h:Tab w) (x:Ext):Tab (plus w x):=by
 unfold Tab Lib.TabIs World.var? at *
 cases hg:Tryz.prog.globalNamed "internal/strconv.uint64pow10" with
 | none=>rw [hg] at h;cases h
 | some g =>
  rw [hg] at h
  cases ho:w.heap[g]? with
  | none=>simp [ho] at h
  | some o =>
   have hlt:g < w.heap.size:=(Array.getElem?_eq_some_iff.1 ho).1
   have e:(plus w x).heap[g]? = w.heap[g]?:=by simp [plus,Array.getElem?_append,hlt]
   simpa only [Option.bind_some,e] using h
/-- Pure, in worlds in which that table stands. -/
def Pure' (f:FuncId) (args:Array Value) (v:Value):Prop:=∀ w,Tab w → Calls Tryz.prog f args w fun e w'=>e = .returned v ∧ ∃ x,w' = plus w x
theorem lib_itoa (n:Int) (h0:-9223372036854775808 ≤ n) (h1:n ≤ 9223372036854775807):Pure' 43 #[.int .i64 n] (.string (itoaB n)):=by
 intro w hT
 refine (Tryz.strconv_Itoa n h0 h1 w hT).mono ?_
 rintro e w' ⟨rfl,k,os,rfl⟩
 exact ⟨rfl,⟨os,w.drawn + k⟩,rfl⟩
end Go.Proofs.YtbelaghcmgefaaaGreatDoor
