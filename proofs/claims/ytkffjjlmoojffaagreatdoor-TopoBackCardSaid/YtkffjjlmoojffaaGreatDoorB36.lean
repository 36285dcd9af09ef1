/-
  WHAT IS PROVED HERE: a part of the proof of the claim's theorem: NtG; NtH.
-/
import Derived.Test.YtkffjjlmoojffaaGreatDoorRows
import Derived.Test.YtkffjjlmoojffaaGreatDoorB35
import Derived.Lib.Builder
import Derived.Lib.AppendStr
import Derived.Lib.UnsafeStr
import Derived.Laws.AppendOwn
import Derived.OwnWalk
import Derived.WalkSpells
import Derived.WalkLawsBesides
import Derived.Laws.EntriesVeiled
set_option linter.all false
namespace Go.Proofs.YtkffjjlmoojffaaGreatDoor
open Go.RowKit
theorem byte_info : (Tryz.prog.info? 5).map (fun i => (i.zero, i.size, i.bytes)) = some (some (.int .u8 0), 1, 1) := by kernel_rfl
theorem builder_info : ∃ j, Tryz.prog.info? 75 = some j ∧ j.size ≠ 0 := by
  have h : (Tryz.prog.info? 75).map (fun i => decide (i.size ≠ 0)) = some true := by kernel_rfl
  obtain ⟨j, hj, hk⟩ := Option.map_eq_some_iff.1 h
  exact ⟨j, hj, of_decide_eq_true hk⟩
abbrev IsB (B b : Nat) (t : List UInt8) (v : World) : Prop := Lib.IsBuilder 75 5 B b (Lib.byteCells t) v
abbrev IsU (B b : Nat) (t : List UInt8) (v : World) : Prop := Lib.BuilderAt 75 5 B b (.pointer (some ⟨b, 0, none⟩)) (Lib.byteCells t) v
set_option maxHeartbeats 1000000 in
set_option maxRecDepth 100000 in
theorem bw_check (B b : Nat) (t : List UInt8) (v : World) (h : IsB B b t v) :
    Calls Tryz.prog 56 #[.pointer (some ⟨b, 0, none⟩)] v fun e v' => e = .returned (.tuple #[]) ∧ IsU B b t v' ∧ Below B v v' := by
  obtain ⟨j, hj, hjs⟩ := builder_info
  rcases h with h | h
  · have h0 := h.cell0
    have hfz := h.frozen0
    have hsh := h.shape
    have h' := Lib.hid h
    clear h
    go_enter Tryz.func56, Tryz.ntmps56
    go_wp2
    rw [Lib.run_to_unsafe v ⟨b, 0, none⟩ Tryz.underlying72 Tryz.underlying119 hj hjs hsh (show (0 : Nat) < 2 by decide)]
    simp only [Result.andThen]
    rw [Oper.upon_value]
    go_wp2
    rw [run_callFunc_extern Tryz.func81 (by kernel_rfl) (by kernel_rfl) (by kernel_rfl) (e := Extern.AbiNoEscape.same) (by kernel_rfl)]
    rw [Lib.run_noEscape]
    simp only [Result.andThen]
    rw [Oper.upon_value]
    go_wp2
    rw [Lib.run_from_unsafe v ⟨b, 0, none⟩ Tryz.underlying119 Tryz.underlying72 hj hsh (by kernel_rfl)]
    simp only [Result.andThen]
    rw [Oper.upon_value]
    go_wp2
    go_end0
    exact ⟨rfl, h'.out.used _, (Below.refl B v).setCell (p := ⟨b, 0, none⟩) h'.out.1 _⟩
  · have h0 := h.cell0
    have h' := Lib.hid h
    clear h
    go_enter Tryz.func56, Tryz.ntmps56
    go_wp2
    rw [Lib.run_neq_ptr_same v _ Tryz.underlying72 hj]
    go_wp2
    go_end0
    exact ⟨rfl, h'.out, Below.refl B v⟩
set_option maxHeartbeats 2000000 in
set_option maxRecDepth 100000 in
theorem bw_write (B b : Nat) (t : List UInt8) (s : ByteArray) (v : World) (h : IsB B b t v) (hlen : t.length + s.size ≤ 140737488355328) (hBv : B ≤ v.heap.size) :
    Calls Tryz.prog 31 #[.pointer (some ⟨b, 0, none⟩), .string s] v fun e v' => e = .returned (.tuple #[.int .i64 s.size, .nilIface]) ∧ IsB B b (t ++ s.data.toList) v' ∧ Below B v v' := by
  obtain ⟨i0, hi, hz0, hz1, hz2⟩ := info_parts byte_info
  have hk := Lib.hid (bw_check B b t v h)
  clear h
  go_enter Tryz.func31, Tryz.ntmps31
  go_wp2_with (go_at_call 56; refine hk.out.mono ?_)
  rintro e w1 ⟨rfl, h1, hb1⟩
  obtain ⟨hB, sl, hbk, hown, hne⟩ := h1
  have c0 : w1.cell? ⟨b, 0, none⟩ = some (.pointer (some ⟨b, 0, none⟩)) := by rw [Lib.cell_of_heap hbk]; rfl
  have c1 : w1.cell? ⟨b, 1, none⟩ = some sl := by rw [Lib.cell_of_heap hbk]; rfl
  have hown' := Lib.hid hown
  have hb1' := Lib.hid hb1
  have hs1 := hb1.size
  rw [Lib.byteCells_length] at hown
  clear hk
  go_wp2_with (at_builtin; refine Lib.wpList_append_own_string _ rfl _ _ 73 9 rfl B 5 i0 Tryz.underlying73 Tryz.underlying9 hi hz0 hz1 hz2 _ _ _ rfl hown s rfl ?c3 ?c4 ?c5 ?_)
  case c3 => unfold maxLen; omega
  case c4 => omega
  case c5 => omega
  intro v' w2 hown2 hgrow _
  have hlt : b < w1.heap.size := (Array.getElem?_eq_some_iff.1 hbk).1
  have hb2 : w2.heap[b]? = some (.cells #[.pointer (some ⟨b, 0, none⟩), sl] 75 (0, 0)) := by
    rw [hgrow.block b hlt (fun e => hne e.symm)]
    exact hbk
  have d0 : w2.cell? ⟨b, 0, none⟩ = some (.pointer (some ⟨b, 0, none⟩)) := by rw [Lib.cell_of_heap hb2]; rfl
  have d1 : w2.cell? ⟨b, 1, none⟩ = some sl := by rw [Lib.cell_of_heap hb2]; rfl
  have z1 : w2.frozen? ⟨b, 1, none⟩ = false := Lib.frozen_of_heap hb2 1
  obtain ⟨ao, n', cap, rfl⟩ : ∃ ao n' cap, v' = .slice ao n' cap := by
    rcases hown2.2 with ⟨hv, _⟩ | ⟨g, cap, cur, hv, _⟩
    · exact ⟨_, _, _, hv⟩
    · exact ⟨_, _, _, hv⟩
  have hB2 := Lib.hid (hb1.grown hgrow (by omega) (fun k hk => (hown.lt k hk).1))
  have hown3 : Hid (w2.ownsRow B 5 1 (.slice ao n' cap) (Lib.byteCells (t ++ s.data.toList)).length (Lib.byteCells (t ++ s.data.toList))) := Lib.hid (by
    have e1 : Lib.byteCells (t ++ s.data.toList) = Lib.byteCells t ++ Lib.strCells s := by simp [Lib.byteCells, Lib.strCells]
    have e2 : (Lib.byteCells (t ++ s.data.toList)).length = t.length + s.size := by rw [Lib.byteCells_length, List.length_append, Array.length_toList]; rfl
    rw [e2, e1]
    exact hown2)
  have hb2' := Lib.hid hb2
  clear hown hown2 hgrow hb2 hbk c0 c1 hlt hne hs1
  go_wp2
  go_ret2
  exact ⟨rfl, Or.inr (Lib.BuilderAt.put hB hb2'.out hown3.out (by decide)), hB2.out.setCell (p := ⟨b, 1, none⟩) hB _⟩
theorem IsB.alloc {B b : Nat} {t : List UInt8} {v : World} (h : IsB B b t v) (o : Obj) : IsB B b t (v.alloc o) := by
  have k : ∀ p, Lib.BuilderAt 75 5 B b p (Lib.byteCells t) v → Lib.BuilderAt 75 5 B b p (Lib.byteCells t) (v.alloc o) := by
    rintro p ⟨hB, sl, hbk, hown, hne⟩
    refine ⟨hB, sl, ?_, hown.alloc o, hne⟩
    have hlt := (Array.getElem?_eq_some_iff.1 hbk).1
    show (v.heap.push o)[b]? = _
    rw [Array.getElem?_push, if_neg (by omega)]
    exact hbk
  rcases h with h | h
  · exact Or.inl (k _ h)
  · exact Or.inr (k _ h)
theorem IsB.plus {B b : Nat} {t : List UInt8} {v : World} (h : IsB B b t v) (x : Ext) : IsB B b t (Go.Proofs.YtkffjjlmoojffaaGreatDoor.plus v x) := by
  have k : ∀ p, Lib.BuilderAt 75 5 B b p (Lib.byteCells t) v → Lib.BuilderAt 75 5 B b p (Lib.byteCells t) (Go.Proofs.YtkffjjlmoojffaaGreatDoor.plus v x) := by
    rintro p ⟨hB, sl, hbk, hown, hne⟩
    have hlt := (Array.getElem?_eq_some_iff.1 hbk).1
    exact ⟨hB, sl, ((below_plus v x).block b hlt).trans hbk, own_below hown (below_plus v x) (Nat.le_refl _), hne⟩
  rcases h with h | h
  · exact Or.inl (k _ h)
  · exact Or.inr (k _ h)
def endB (n : Net') (e : End') : ByteArray := (n.names[e.sw.toNat]?).getD ByteArray.empty ++ ⟨#[58]⟩ ++ itoaB e.po
set_option maxHeartbeats 2000000 in
theorem to_endText {w : World} (hT : Tab w) (sw po li : Value) (pvs : List Sl3) (n : Net') (h : NetO w sw po li pvs n) (e : End') (h0 : 0 ≤ e.sw) (h1 : e.sw < n.names.length) (h2 : 0 ≤ e.po) (h3 : e.po ≤ 511) (hz16 : ∀ x ∈ n.names, x.size ≤ 40) :
    Calls Tryz.prog 33 #[.agg #[sw, po, li], endV e] w (Back w (.string (endB n e))) := by
  obtain ⟨p1, c1, rfl, hc⟩ := h.sw
  obtain ⟨p2, c2, rfl, -⟩ := h.po.row
  obtain ⟨p3, c3, rfl, -⟩ := h.li
  obtain ⟨sw, q⟩ := e
  simp only at h0 h1 h2 h3
  obtain ⟨k, rfl⟩ : ∃ k : Nat, sw = (k : Int) := ⟨sw.toNat, by omega⟩
  have hk : k < n.names.length := by omega
  obtain ⟨x, hx⟩ : ∃ x, n.names[k]? = some x := ⟨_, List.getElem?_eq_getElem hk⟩
  obtain ⟨g, o, rfl, hg, hcell⟩ := hc k x hx
  have hxz := hz16 x (List.mem_of_getElem? hx)
  have hqz := itoa_len q (by omega) (by omega)
  have hxz1 : (x ++ (⟨#[58]⟩ : ByteArray)).size ≤ 41 := by rw [ByteArray.size_append]; show x.size + 1 ≤ 41; omega
  have hR : endB n ⟨(k : Int), q⟩ = x ++ ⟨#[58]⟩ ++ itoaB q := by
    unfold endB
    show (n.names[((k : Int)).toNat]?).getD ByteArray.empty ++ ⟨#[58]⟩ ++ itoaB q = _
    rw [show ((k : Int)).toNat = k by omega, hx]
    rfl
  rw [hR]
  obtain ⟨n1, hn1⟩ : ∃ n1, n.names.length = n1 := ⟨_, rfl⟩
  have hb1 := h.b1
  rw [hn1] at hk hb1 ⊢
  unfold endV
  simp only
  obtain ⟨W, hW, hBW, hz, ca, cb, fa, fb⟩ := box2 w #[.slice (some ⟨g, o, none⟩) n1 c1, .slice p2 pvs.length c2, .slice p3 n.links.length c3] #[.int .i64 (k : Int), .int .i64 q] 27 41
  have a0 := ca 0 _ rfl
  have b0 := cb 0 _ rfl
  have b1 := cb 1 _ rfl
  have d0 := fun y => ((below_plus W y).cell (p := ⟨g, o + k, none⟩) (Nat.lt_of_lt_of_le hg hBW.size)).trans ((hBW.cell (p := ⟨g, o + k, none⟩) hg).trans (show w.cell? ⟨g, o + k, none⟩ = some (.string x) by simpa using hcell 0 _ rfl))
  have hI := Lib.hid (fun y => (lib_itoa q (by omega) (by omega)).at W (by
    obtain ⟨z, hz⟩ := plus_of_below hBW
    rw [hz]; exact tab_plus hT z) y)
  have hfin : Hid (∀ y : Ext, ∃ x, Go.Proofs.YtkffjjlmoojffaaGreatDoor.plus W y = Go.Proofs.YtkffjjlmoojffaaGreatDoor.plus w x) := Lib.hid fun y => plus_of_below (hBW.trans ((below_plus W y).mono hBW.size))
  have k0 : ¬ ((k : Int) < 0) := by omega
  have k1 : (k : Int) < (n1 : Int) := by omega
  clear hz16 hc hcell hx hR hn1 h ca cb fa fb hz hBW h1
  generalize itoaB q = tq at hI hqz ⊢
  go_enter Tryz.func33, Tryz.ntmps33
  go_upto_region 1 with (fail)
  rw [← hW]
  clear hW
  refine wp_region_own_tail0 11 (by kernel_rfl) (by kernel_rfl) ?_
  simp only [List.take_succ_cons, List.take_zero, List.drop_succ_cons, List.drop_zero]
  repeat (go_big_quiet_step (first | (with_reducible exact hI.out _)))
  refine wpQuiet_nil ?_
  rintro _ ⟨y, rfl⟩
  go_wp2
  go_ret
  exact ⟨rfl, hfin.out _⟩
end Go.Proofs.YtkffjjlmoojffaaGreatDoor
namespace Go.Proofs.YtkffjjlmoojffaaGreatDoor
open Go.RowKit
def headB (name : ByteArray) : ByteArray := (⟨#[115, 119, 105, 116, 99, 104, 32]⟩ : ByteArray) ++ name ++ ⟨#[32, 123]⟩
def portB (p : Int) : ByteArray := (⟨#[32]⟩ : ByteArray) ++ itoaB p ++ ⟨#[59]⟩
def footB : ByteArray := ⟨#[32, 125, 10]⟩
def linkB (n : Net') (x : End' × End') : ByteArray := (⟨#[108, 105, 110, 107, 32]⟩ : ByteArray) ++ endB n x.1 ++ ⟨#[32]⟩ ++ endB n x.2 ++ ⟨#[59, 10]⟩
def portsL (ps : List Int) : List UInt8 := ps.flatMap fun p => (portB p).data.toList
def swL (x : ByteArray × List Int) : List UInt8 := (headB x.1).data.toList ++ portsL x.2 ++ footB.data.toList
def swsL (l : List (ByteArray × List Int)) : List UInt8 := l.flatMap swL
def linksL (n : Net') (l : List (End' × End')) : List UInt8 := l.flatMap fun x => (linkB n x).data.toList
def textL (n : Net') : List UInt8 := swsL (n.names.zip n.ports) ++ linksL n n.links
theorem psMay_in : ∀ (l : List Int) (m : Int), psMay m l = true → ∀ p ∈ l, m ≤ p ∧ p ≤ 511
  | [], _, _, p, h => by cases h
  | q :: l, m, hm, p, h => by
    rw [psMay, Bool.and_eq_true, Bool.and_eq_true, decide_eq_true_eq, decide_eq_true_eq] at hm
    rcases List.mem_cons.1 h with rfl | h
    · exact hm.1
    · have := psMay_in l (q + 1) hm.2 p h
      exact ⟨by omega, this.2⟩
theorem portsMay_at {ports : List (List Int)} (h : portsMay ports = true) {k : Nat} {ps : List Int} (hk : ports[k]? = some ps) : ps.length ≤ 8 ∧ psMay 1 ps = true ∧ ∀ p ∈ ps, 1 ≤ p ∧ p ≤ 511 := by
  unfold portsMay at h
  rw [List.all_eq_true] at h
  have := h ps (List.mem_of_getElem? hk)
  rw [Bool.and_eq_true, decide_eq_true_eq] at this
  exact ⟨this.1, this.2, psMay_in ps 1 this.2⟩
theorem endsMay_there (n : Net') : ∀ (l done : List End'), endsMay n done l = true → ∀ e ∈ l, thereF n e = true
  | [], _, _, e, h => by cases h
  | x :: l, done, hm, e, h => by
    rw [endsMay, Bool.and_eq_true, Bool.and_eq_true] at hm
    rcases List.mem_cons.1 h with rfl | h
    · exact hm.1.1
    · exact endsMay_there n l _ hm.2 e h
structure MayN (n : Net') : Prop where
  a : n.names.length ≤ 8
  p : n.ports.length = n.names.length
  ps : portsMay n.ports = true
  ends : ∀ x ∈ n.links, thereF n x.1 = true ∧ thereF n x.2 = true
theorem mayN {n : Net'} (h : netMay n = true) : MayN n := by
  unfold netMay at h
  simp only [Bool.and_eq_true, decide_eq_true_eq] at h
  obtain ⟨⟨⟨⟨a1, _⟩, a3⟩, a4⟩, a5⟩ := h
  refine ⟨a1, a3, a4, fun x hx => ?_⟩
  have := endsMay_there n _ _ a5
  exact ⟨this x.1 (List.mem_flatMap.2 ⟨x, hx, List.mem_cons_self ..⟩), this x.2 (List.mem_flatMap.2 ⟨x, hx, List.mem_cons_of_mem _ (List.mem_cons_self ..)⟩)⟩
theorem thereF_in {n : Net'} (hm : MayN n) {e : End'} (h : thereF n e = true) : 0 ≤ e.sw ∧ e.sw < n.names.length ∧ 1 ≤ e.po ∧ e.po ≤ 511 := by
  unfold thereF at h
  simp only [Bool.and_eq_true, decide_eq_true_eq] at h
  obtain ⟨⟨⟨h1, h2⟩, h3⟩, h4⟩ := h
  obtain ⟨ps, hps⟩ : ∃ ps, n.ports[e.sw.toNat]? = some ps := ⟨_, List.getElem?_eq_getElem (by omega)⟩
  rw [hps] at h4
  have := (portsMay_at hm.ps hps).2.2 e.po h4
  exact ⟨h1, h2, this.1, this.2⟩
theorem headB_size {x : ByteArray} (h : x.size ≤ 40) : (headB x).size ≤ 49 := by
  unfold headB
  rw [ByteArray.size_append, ByteArray.size_append]
  show 7 + x.size + 2 ≤ 49
  omega
theorem portB_size {p : Int} (h0 : 1 ≤ p) (h1 : p ≤ 511) : (portB p).size ≤ 23 := by
  unfold portB
  have := itoa_len p (by omega) (by omega)
  rw [ByteArray.size_append, ByteArray.size_append]
  show 1 + _ + 1 ≤ 23
  omega
theorem endB_size {n : Net'} (hz : ∀ x ∈ n.names, x.size ≤ 40) {e : End'} (h0 : 1 ≤ e.po) (h1 : e.po ≤ 511) : (endB n e).size ≤ 62 := by
  unfold endB
  have := itoa_len e.po (by omega) (by omega)
  have h2 : ((n.names[e.sw.toNat]?).getD ByteArray.empty).size ≤ 40 := by
    cases hx : n.names[e.sw.toNat]? with
    | none => exact Nat.zero_le _
    | some x => exact hz x (List.mem_of_getElem? hx)
  rw [ByteArray.size_append, ByteArray.size_append]
  show _ + 1 + _ ≤ 62
  omega
theorem linkB_size {n : Net'} {x : End' × End'} (h1 : (endB n x.1).size ≤ 62) (h2 : (endB n x.2).size ≤ 62) : (linkB n x).size ≤ 132 := by
  unfold linkB
  rw [ByteArray.size_append, ByteArray.size_append, ByteArray.size_append, ByteArray.size_append]
  show 5 + _ + 1 + _ + 2 ≤ 132
  omega
theorem toList_size (s : ByteArray) : s.data.toList.length = s.size := Array.length_toList
structure TI (V : World) (t : List UInt8) (wr : World) : Prop where
  below : Below V.heap.size V wr
  b : IsB V.heap.size V.heap.size t wr
theorem TI.step {V wr w' : World} {t t' : List UInt8} (h : TI V t wr) (hb : Below V.heap.size wr w') (hB : IsB V.heap.size V.heap.size t' w') : TI V t' w' := ⟨h.below.trans hb, hB⟩
theorem TI.alloc {V wr : World} {t : List UInt8} (h : TI V t wr) (o : Obj) : TI V t (wr.alloc o) := ⟨h.below.alloc h.below.size o, h.b.alloc o⟩
theorem TI.plus {V wr : World} {t : List UInt8} (h : TI V t wr) (x : Ext) : TI V t (Go.Proofs.YtkffjjlmoojffaaGreatDoor.plus wr x) := ⟨h.below.trans ((below_plus wr x).mono h.below.size), h.b.plus x⟩
theorem Tab.below {w w' : World} (h : Tab w) (hB : Below w.heap.size w w') : Tab w' := by
  obtain ⟨z, hz⟩ := plus_of_below hB
  rw [hz]; exact tab_plus h z
theorem swsL_take {l : List (ByteArray × List Int)} {k : Nat} {x : ByteArray × List Int} (h : l[k]? = some x) : swsL (l.take (k + 1)) = swsL (l.take k) ++ swL x := by
  obtain ⟨h1, h2⟩ := List.getElem?_eq_some_iff.1 h
  unfold swsL
  rw [List.take_succ_eq_append_getElem h1, h2, List.flatMap_append]; simp
theorem portsL_take {l : List Int} {k : Nat} {x : Int} (h : l[k]? = some x) : portsL (l.take (k + 1)) = portsL (l.take k) ++ (portB x).data.toList := by
  obtain ⟨h1, h2⟩ := List.getElem?_eq_some_iff.1 h
  unfold portsL
  rw [List.take_succ_eq_append_getElem h1, h2, List.flatMap_append]; simp
theorem linksL_take {n : Net'} {l : List (End' × End')} {k : Nat} {x : End' × End'} (h : l[k]? = some x) : linksL n (l.take (k + 1)) = linksL n (l.take k) ++ (linkB n x).data.toList := by
  obtain ⟨h1, h2⟩ := List.getElem?_eq_some_iff.1 h
  unfold linksL
  rw [List.take_succ_eq_append_getElem h1, h2, List.flatMap_append]; simp
end Go.Proofs.YtkffjjlmoojffaaGreatDoor
