/-
  WHAT IS PROVED HERE: what the landed resolve's look-ups by name hand back. Written by gen/zc.py.
-/
import Derived.Test.YtlmhldcebllckaaGreatRows
import Derived.Test.YtlmhldcebllckaaGreatZb
import Derived.Test.YtlmhldcebllckaaGreatGE
import Derived.WalkKit
import Derived.Lib.Hide
import Derived.WalkSpells
import Derived.WalkLawsBesides
namespace Go.Proofs.YtlmhldcebllckaaGreat
open Go.RowKit
theorem cells_up {V W : World} {z : Ext} {a : Addr} {cs : List Value} (hz : W = plus V z) (h : CellsAt V a cs) : CellsAt W a cs := by rw [hz]; exact h.plus z
/-- Where the first one of a name is. -/
def hdI (l : List Hr) (s : ByteArray) : Int := firstI (fun x => x.name.toList == s.toList) l 0
def saI (l : List Sa) (s : ByteArray) : Int := firstI (fun x => x.name.toList == s.toList) l 0
def acI (l : List Ac) (s : ByteArray) : Int := firstI (fun x => x.name.toList == s.toList) l 0
def taI (l : List Ta) (s : ByteArray) : Int := firstI (fun x => x.name.toList == s.toList) l 0
def fdI (l : List Fd) (s : ByteArray) : Int := firstI (fun x => x.name.toList == s.toList) l 0
def nmI (l : List ByteArray) (s : ByteArray) : Int := firstI (fun x => x.toList == s.toList) l 0
theorem firstI_ge {α : Type} (q : α → Bool) : ∀ (l : List α) (k : Nat), firstI q l k = -1 ∨ ((k : Int) ≤ firstI q l k ∧ firstI q l k < (k : Int) + (l.length : Int))
  | [], _ => .inl rfl
  | x :: l, k => by
    unfold firstI
    split
    · right; simp only [List.length_cons]; omega
    · rcases firstI_ge q l (k + 1) with h | ⟨h1, h2⟩
      · exact .inl h
      · right; simp only [List.length_cons]; omega
set_option maxRecDepth 100000 in
set_option maxHeartbeats 4000000 in
theorem res_Header (p1 : Option Addr) (n1 c1 : Nat) (p2 : Option Addr) (n2 c2 : Nat) (p3 : Option Addr) (n3 c3 : Nat) (p4 : Option Addr) (n4 c4 : Nat) (p5 : Option Addr) (n5 c5 : Nat) (p6 : Option Addr) (n6 c6 : Nat) (K : Hr → Prop) (A : Sl Hr) (nm : ByteArray) (w : World) (hA : A.In w 2 Hr.cells K) (hl : A.l.length ≤ 1048576) : Kp Tryz.prog w 10 #[.agg #[A.v, .slice p1 n1 c1, .slice p2 n2 c2, .slice p3 n3 c3, .slice p4 n4 c4, .slice p5 n5 c5, .slice p6 n6 c6], .string nm] (.int .i64 (hdI A.l nm)) := by
  intro y0
  have hA := hA.plus (fun _ a => a) y0
  obtain ⟨V, hV⟩ : ∃ V, plus w y0 = V := ⟨_, rfl⟩
  rw [hV] at hA ⊢
  clear hV
  have hA' := Lib.hid hA
  have hl' := Lib.hid hl
  clear hA hl
  obtain ⟨ap, ac, al⟩ := A
  simp only [Sl.v]
  obtain ⟨n, hn⟩ : ∃ n, al.length = n := ⟨_, rfl⟩
  rw [hn]
  have hn' := Lib.hid hn
  clear hn
  go_enter Tryz.func10, Tryz.ntmps10
  go_upto_region 1 with (fail)
  obtain ⟨W, yy, hW, ⟨z, hz⟩, ca, cb⟩ := box2n V _ _ 30 9
  rw [hW]
  have b0 := ca 0 _ rfl
  have d0 := cb 0 _ rfl ⟨#[], W.drawn⟩
  rw [plus_self] at d0
  have hcall := (first_Header Hr.cells shp_hr (fun x => x.name.toList == nm.toList) 27 #[] #[.pointer (some ⟨V.heap.size + 1, 0, none⟩)] K W ⟨ap, ac, al⟩ (by rw [hz]; exact hA'.out.plus (fun _ a => a) z) hl'.out (enters_of Tryz.func27 (by kernel_rfl) rfl) (fun x _ => lit_Header (V.heap.size + 1) nm _ _ _ _ W d0)).pure
  simp only [Sl.v] at hcall
  rw [hn'.out] at hcall
  have hc := Lib.hid hcall
  have hz2 := Lib.hid hz
  clear hW hz ca cb d0 hcall hA' hl' hn'
  go_wp2_with (first | (go_at_call 26; with_reducible refine (hc.out _).mono ?_; rintro r w' ⟨rfl, x, rfl⟩))
  go_ret
  exact ⟨rfl, by rw [hz2.out, plus_plus]; exact ⟨_, rfl⟩⟩
set_option maxRecDepth 100000 in
set_option maxHeartbeats 4000000 in
theorem res_Action (p0 : Option Addr) (n0 c0 : Nat) (p1 : Option Addr) (n1 c1 : Nat) (p2 : Option Addr) (n2 c2 : Nat) (p4 : Option Addr) (n4 c4 : Nat) (p5 : Option Addr) (n5 c5 : Nat) (p6 : Option Addr) (n6 c6 : Nat) (K : Ac → Prop) (A : Sl Ac) (nm : ByteArray) (w : World) (hA : A.In w 3 Ac.cells K) (hl : A.l.length ≤ 1048576) : Kp Tryz.prog w 12 #[.agg #[.slice p0 n0 c0, .slice p1 n1 c1, .slice p2 n2 c2, A.v, .slice p4 n4 c4, .slice p5 n5 c5, .slice p6 n6 c6], .string nm] (.int .i64 (acI A.l nm)) := by
  intro y0
  have hA := hA.plus (fun _ a => a) y0
  obtain ⟨V, hV⟩ : ∃ V, plus w y0 = V := ⟨_, rfl⟩
  rw [hV] at hA ⊢
  clear hV
  have hA' := Lib.hid hA
  have hl' := Lib.hid hl
  clear hA hl
  obtain ⟨ap, ac, al⟩ := A
  simp only [Sl.v]
  obtain ⟨n, hn⟩ : ∃ n, al.length = n := ⟨_, rfl⟩
  rw [hn]
  have hn' := Lib.hid hn
  clear hn
  go_enter Tryz.func12, Tryz.ntmps12
  go_upto_region 1 with (fail)
  obtain ⟨W, yy, hW, ⟨z, hz⟩, ca, cb⟩ := box2n V _ _ 30 9
  rw [hW]
  have b3 := ca 3 _ rfl
  have d0 := cb 0 _ rfl ⟨#[], W.drawn⟩
  rw [plus_self] at d0
  have hcall := (first_Action Ac.cells shp_ac (fun x => x.name.toList == nm.toList) 29 #[] #[.pointer (some ⟨V.heap.size + 1, 0, none⟩)] K W ⟨ap, ac, al⟩ (by rw [hz]; exact hA'.out.plus (fun _ a => a) z) hl'.out (enters_of Tryz.func29 (by kernel_rfl) rfl) (fun x _ => lit_Action (V.heap.size + 1) nm _ _ _ _ _ _ _ W d0)).pure
  simp only [Sl.v] at hcall
  rw [hn'.out] at hcall
  have hc := Lib.hid hcall
  have hz2 := Lib.hid hz
  clear hW hz ca cb d0 hcall hA' hl' hn'
  go_wp2_with (first | (go_at_call 28; with_reducible refine (hc.out _).mono ?_; rintro r w' ⟨rfl, x, rfl⟩))
  go_ret
  exact ⟨rfl, by rw [hz2.out, plus_plus]; exact ⟨_, rfl⟩⟩
set_option maxRecDepth 100000 in
set_option maxHeartbeats 4000000 in
theorem res_Table (p0 : Option Addr) (n0 c0 : Nat) (p1 : Option Addr) (n1 c1 : Nat) (p2 : Option Addr) (n2 c2 : Nat) (p3 : Option Addr) (n3 c3 : Nat) (p5 : Option Addr) (n5 c5 : Nat) (p6 : Option Addr) (n6 c6 : Nat) (K : Ta → Prop) (A : Sl Ta) (nm : ByteArray) (w : World) (hA : A.In w 5 Ta.cells K) (hl : A.l.length ≤ 1048576) : Kp Tryz.prog w 13 #[.agg #[.slice p0 n0 c0, .slice p1 n1 c1, .slice p2 n2 c2, .slice p3 n3 c3, A.v, .slice p5 n5 c5, .slice p6 n6 c6], .string nm] (.int .i64 (taI A.l nm)) := by
  intro y0
  have hA := hA.plus (fun _ a => a) y0
  obtain ⟨V, hV⟩ : ∃ V, plus w y0 = V := ⟨_, rfl⟩
  rw [hV] at hA ⊢
  clear hV
  have hA' := Lib.hid hA
  have hl' := Lib.hid hl
  clear hA hl
  obtain ⟨ap, ac, al⟩ := A
  simp only [Sl.v]
  obtain ⟨n, hn⟩ : ∃ n, al.length = n := ⟨_, rfl⟩
  rw [hn]
  have hn' := Lib.hid hn
  clear hn
  go_enter Tryz.func13, Tryz.ntmps13
  go_upto_region 1 with (fail)
  obtain ⟨W, yy, hW, ⟨z, hz⟩, ca, cb⟩ := box2n V _ _ 30 9
  rw [hW]
  have b4 := ca 4 _ rfl
  have d0 := cb 0 _ rfl ⟨#[], W.drawn⟩
  rw [plus_self] at d0
  have hcall := (first_Table Ta.cells shp_ta (fun x => x.name.toList == nm.toList) 31 #[] #[.pointer (some ⟨V.heap.size + 1, 0, none⟩)] K W ⟨ap, ac, al⟩ (by rw [hz]; exact hA'.out.plus (fun _ a => a) z) hl'.out (enters_of Tryz.func31 (by kernel_rfl) rfl) (fun x _ => lit_Table (V.heap.size + 1) nm _ _ _ _ _ _ _ _ _ _ _ W d0)).pure
  simp only [Sl.v] at hcall
  rw [hn'.out] at hcall
  have hc := Lib.hid hcall
  have hz2 := Lib.hid hz
  clear hW hz ca cb d0 hcall hA' hl' hn'
  go_wp2_with (first | (go_at_call 30; with_reducible refine (hc.out _).mono ?_; rintro r w' ⟨rfl, x, rfl⟩))
  go_ret
  exact ⟨rfl, by rw [hz2.out, plus_plus]; exact ⟨_, rfl⟩⟩
set_option maxRecDepth 100000 in
set_option maxHeartbeats 4000000 in
theorem res_firstField (K : Fd → Prop) (A : Sl Fd) (nm : ByteArray) (w : World) (hA : A.In w 2 Fd.cells K) (hl : A.l.length ≤ 1048576) : Kp Tryz.prog w 107 #[A.v, .string nm] (.int .i64 (fdI A.l nm)) := by
  intro y0
  have hA := hA.plus (fun _ a => a) y0
  obtain ⟨V, hV⟩ : ∃ V, plus w y0 = V := ⟨_, rfl⟩
  rw [hV] at hA ⊢
  clear hV
  have hA' := Lib.hid hA
  have hl' := Lib.hid hl
  clear hA hl
  obtain ⟨ap, ac, al⟩ := A
  simp only [Sl.v]
  obtain ⟨n, hn⟩ : ∃ n, al.length = n := ⟨_, rfl⟩
  rw [hn]
  have hn' := Lib.hid hn
  clear hn
  go_enter Tryz.func107, Tryz.ntmps107
  go_upto_region 1 with (fail)
  obtain ⟨W, yy, hW, ⟨z, hz⟩, cb⟩ := box1n V _ 9
  rw [hW]
  have d0 := cb 0 _ rfl ⟨#[], W.drawn⟩
  rw [plus_self] at d0
  have hcall := (first_Field Fd.cells shp_fd (fun x => x.name.toList == nm.toList) 144 #[] #[.pointer (some ⟨V.heap.size, 0, none⟩)] K W ⟨ap, ac, al⟩ (by rw [hz]; exact hA'.out.plus (fun _ a => a) z) hl'.out (enters_of Tryz.func144 (by kernel_rfl) rfl) (fun x _ => lit_Field V.heap.size nm _ _ W d0)).pure
  simp only [Sl.v] at hcall
  rw [hn'.out] at hcall
  have hc := Lib.hid hcall
  have hz2 := Lib.hid hz
  clear hW hz cb d0 hcall hA' hl' hn'
  go_wp2_with (first | (go_at_call 143; with_reducible refine (hc.out _).mono ?_; rintro r w' ⟨rfl, x, rfl⟩))
  go_ret
  exact ⟨rfl, by rw [hz2.out, plus_plus]; exact ⟨_, rfl⟩⟩
set_option maxRecDepth 100000 in
set_option maxHeartbeats 4000000 in
theorem res_firstName (K : ByteArray → Prop) (A : Sl ByteArray) (nm : ByteArray) (w : World) (hA : A.In w 1 strCells K) (hl : A.l.length ≤ 1048576) : Kp Tryz.prog w 113 #[A.v, .string nm] (.int .i64 (nmI A.l nm)) := by
  intro y0
  have hA := hA.plus (fun _ a => a) y0
  obtain ⟨V, hV⟩ : ∃ V, plus w y0 = V := ⟨_, rfl⟩
  rw [hV] at hA ⊢
  clear hV
  have hA' := Lib.hid hA
  have hl' := Lib.hid hl
  clear hA hl
  obtain ⟨ap, ac, al⟩ := A
  simp only [Sl.v]
  obtain ⟨n, hn⟩ : ∃ n, al.length = n := ⟨_, rfl⟩
  rw [hn]
  have hn' := Lib.hid hn
  clear hn
  go_enter Tryz.func113, Tryz.ntmps113
  go_upto_region 1 with (fail)
  obtain ⟨W, yy, hW, ⟨z, hz⟩, cb⟩ := box1n V _ 9
  rw [hW]
  have d0 := cb 0 _ rfl ⟨#[], W.drawn⟩
  rw [plus_self] at d0
  have hcall := (first_string (fun x => x.toList == nm.toList) 146 #[] #[.pointer (some ⟨V.heap.size, 0, none⟩)] K W ⟨ap, ac, al⟩ (by rw [hz]; exact hA'.out.plus (fun _ a => a) z) hl'.out (enters_of Tryz.func146 (by kernel_rfl) rfl) (fun x _ => lit_string V.heap.size nm _ W d0)).pure
  simp only [Sl.v] at hcall
  rw [hn'.out] at hcall
  have hc := Lib.hid hcall
  have hz2 := Lib.hid hz
  clear hW hz cb d0 hcall hA' hl' hn'
  go_wp2_with (first | (go_at_call 145; with_reducible refine (hc.out _).mono ?_; rintro r w' ⟨rfl, x, rfl⟩))
  go_ret
  exact ⟨rfl, by rw [hz2.out, plus_plus]; exact ⟨_, rfl⟩⟩
set_option maxRecDepth 100000 in
set_option maxHeartbeats 4000000 in
theorem res_Meta (p0 : Option Addr) (n0 c0 : Nat) (p2 : Option Addr) (n2 c2 : Nat) (p3 : Option Addr) (n3 c3 : Nat) (p4 : Option Addr) (n4 c4 : Nat) (p5 : Option Addr) (n5 c5 : Nat) (p6 : Option Addr) (n6 c6 : Nat) (K : Fd → Prop) (A : Sl Fd) (nm : ByteArray) (w : World) (hA : A.In w 2 Fd.cells K) (hl : A.l.length ≤ 1048576) : Kp Tryz.prog w 66 #[.agg #[.slice p0 n0 c0, A.v, .slice p2 n2 c2, .slice p3 n3 c3, .slice p4 n4 c4, .slice p5 n5 c5, .slice p6 n6 c6], .string nm] (.int .i64 (fdI A.l nm)) := by
  intro y0
  have hc := (res_firstField K A nm w hA hl).up y0
  obtain ⟨V, hV⟩ : ∃ V, plus w y0 = V := ⟨_, rfl⟩
  rw [hV] at hc ⊢
  clear hV hA hl
  obtain ⟨ap, ac, al⟩ := A
  simp only [Sl.v] at hc ⊢
  obtain ⟨n, hn⟩ : ∃ n, al.length = n := ⟨_, rfl⟩
  rw [hn] at hc ⊢
  have hc' := Lib.hid hc
  clear hn hc
  go_enter Tryz.func66, Tryz.ntmps66
  go_upto_region 1 with (fail)
  obtain ⟨W, yy, hW, ⟨z, hz⟩, ca⟩ := box1n V _ 30
  rw [hW]
  have b1 := ca 1 _ rfl
  have qc := Lib.hid (kp_at hz hc'.out)
  have hz2 := Lib.hid hz
  clear hW hz ca hc'
  go_wp2_with (first | (go_at_call 107; with_reducible refine (qc.out _).mono ?_; rintro r w' ⟨rfl, x, rfl⟩))
  go_ret
  exact ⟨rfl, by rw [hz2.out, plus_plus]; exact ⟨_, rfl⟩⟩
/-- A state's number, and whether there is one. -/
def stI (l : List Sa) (s : ByteArray) : Int × Bool :=
  if s.toList == [97, 99, 99, 101, 112, 116] then (-1, true) else if s.toList == [114, 101, 106, 101, 99, 116] then (-2, true) else if saI l s == -1 then (0, false) else (saI l s, true)
set_option maxRecDepth 100000 in
set_option maxHeartbeats 4000000 in
theorem res_State (p0 : Option Addr) (n0 c0 : Nat) (p1 : Option Addr) (n1 c1 : Nat) (p3 : Option Addr) (n3 c3 : Nat) (p4 : Option Addr) (n4 c4 : Nat) (p5 : Option Addr) (n5 c5 : Nat) (p6 : Option Addr) (n6 c6 : Nat) (K : Sa → Prop) (A : Sl Sa) (nm : ByteArray) (w : World) (hA : A.In w 5 Sa.cells K) (hl : A.l.length ≤ 1048576) : Kp Tryz.prog w 14 #[.agg #[.slice p0 n0 c0, .slice p1 n1 c1, A.v, .slice p3 n3 c3, .slice p4 n4 c4, .slice p5 n5 c5, .slice p6 n6 c6], .string nm] (.tuple #[.int .i64 (stI A.l nm).1, .bool (stI A.l nm).2]) := by
  intro y0
  have hA := hA.plus (fun _ a => a) y0
  obtain ⟨V, hV⟩ : ∃ V, plus w y0 = V := ⟨_, rfl⟩
  rw [hV] at hA ⊢
  clear hV
  have hA' := Lib.hid hA
  have hl' := Lib.hid hl
  clear hA hl
  obtain ⟨ap, ac, al⟩ := A
  simp only [Sl.v]
  obtain ⟨n, hn⟩ : ∃ n, al.length = n := ⟨_, rfl⟩
  rw [hn]
  have hn' := Lib.hid hn
  clear hn
  obtain ⟨R, hR⟩ : ∃ R, stI al nm = R := ⟨_, rfl⟩
  rw [hR]
  have hR' := Lib.hid hR
  clear hR
  go_enter Tryz.func14, Tryz.ntmps14
  go_upto_region 1 with (fail)
  obtain ⟨W, yy, hW, ⟨z, hz⟩, ca, cb⟩ := box2n V _ _ 30 9
  rw [hW]
  have b2 := ca 2 _ rfl
  have e0 := cb 0 _ rfl
  have d0 := cb 0 _ rfl ⟨#[], W.drawn⟩
  rw [plus_self] at d0
  have hcall := (first_State Sa.cells shp_sa (fun x => x.name.toList == nm.toList) 33 #[] #[.pointer (some ⟨V.heap.size + 1, 0, none⟩)] K W ⟨ap, ac, al⟩ (by rw [hz]; exact hA'.out.plus (fun _ a => a) z) hl'.out (enters_of Tryz.func33 (by kernel_rfl) rfl) (fun x _ => lit_State (V.heap.size + 1) nm _ _ _ _ _ _ _ _ _ _ _ W d0)).pure
  simp only [Sl.v] at hcall
  rw [hn'.out] at hcall
  have hI := Lib.hid (show firstI (fun x => x.name.toList == nm.toList) al 0 = saI al nm from rfl)
  rw [hI.out] at hcall
  have hc := Lib.hid hcall
  have hz2 := Lib.hid hz
  clear hW hz ca cb d0 hcall hA' hl' hn' hI
  have hR := hR'.out
  unfold stI at hR
  by_cases q1 : (nm.toList == [97, 99, 99, 101, 112, 116]) = true
  · rw [if_pos q1] at hR
    have hR2 := Lib.hid hR
    clear hR hR' hc
    go_wp2
    go_ret2
    exact ⟨by rw [← hR2.out] <;> rfl, by rw [hz2.out, plus_plus]; exact ⟨_, rfl⟩⟩
  have q1 : (nm.toList == [97, 99, 99, 101, 112, 116]) = false := by simpa using q1
  rw [if_neg (by rw [q1]; decide)] at hR
  by_cases q2 : (nm.toList == [114, 101, 106, 101, 99, 116]) = true
  · rw [if_pos q2] at hR
    have hR2 := Lib.hid hR
    clear hR hR' hc
    go_wp2
    go_ret2
    exact ⟨by rw [← hR2.out] <;> rfl, by rw [hz2.out, plus_plus]; exact ⟨_, rfl⟩⟩
  have q2 : (nm.toList == [114, 101, 106, 101, 99, 116]) = false := by simpa using q2
  rw [if_neg (by rw [q2]; decide)] at hR
  obtain ⟨I, hI⟩ : ∃ I, saI al nm = I := ⟨_, rfl⟩
  rw [hI] at hR hc
  clear hI hR'
  by_cases q3 : I = -1
  · rw [q3] at hR hc
    have hR2 := Lib.hid hR
    clear hR q3
    go_wp2_with (first | (go_at_call 32; with_reducible refine (hc.out _).mono ?_; rintro r w' ⟨rfl, x, rfl⟩))
    go_ret2
    exact ⟨by rw [← hR2.out] <;> rfl, by rw [hz2.out, plus_plus]; exact ⟨_, rfl⟩⟩
  · rw [if_neg (by simpa using q3)] at hR
    have hR2 := Lib.hid hR
    have q4 : (I == -1) = false := by simpa using q3
    clear hR
    go_wp2_with (first | (go_at_call 32; with_reducible refine (hc.out _).mono ?_; rintro r w' ⟨rfl, x, rfl⟩))
    go_ret2
    exact ⟨by rw [← hR2.out] <;> rfl, by rw [hz2.out, plus_plus]; exact ⟨_, rfl⟩⟩
end Go.Proofs.YtlmhldcebllckaaGreat
