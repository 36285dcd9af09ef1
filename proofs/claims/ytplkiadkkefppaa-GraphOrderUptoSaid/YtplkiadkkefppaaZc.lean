/-
  WHAT IS PROVED HERE: what the landed resolve's look-ups by name hand back. Written by gen/zc.py.
-/
import Derived.Test.YtplkiadkkefppaaRows
import Derived.Test.YtplkiadkkefppaaZb
import Derived.Test.YtplkiadkkefppaaGE
import Derived.WalkKit
import Derived.Lib.Hide
import Derived.WalkSpells
import Derived.WalkLawsBesides
namespace Go.Proofs.Ytplkiadkkefppaa
open Go.RowKit
theorem cells_up {V W : World} {z : Ext} {a : Addr} {cs : List Value} (hz : W = plus V z) (h : CellsAt V a cs) : CellsAt W a cs := by rw [hz]; exact h.plus z
/-- Where the first one of a name is. -/
def hdI (l : List Hr) (s : ByteArray) : Int := firstI (fun x => x.name.toList == s.toList) l 0
def saI (l : List Sa) (s : ByteArray) : Int := firstI (fun x => x.name.toList == s.toList) l 0
def acI (l : List Ac) (s : ByteArray) : Int := firstI (fun x => x.name.toList == s.toList) l 0
def taI (l : List Ta) (s : ByteArray) : Int := firstI (fun x => x.name.toList == s.toList) l 0
def fdI (l : List Fd) (s : ByteArray) : Int := firstI (fun x => x.name.toList == s.toList) l 0
def nmI (l : List ByteArray) (s : ByteArray) : Int := firstI (fun x => x.toList == s.toList) l 0
theorem firstI_ge {α : Type} (q : α → Bool) : ∀ (l : List α) (k : Nat), firstI q l k = -1 ∨ ((k : Int) ≤ firstI q l k ∧ firstI q l k < (k : Int) + (l.length : Int))
  | [], _ => .inl rfl
  | x :: l, k => by
    unfold firstI
    split
    · right; simp only [List.length_cons]; omega
    · rcases firstI_ge q l (k + 1) with h | ⟨h1, h2⟩
      · exact .inl h
      · right; simp only [List.length_cons]; omega
/-- A state's number, and whether there is one. -/
def stI (l : List Sa) (s : ByteArray) : Int × Bool :=
  if s.toList == [97, 99, 99, 101, 112, 116] then (-1, true) else if s.toList == [114, 101, 106, 101, 99, 116] then (-2, true) else if saI l s == -1 then (0, false) else (saI l s, true)
set_option maxRecDepth 100000 in
set_option maxHeartbeats 4000000 in
theorem res_State (p0 : Option Addr) (n0 c0 : Nat) (p1 : Option Addr) (n1 c1 : Nat) (p3 : Option Addr) (n3 c3 : Nat) (p4 : Option Addr) (n4 c4 : Nat) (p5 : Option Addr) (n5 c5 : Nat) (p6 : Option Addr) (n6 c6 : Nat) (K : Sa → Prop) (A : Sl Sa) (nm : ByteArray) (w : World) (hA : A.In w 5 Sa.cells K) (hl : A.l.length ≤ 1048576) : Kp Try.prog w 21 #[.agg #[.slice p0 n0 c0, .slice p1 n1 c1, A.v, .slice p3 n3 c3, .slice p4 n4 c4, .slice p5 n5 c5, .slice p6 n6 c6], .string nm] (.tuple #[.int .i64 (stI A.l nm).1, .bool (stI A.l nm).2]) := by
  intro y0
  have hA := hA.plus (fun _ a => a) y0
  obtain ⟨V, hV⟩ : ∃ V, plus w y0 = V := ⟨_, rfl⟩
  rw [hV] at hA ⊢
  clear hV
  have hA' := Lib.hid hA
  have hl' := Lib.hid hl
  clear hA hl
  obtain ⟨ap, ac, al⟩ := A
  simp only [Sl.v]
  obtain ⟨n, hn⟩ : ∃ n, al.length = n := ⟨_, rfl⟩
  rw [hn]
  have hn' := Lib.hid hn
  clear hn
  obtain ⟨R, hR⟩ : ∃ R, stI al nm = R := ⟨_, rfl⟩
  rw [hR]
  have hR' := Lib.hid hR
  clear hR
  go_enter Try.func21, Try.ntmps21
  go_upto_region 1 with (fail)
  obtain ⟨W, yy, hW, ⟨z, hz⟩, ca, cb⟩ := box2n V _ _ 30 9
  rw [hW]
  have b2 := ca 2 _ rfl
  have e0 := cb 0 _ rfl
  have d0 := cb 0 _ rfl ⟨#[], W.drawn⟩
  rw [plus_self] at d0
  have hcall := (first_State Sa.cells shp_sa (fun x => x.name.toList == nm.toList) 31 #[] #[.pointer (some ⟨V.heap.size + 1, 0, none⟩)] K W ⟨ap, ac, al⟩ (by rw [hz]; exact hA'.out.plus (fun _ a => a) z) hl'.out (enters_of Try.func31 (by kernel_rfl) rfl) (fun x _ => lit_State (V.heap.size + 1) nm _ _ _ _ _ _ _ _ _ _ _ W d0)).pure
  simp only [Sl.v] at hcall
  rw [hn'.out] at hcall
  have hI := Lib.hid (show firstI (fun x => x.name.toList == nm.toList) al 0 = saI al nm from rfl)
  rw [hI.out] at hcall
  have hc := Lib.hid hcall
  have hz2 := Lib.hid hz
  clear hW hz ca cb d0 hcall hA' hl' hn' hI
  have hR := hR'.out
  unfold stI at hR
  by_cases q1 : (nm.toList == [97, 99, 99, 101, 112, 116]) = true
  · rw [if_pos q1] at hR
    have hR2 := Lib.hid hR
    clear hR hR' hc
    go_wp2
    go_ret2
    exact ⟨by rw [← hR2.out] <;> rfl, by rw [hz2.out, plus_plus]; exact ⟨_, rfl⟩⟩
  have q1 : (nm.toList == [97, 99, 99, 101, 112, 116]) = false := by simpa using q1
  rw [if_neg (by rw [q1]; decide)] at hR
  by_cases q2 : (nm.toList == [114, 101, 106, 101, 99, 116]) = true
  · rw [if_pos q2] at hR
    have hR2 := Lib.hid hR
    clear hR hR' hc
    go_wp2
    go_ret2
    exact ⟨by rw [← hR2.out] <;> rfl, by rw [hz2.out, plus_plus]; exact ⟨_, rfl⟩⟩
  have q2 : (nm.toList == [114, 101, 106, 101, 99, 116]) = false := by simpa using q2
  rw [if_neg (by rw [q2]; decide)] at hR
  obtain ⟨I, hI⟩ : ∃ I, saI al nm = I := ⟨_, rfl⟩
  rw [hI] at hR hc
  clear hI hR'
  by_cases q3 : I = -1
  · rw [q3] at hR hc
    have hR2 := Lib.hid hR
    clear hR q3
    go_wp2_with (first | (go_at_call 30; with_reducible refine (hc.out _).mono ?_; rintro r w' ⟨rfl, x, rfl⟩))
    go_ret2
    exact ⟨by rw [← hR2.out] <;> rfl, by rw [hz2.out, plus_plus]; exact ⟨_, rfl⟩⟩
  · rw [if_neg (by simpa using q3)] at hR
    have hR2 := Lib.hid hR
    have q4 : (I == -1) = false := by simpa using q3
    clear hR
    go_wp2_with (first | (go_at_call 30; with_reducible refine (hc.out _).mono ?_; rintro r w' ⟨rfl, x, rfl⟩))
    go_ret2
    exact ⟨by rw [← hR2.out] <;> rfl, by rw [hz2.out, plus_plus]; exact ⟨_, rfl⟩⟩
end Go.Proofs.Ytplkiadkkefppaa
