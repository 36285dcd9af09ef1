/-
  WHAT IS PROVED HERE: the law TextPlaces is true of any text, byte, place and error, in worlds in which the library's table of powers of ten holds what the library's text says.
-/
import Derived.Test.YtmkcnkbeoddgeaaDoorRows
import Derived.Test.YtmkcnkbeoddgeaaDoorTi
import Derived.WalkKit
import Derived.WalkSpells
import Derived.WalkLawsBesides
namespace Go.Proofs.YtmkcnkbeoddgeaaDoor
open Go.RowKit
theorem eql_fv (a b c : Int) (w : World) : (binOp .eql 29 (fv a b c) (fv a b c)).run Tryd.prog w = .ok (.bool true) w := by
  go_simp
theorem eql_str (a : ByteArray) (w : World) : (binOp .eql 9 (.string a) (.string a)).run Tryd.prog w = .ok (.bool true) w := by
  go_simp
theorem eql_bool (a : Bool) (w : World) : (binOp .eql 4 (.bool a) (.bool a)).run Tryd.prog w = .ok (.bool true) w := by
  cases a <;> go_simp
theorem faults_ex (s : ByteArray) (a e : Int) (hs : s.size ≤ 1000) (h0 : -9223372036854775808 ≤ a) (h1 : a ≤ 9223372036854775807) :
    ∃ x y z, Pure Tryd.prog 10 #[.string s, .int .i64 a, .int .i64 e] (fv x y z) ∧ Pure Tryd.prog 11 #[.string s, .int .i64 a, .int .i64 e] (fv x y z) := by
  by_cases he : e = 0
  · subst he
    exact ⟨0, 0, 0, text_fault_ok s a, ref_fault_ok s a⟩
  · exact ⟨_, _, _, text_fault s a e he hs h0 h1, ref_fault s a e he hs h0 h1⟩
theorem ats_ex (s : ByteArray) (L C : Int) (hs : s.size ≤ 1000) :
    ∃ x ok, Pure Tryd.prog 6 #[.string s, pv L C] (.tuple #[.int .i64 x, .bool ok]) ∧ Pure Tryd.prog 7 #[.string s, pv L C] (.tuple #[.int .i64 x, .bool ok]) := by
  obtain ⟨v, hv⟩ := atV_ex s L C
  have h1 := text_at s L C v hs hv
  have h2 := ref_at s L C v hs hv
  rcases hv with ⟨i, _, _, _, rfl⟩ | ⟨_, rfl⟩
  · exact ⟨_, _, h1, h2⟩
  · exact ⟨_, _, h1, h2⟩
set_option maxHeartbeats 4000000 in
theorem places_walk (s : ByteArray) (a L C e : Int) (a0 : -9223372036854775808 ≤ a) (a1 : a ≤ 9223372036854775807) (L0 : -9223372036854775808 ≤ L) (L1 : L ≤ 9223372036854775807) (C0 : -9223372036854775808 ≤ C) (C1 : C ≤ 9223372036854775807) :
    Pure' 3 #[.string s, .int .i64 a, pv L C, .int .i64 e] (.bool true) := by
  intro w hT
  have hK := Lib.hid known_any
  have hT' := Lib.hid hT
  clear hT
  by_cases h400 : 400 < s.size
  · clear L0 L1 C0 C1 a0 a1
    go_enter Tryd.func3, Tryd.ntmps3
    go_wp2_with fail
    have hB : Below w.heap.size w (w.alloc (.cells #[.int .i64 L, .int .i64 C] 23)) := (Below.refl _ _).alloc (Nat.le_refl _) _
    obtain ⟨x, hx⟩ := plus_of_below hB
    rw [hx]
    refine (hK.out.at w hT'.out x).mono ?_
    rintro r w' ⟨rfl, y, rfl⟩
    go_wp2
    go_ret
    exact ⟨rfl, y, rfl⟩
  · have hs : s.size ≤ 400 := by omega
    clear h400
    obtain ⟨x, ok, hA, hA'⟩ := ats_ex s L C (by omega)
    obtain ⟨f0, f1, f2, hF, hF'⟩ := faults_ex s a e (by omega) a0 a1
    have hW := text_where s a (by omega) a0 a1
    have hW' := ref_where s a (by omega) a0 a1
    generalize lineOf s (clampN a s.size) = pl at hW hW'
    generalize colOf s (clampN a s.size) = pc at hW hW'
    have hS := text_say e L C L0 L1 C0 C1
    have hS' := ref_say e L C L0 L1 C0 C1
    have hO := text_word e
    have hO' := ref_word e
    generalize sayB e L C = sb at hS hS'
    generalize wordOf e = ob at hO hO'
    have q1 : ∀ w, (binOp .eql 23 (pv pl pc) (pv pl pc)).run Tryd.prog w = .ok (.bool true) w := fun w => (eql_pv pl pc pl pc w).trans (by simp)
    have q2 := eql_fv f0 f1 f2
    have q3 := eql_str sb
    have q4 := eql_str ob
    have q5 := eql_bool ok
    have hA := Lib.hid hA
    have hA' := Lib.hid hA'
    have hF := Lib.hid hF
    have hF' := Lib.hid hF'
    have hW := Lib.hid hW
    have hW' := Lib.hid hW'
    have hS := Lib.hid hS
    have hS' := Lib.hid hS'
    have hO := Lib.hid hO
    have hO' := Lib.hid hO'
    clear L0 L1 C0 C1 a0 a1
    go_enter Tryd.func3, Tryd.ntmps3
    go_wp2_with fail
    obtain ⟨W, hWd, hB, hz, ca, fa⟩ := box1 w #[.int .i64 L, .int .i64 C] 23
    rw [← hWd]
    have p0 := fun y => ca 0 (some (.int .i64 L)) rfl y
    have p1 := fun y => ca 1 (some (.int .i64 C)) rfl y
    clear ca fa hWd
    refine (hA.out _).mono ?_
    rintro r w' ⟨rfl, y1, rfl⟩
    go_wp2_with fail
    refine (hA'.out.at _ _).mono ?_
    rintro r w' ⟨rfl, y2, rfl⟩
    go_wp2
    obtain ⟨V, hVd, hBV, hzV, cf, ff⟩ := box1 (plus W y2) #[.int .i64 e, .int .i64 L, .int .i64 C] 29
    rw [← hVd]
    have k0 := fun y => cf 0 (some (.int .i64 e)) rfl y
    have k1 := fun y => cf 1 (some (.int .i64 L)) rfl y
    have k2 := fun y => cf 2 (some (.int .i64 C)) rfl y
    have hBw : Below w.heap.size w V := (hB.trans ((below_plus W y2).mono hB.size)).trans (hBV.mono (Nat.le_trans hB.size (size_plus W y2)))
    have hTV : Tab V := by obtain ⟨x, rfl⟩ := plus_of_below hBw; exact tab_plus hT'.out x
    have kK := Lib.hid (fun y => hK.out.at V hTV y)
    have kS := Lib.hid (fun y => hS.out.at V hTV y)
    have hBw := Lib.hid hBw
    generalize (plus W y2).heap.size = bf at k0 k1 k2 ⊢
    clear cf ff hVd hBV hzV hTV p0 p1 hz hB hA hA' hK hS y1 y2
    refine wp_region_own0 (by kernel_rfl) (by kernel_rfl) ?_
    repeat (go_big_quiet_step (first | (with_reducible exact hW.out.at _ _) | (with_reducible exact hW'.out.at _ _) | (with_reducible exact hF.out.at _ _) | (with_reducible exact hF'.out.at _ _) | (with_reducible exact kS.out _) | (with_reducible exact hS'.out.at _ _) | (with_reducible exact hO.out.at _ _) | (with_reducible exact hO'.out.at _ _) | (with_reducible exact kK.out _)))
    refine wpQuiet_nil ?_
    rintro _ ⟨y, rfl⟩
    go_wp2
    go_ret
    exact ⟨rfl, plus_of_below (hBw.out.trans ((below_plus V y).mono hBw.out.size))⟩
end Go.Proofs.YtmkcnkbeoddgeaaDoor
