/-
  WHAT IS PROVED HERE: what May of the landed ast hands back, of any program that lies in memory and is not too great. Written by gen/hc.py.
-/
import Derived.Test.YtpnaibfefpeikaaRows
import Derived.Test.YtpnaibfefpeikaaHm
import Derived.WalkKit
import Derived.Lib.Hide
import Derived.WalkSpells
import Derived.WalkLawsBesides
import Derived.Laws.EntriesVeiled
import Derived.Shelf.Abstract
namespace Go.Proofs.Ytpnaibfefpeikaa
open Go.RowKit
set_option maxRecDepth 100000 in
set_option maxHeartbeats 8000000 in
theorem may_of (a0p : Option Addr) (a0n : Nat) (a0c : Nat) (a1p : Option Addr) (a1n : Nat) (a1c : Nat) (a2p : Option Addr) (a2n : Nat) (a2c : Nat) (a3p : Option Addr) (a3n : Nat) (a3c : Nat) (a4p : Option Addr) (a4n : Nat) (a4c : Nat) (a5p : Option Addr) (a5n : Nat) (a5c : Nat) (a6p : Option Addr) (a6n : Nat) (a6c : Nat) (s0 : Bool) (s1 : Bool) (s2 : Bool) (s3 : Bool) (s4 : Bool) (s5 : Bool) (s6 : Bool) (w : World)
    (h0 : Kp Try.prog w 34 #[.slice a0p a0n a0c, .int .i64 0, .int .i64 8, .func (.func 35) #[] #[]] (.bool s0))
    (h1 : Kp Try.prog w 36 #[.slice a1p a1n a1c, .int .i64 0, .int .i64 16, .func (.func 37) #[] #[]] (.bool s1))
    (h2 : ∀ W z m1 m2 m3, W = plus w z → FormsIn W m1 m2 m3 → Kp Try.prog W 38 #[.slice a2p a2n a2c, .int .i64 1, .int .i64 16, .func (.func 39) #[.agg #[.map (some m1), .map (some m2), .map (some m3)]] #[]] (.bool s2))
    (h3 : ∀ W z m1 m2 m3, W = plus w z → FormsIn W m1 m2 m3 → Kp Try.prog W 40 #[.slice a3p a3n a3c, .int .i64 0, .int .i64 16, .func (.func 41) #[.agg #[.map (some m1), .map (some m2), .map (some m3)]] #[]] (.bool s3))
    (h4 : ∀ W z m1 m2 m3, W = plus w z → FormsIn W m1 m2 m3 → Kp Try.prog W 42 #[.slice a4p a4n a4c, .int .i64 0, .int .i64 8, .func (.func 43) #[.agg #[.map (some m1), .map (some m2), .map (some m3)]] #[]] (.bool s4))
    (h5 : ∀ W z m1 m2 m3, W = plus w z → FormsIn W m1 m2 m3 → Kp Try.prog W 44 #[.agg #[.map (some m1), .map (some m2), .map (some m3)], .slice a5p a5n a5c] (.bool s5))
    (h6 : Kp Try.prog w 45 #[.slice a6p a6n a6c, .int .i64 0, .int .i64 8, .func (.func 46) #[] #[]] (.bool s6)) :
    Kp Try.prog w 11 #[.agg #[.slice a0p a0n a0c, .slice a1p a1n a1c, .slice a2p a2n a2c, .slice a3p a3n a3c, .slice a4p a4n a4c, .slice a5p a5n a5c, .slice a6p a6n a6c]] (.bool (((s0) && ((s1) && ((s2) && ((s3) && ((s4) && ((s5) && (s6))))))))) := by
  intro y0
  have h0 := h0.up y0
  have h1 := h1.up y0
  have h2 : ∀ W z m1 m2 m3, W = plus ((plus w y0)) z → FormsIn W m1 m2 m3 → Kp Try.prog W 38 #[.slice a2p a2n a2c, .int .i64 1, .int .i64 16, .func (.func 39) #[.agg #[.map (some m1), .map (some m2), .map (some m3)]] #[]] (.bool s2) := fun W z m1 m2 m3 hW => h2 W _ m1 m2 m3 (hW.trans (plus_plus _ _ _))
  have h3 : ∀ W z m1 m2 m3, W = plus ((plus w y0)) z → FormsIn W m1 m2 m3 → Kp Try.prog W 40 #[.slice a3p a3n a3c, .int .i64 0, .int .i64 16, .func (.func 41) #[.agg #[.map (some m1), .map (some m2), .map (some m3)]] #[]] (.bool s3) := fun W z m1 m2 m3 hW => h3 W _ m1 m2 m3 (hW.trans (plus_plus _ _ _))
  have h4 : ∀ W z m1 m2 m3, W = plus ((plus w y0)) z → FormsIn W m1 m2 m3 → Kp Try.prog W 42 #[.slice a4p a4n a4c, .int .i64 0, .int .i64 8, .func (.func 43) #[.agg #[.map (some m1), .map (some m2), .map (some m3)]] #[]] (.bool s4) := fun W z m1 m2 m3 hW => h4 W _ m1 m2 m3 (hW.trans (plus_plus _ _ _))
  have h5 : ∀ W z m1 m2 m3, W = plus ((plus w y0)) z → FormsIn W m1 m2 m3 → Kp Try.prog W 44 #[.agg #[.map (some m1), .map (some m2), .map (some m3)], .slice a5p a5n a5c] (.bool s5) := fun W z m1 m2 m3 hW => h5 W _ m1 m2 m3 (hW.trans (plus_plus _ _ _))
  have h6 := h6.up y0
  obtain ⟨V, hV⟩ : ∃ V, plus w y0 = V := ⟨_, rfl⟩
  rw [hV] at h0 h1 h2 h3 h4 h5 h6 ⊢
  clear hV
  have hmf : ∀ (fn : Fn) (first cap : Array Value) (w : World), (Instr.makeFunc fn first cap).run Try.prog w = .ok (.func fn first cap) w := fun _ _ _ _ => rfl
  obtain ⟨R, hR⟩ : ∃ R, (((s0) && ((s1) && ((s2) && ((s3) && ((s4) && ((s5) && (s6)))))))) = R := ⟨_, rfl⟩
  rw [hR]
  cases s0
  case false =>
    have hF := Lib.hid hR
    clear hR
    have h0 := Lib.hid h0
    clear h1 h2 h3 h4 h5 h6
    go_enter Try.func11, Try.ntmps11
    go_wp2_with fail
    obtain ⟨W0, yy, hW, ⟨z, hz⟩, ca⟩ := box1n V _ 30
    rw [hW]
    have ca0 := ca 0 _ rfl
    have ca1 := ca 1 _ rfl
    have ca2 := ca 2 _ rfl
    have ca3 := ca 3 _ rfl
    have ca4 := ca 4 _ rfl
    have ca5 := ca 5 _ rfl
    have ca6 := ca 6 _ rfl
    have hz2 := Lib.hid hz
    clear hW ca hz
    refine (ast_allForms _).mono ?_
    rintro r w' ⟨m1, m2, m3, rfl, ⟨x, hx⟩, hm⟩
    rw [plus_plus] at hx
    obtain ⟨x0, rfl⟩ : ∃ x0, w' = plus W0 x0 := ⟨_, hx⟩
    clear hx
    have hm := Lib.hid hm
    have cx0 := fun a => cell_alloc (ca0 x0) a
    have cx1 := fun a => cell_alloc (ca1 x0) a
    have cx2 := fun a => cell_alloc (ca2 x0) a
    have cx3 := fun a => cell_alloc (ca3 x0) a
    have cx4 := fun a => cell_alloc (ca4 x0) a
    have cx5 := fun a => cell_alloc (ca5 x0) a
    have cx6 := fun a => cell_alloc (ca6 x0) a
    go_wp2_with fail
    obtain ⟨W, y1, hW, ⟨z1, hz1⟩, cb⟩ := box1n (plus W0 x0) _ 87
    rw [hW]
    have cb0 := cb 0 _ rfl
    have cb1 := cb 1 _ rfl
    have cb2 := cb 2 _ rfl
    have cp0 := fun y => cell_keep (cell_at hz1 (ca0 x0)) y
    have cp1 := fun y => cell_keep (cell_at hz1 (ca1 x0)) y
    have cp2 := fun y => cell_keep (cell_at hz1 (ca2 x0)) y
    have cp3 := fun y => cell_keep (cell_at hz1 (ca3 x0)) y
    have cp4 := fun y => cell_keep (cell_at hz1 (ca4 x0)) y
    have cp5 := fun y => cell_keep (cell_at hz1 (ca5 x0)) y
    have cp6 := fun y => cell_keep (cell_at hz1 (ca6 x0)) y
    obtain ⟨zz, hzz⟩ : ∃ zz, W = plus V zz := ⟨_, by rw [hz1, hz2.out, plus_plus, plus_plus]⟩
    have hmW : FormsIn W m1 m2 m3 := hz1 ▸ hm.out.plus z1
    have q0 := Lib.hid (kp_at hzz h0.out)
    have hz' := Lib.hid hzz
    clear hW hz2 hz1 hzz cb hmW hm h0 ca0 cx0 ca1 cx1 ca2 cx2 ca3 cx3 ca4 cx4 ca5 cx5 ca6 cx6
    refine (q0.out _).mono ?_
    rintro r w' ⟨rfl, x1, rfl⟩
    go_wp2_with fail
    go_ret
    exact ⟨congrArg (fun z => Ending.returned (Value.bool z)) hF.out, by rw [hz'.out, plus_plus]; exact ⟨_, rfl⟩⟩
  cases s1
  case false =>
    have hF := Lib.hid hR
    clear hR
    have h0 := Lib.hid h0
    have h1 := Lib.hid h1
    clear h2 h3 h4 h5 h6
    go_enter Try.func11, Try.ntmps11
    go_wp2_with fail
    obtain ⟨W0, yy, hW, ⟨z, hz⟩, ca⟩ := box1n V _ 30
    rw [hW]
    have ca0 := ca 0 _ rfl
    have ca1 := ca 1 _ rfl
    have ca2 := ca 2 _ rfl
    have ca3 := ca 3 _ rfl
    have ca4 := ca 4 _ rfl
    have ca5 := ca 5 _ rfl
    have ca6 := ca 6 _ rfl
    have hz2 := Lib.hid hz
    clear hW ca hz
    refine (ast_allForms _).mono ?_
    rintro r w' ⟨m1, m2, m3, rfl, ⟨x, hx⟩, hm⟩
    rw [plus_plus] at hx
    obtain ⟨x0, rfl⟩ : ∃ x0, w' = plus W0 x0 := ⟨_, hx⟩
    clear hx
    have hm := Lib.hid hm
    have cx0 := fun a => cell_alloc (ca0 x0) a
    have cx1 := fun a => cell_alloc (ca1 x0) a
    have cx2 := fun a => cell_alloc (ca2 x0) a
    have cx3 := fun a => cell_alloc (ca3 x0) a
    have cx4 := fun a => cell_alloc (ca4 x0) a
    have cx5 := fun a => cell_alloc (ca5 x0) a
    have cx6 := fun a => cell_alloc (ca6 x0) a
    go_wp2_with fail
    obtain ⟨W, y1, hW, ⟨z1, hz1⟩, cb⟩ := box1n (plus W0 x0) _ 87
    rw [hW]
    have cb0 := cb 0 _ rfl
    have cb1 := cb 1 _ rfl
    have cb2 := cb 2 _ rfl
    have cp0 := fun y => cell_keep (cell_at hz1 (ca0 x0)) y
    have cp1 := fun y => cell_keep (cell_at hz1 (ca1 x0)) y
    have cp2 := fun y => cell_keep (cell_at hz1 (ca2 x0)) y
    have cp3 := fun y => cell_keep (cell_at hz1 (ca3 x0)) y
    have cp4 := fun y => cell_keep (cell_at hz1 (ca4 x0)) y
    have cp5 := fun y => cell_keep (cell_at hz1 (ca5 x0)) y
    have cp6 := fun y => cell_keep (cell_at hz1 (ca6 x0)) y
    obtain ⟨zz, hzz⟩ : ∃ zz, W = plus V zz := ⟨_, by rw [hz1, hz2.out, plus_plus, plus_plus]⟩
    have hmW : FormsIn W m1 m2 m3 := hz1 ▸ hm.out.plus z1
    have q0 := Lib.hid (kp_at hzz h0.out)
    have q1 := Lib.hid (kp_at hzz h1.out)
    have hz' := Lib.hid hzz
    clear hW hz2 hz1 hzz cb hmW hm h0 h1 ca0 cx0 ca1 cx1 ca2 cx2 ca3 cx3 ca4 cx4 ca5 cx5 ca6 cx6
    refine (q0.out _).mono ?_
    rintro r w' ⟨rfl, x1, rfl⟩
    go_wp2_with (first | (go_at_call 36; with_reducible refine (q1.out _).mono ?_; rintro r w' ⟨rfl, x, rfl⟩))
    go_ret
    exact ⟨congrArg (fun z => Ending.returned (Value.bool z)) hF.out, by rw [hz'.out, plus_plus]; exact ⟨_, rfl⟩⟩
  cases s2
  case false =>
    have hF := Lib.hid hR
    clear hR
    have h0 := Lib.hid h0
    have h1 := Lib.hid h1
    have h2 := Lib.hid h2
    clear h3 h4 h5 h6
    go_enter Try.func11, Try.ntmps11
    go_wp2_with fail
    obtain ⟨W0, yy, hW, ⟨z, hz⟩, ca⟩ := box1n V _ 30
    rw [hW]
    have ca0 := ca 0 _ rfl
    have ca1 := ca 1 _ rfl
    have ca2 := ca 2 _ rfl
    have ca3 := ca 3 _ rfl
    have ca4 := ca 4 _ rfl
    have ca5 := ca 5 _ rfl
    have ca6 := ca 6 _ rfl
    have hz2 := Lib.hid hz
    clear hW ca hz
    refine (ast_allForms _).mono ?_
    rintro r w' ⟨m1, m2, m3, rfl, ⟨x, hx⟩, hm⟩
    rw [plus_plus] at hx
    obtain ⟨x0, rfl⟩ : ∃ x0, w' = plus W0 x0 := ⟨_, hx⟩
    clear hx
    have hm := Lib.hid hm
    have cx0 := fun a => cell_alloc (ca0 x0) a
    have cx1 := fun a => cell_alloc (ca1 x0) a
    have cx2 := fun a => cell_alloc (ca2 x0) a
    have cx3 := fun a => cell_alloc (ca3 x0) a
    have cx4 := fun a => cell_alloc (ca4 x0) a
    have cx5 := fun a => cell_alloc (ca5 x0) a
    have cx6 := fun a => cell_alloc (ca6 x0) a
    go_wp2_with fail
    obtain ⟨W, y1, hW, ⟨z1, hz1⟩, cb⟩ := box1n (plus W0 x0) _ 87
    rw [hW]
    have cb0 := cb 0 _ rfl
    have cb1 := cb 1 _ rfl
    have cb2 := cb 2 _ rfl
    have cp0 := fun y => cell_keep (cell_at hz1 (ca0 x0)) y
    have cp1 := fun y => cell_keep (cell_at hz1 (ca1 x0)) y
    have cp2 := fun y => cell_keep (cell_at hz1 (ca2 x0)) y
    have cp3 := fun y => cell_keep (cell_at hz1 (ca3 x0)) y
    have cp4 := fun y => cell_keep (cell_at hz1 (ca4 x0)) y
    have cp5 := fun y => cell_keep (cell_at hz1 (ca5 x0)) y
    have cp6 := fun y => cell_keep (cell_at hz1 (ca6 x0)) y
    obtain ⟨zz, hzz⟩ : ∃ zz, W = plus V zz := ⟨_, by rw [hz1, hz2.out, plus_plus, plus_plus]⟩
    have hmW : FormsIn W m1 m2 m3 := hz1 ▸ hm.out.plus z1
    have q0 := Lib.hid (kp_at hzz h0.out)
    have q1 := Lib.hid (kp_at hzz h1.out)
    have q2 := Lib.hid ((h2.out W zz m1 m2 m3 hzz hmW).pure)
    have hz' := Lib.hid hzz
    clear hW hz2 hz1 hzz cb hmW hm h0 h1 h2 ca0 cx0 ca1 cx1 ca2 cx2 ca3 cx3 ca4 cx4 ca5 cx5 ca6 cx6
    refine (q0.out _).mono ?_
    rintro r w' ⟨rfl, x1, rfl⟩
    go_wp2_with (first | (go_at_call 36; with_reducible refine (q1.out _).mono ?_; rintro r w' ⟨rfl, x, rfl⟩) | (go_at_call 38; with_reducible refine (q2.out _).mono ?_; rintro r w' ⟨rfl, x, rfl⟩))
    go_ret
    exact ⟨congrArg (fun z => Ending.returned (Value.bool z)) hF.out, by rw [hz'.out, plus_plus]; exact ⟨_, rfl⟩⟩
  cases s3
  case false =>
    have hF := Lib.hid hR
    clear hR
    have h0 := Lib.hid h0
    have h1 := Lib.hid h1
    have h2 := Lib.hid h2
    have h3 := Lib.hid h3
    clear h4 h5 h6
    go_enter Try.func11, Try.ntmps11
    go_wp2_with fail
    obtain ⟨W0, yy, hW, ⟨z, hz⟩, ca⟩ := box1n V _ 30
    rw [hW]
    have ca0 := ca 0 _ rfl
    have ca1 := ca 1 _ rfl
    have ca2 := ca 2 _ rfl
    have ca3 := ca 3 _ rfl
    have ca4 := ca 4 _ rfl
    have ca5 := ca 5 _ rfl
    have ca6 := ca 6 _ rfl
    have hz2 := Lib.hid hz
    clear hW ca hz
    refine (ast_allForms _).mono ?_
    rintro r w' ⟨m1, m2, m3, rfl, ⟨x, hx⟩, hm⟩
    rw [plus_plus] at hx
    obtain ⟨x0, rfl⟩ : ∃ x0, w' = plus W0 x0 := ⟨_, hx⟩
    clear hx
    have hm := Lib.hid hm
    have cx0 := fun a => cell_alloc (ca0 x0) a
    have cx1 := fun a => cell_alloc (ca1 x0) a
    have cx2 := fun a => cell_alloc (ca2 x0) a
    have cx3 := fun a => cell_alloc (ca3 x0) a
    have cx4 := fun a => cell_alloc (ca4 x0) a
    have cx5 := fun a => cell_alloc (ca5 x0) a
    have cx6 := fun a => cell_alloc (ca6 x0) a
    go_wp2_with fail
    obtain ⟨W, y1, hW, ⟨z1, hz1⟩, cb⟩ := box1n (plus W0 x0) _ 87
    rw [hW]
    have cb0 := cb 0 _ rfl
    have cb1 := cb 1 _ rfl
    have cb2 := cb 2 _ rfl
    have cp0 := fun y => cell_keep (cell_at hz1 (ca0 x0)) y
    have cp1 := fun y => cell_keep (cell_at hz1 (ca1 x0)) y
    have cp2 := fun y => cell_keep (cell_at hz1 (ca2 x0)) y
    have cp3 := fun y => cell_keep (cell_at hz1 (ca3 x0)) y
    have cp4 := fun y => cell_keep (cell_at hz1 (ca4 x0)) y
    have cp5 := fun y => cell_keep (cell_at hz1 (ca5 x0)) y
    have cp6 := fun y => cell_keep (cell_at hz1 (ca6 x0)) y
    obtain ⟨zz, hzz⟩ : ∃ zz, W = plus V zz := ⟨_, by rw [hz1, hz2.out, plus_plus, plus_plus]⟩
    have hmW : FormsIn W m1 m2 m3 := hz1 ▸ hm.out.plus z1
    have q0 := Lib.hid (kp_at hzz h0.out)
    have q1 := Lib.hid (kp_at hzz h1.out)
    have q2 := Lib.hid ((h2.out W zz m1 m2 m3 hzz hmW).pure)
    have q3 := Lib.hid ((h3.out W zz m1 m2 m3 hzz hmW).pure)
    have hz' := Lib.hid hzz
    clear hW hz2 hz1 hzz cb hmW hm h0 h1 h2 h3 ca0 cx0 ca1 cx1 ca2 cx2 ca3 cx3 ca4 cx4 ca5 cx5 ca6 cx6
    refine (q0.out _).mono ?_
    rintro r w' ⟨rfl, x1, rfl⟩
    go_wp2_with (first | (go_at_call 36; with_reducible refine (q1.out _).mono ?_; rintro r w' ⟨rfl, x, rfl⟩) | (go_at_call 38; with_reducible refine (q2.out _).mono ?_; rintro r w' ⟨rfl, x, rfl⟩) | (go_at_call 40; with_reducible refine (q3.out _).mono ?_; rintro r w' ⟨rfl, x, rfl⟩))
    go_ret
    exact ⟨congrArg (fun z => Ending.returned (Value.bool z)) hF.out, by rw [hz'.out, plus_plus]; exact ⟨_, rfl⟩⟩
  cases s4
  case false =>
    have hF := Lib.hid hR
    clear hR
    have h0 := Lib.hid h0
    have h1 := Lib.hid h1
    have h2 := Lib.hid h2
    have h3 := Lib.hid h3
    have h4 := Lib.hid h4
    clear h5 h6
    go_enter Try.func11, Try.ntmps11
    go_wp2_with fail
    obtain ⟨W0, yy, hW, ⟨z, hz⟩, ca⟩ := box1n V _ 30
    rw [hW]
    have ca0 := ca 0 _ rfl
    have ca1 := ca 1 _ rfl
    have ca2 := ca 2 _ rfl
    have ca3 := ca 3 _ rfl
    have ca4 := ca 4 _ rfl
    have ca5 := ca 5 _ rfl
    have ca6 := ca 6 _ rfl
    have hz2 := Lib.hid hz
    clear hW ca hz
    refine (ast_allForms _).mono ?_
    rintro r w' ⟨m1, m2, m3, rfl, ⟨x, hx⟩, hm⟩
    rw [plus_plus] at hx
    obtain ⟨x0, rfl⟩ : ∃ x0, w' = plus W0 x0 := ⟨_, hx⟩
    clear hx
    have hm := Lib.hid hm
    have cx0 := fun a => cell_alloc (ca0 x0) a
    have cx1 := fun a => cell_alloc (ca1 x0) a
    have cx2 := fun a => cell_alloc (ca2 x0) a
    have cx3 := fun a => cell_alloc (ca3 x0) a
    have cx4 := fun a => cell_alloc (ca4 x0) a
    have cx5 := fun a => cell_alloc (ca5 x0) a
    have cx6 := fun a => cell_alloc (ca6 x0) a
    go_wp2_with fail
    obtain ⟨W, y1, hW, ⟨z1, hz1⟩, cb⟩ := box1n (plus W0 x0) _ 87
    rw [hW]
    have cb0 := cb 0 _ rfl
    have cb1 := cb 1 _ rfl
    have cb2 := cb 2 _ rfl
    have cp0 := fun y => cell_keep (cell_at hz1 (ca0 x0)) y
    have cp1 := fun y => cell_keep (cell_at hz1 (ca1 x0)) y
    have cp2 := fun y => cell_keep (cell_at hz1 (ca2 x0)) y
    have cp3 := fun y => cell_keep (cell_at hz1 (ca3 x0)) y
    have cp4 := fun y => cell_keep (cell_at hz1 (ca4 x0)) y
    have cp5 := fun y => cell_keep (cell_at hz1 (ca5 x0)) y
    have cp6 := fun y => cell_keep (cell_at hz1 (ca6 x0)) y
    obtain ⟨zz, hzz⟩ : ∃ zz, W = plus V zz := ⟨_, by rw [hz1, hz2.out, plus_plus, plus_plus]⟩
    have hmW : FormsIn W m1 m2 m3 := hz1 ▸ hm.out.plus z1
    have q0 := Lib.hid (kp_at hzz h0.out)
    have q1 := Lib.hid (kp_at hzz h1.out)
    have q2 := Lib.hid ((h2.out W zz m1 m2 m3 hzz hmW).pure)
    have q3 := Lib.hid ((h3.out W zz m1 m2 m3 hzz hmW).pure)
    have q4 := Lib.hid ((h4.out W zz m1 m2 m3 hzz hmW).pure)
    have hz' := Lib.hid hzz
    clear hW hz2 hz1 hzz cb hmW hm h0 h1 h2 h3 h4 ca0 cx0 ca1 cx1 ca2 cx2 ca3 cx3 ca4 cx4 ca5 cx5 ca6 cx6
    refine (q0.out _).mono ?_
    rintro r w' ⟨rfl, x1, rfl⟩
    go_wp2_with (first | (go_at_call 36; with_reducible refine (q1.out _).mono ?_; rintro r w' ⟨rfl, x, rfl⟩) | (go_at_call 38; with_reducible refine (q2.out _).mono ?_; rintro r w' ⟨rfl, x, rfl⟩) | (go_at_call 40; with_reducible refine (q3.out _).mono ?_; rintro r w' ⟨rfl, x, rfl⟩) | (go_at_call 42; with_reducible refine (q4.out _).mono ?_; rintro r w' ⟨rfl, x, rfl⟩))
    go_ret
    exact ⟨congrArg (fun z => Ending.returned (Value.bool z)) hF.out, by rw [hz'.out, plus_plus]; exact ⟨_, rfl⟩⟩
  cases s5
  case false =>
    have hF := Lib.hid hR
    clear hR
    have h0 := Lib.hid h0
    have h1 := Lib.hid h1
    have h2 := Lib.hid h2
    have h3 := Lib.hid h3
    have h4 := Lib.hid h4
    have h5 := Lib.hid h5
    clear h6
    go_enter Try.func11, Try.ntmps11
    go_wp2_with fail
    obtain ⟨W0, yy, hW, ⟨z, hz⟩, ca⟩ := box1n V _ 30
    rw [hW]
    have ca0 := ca 0 _ rfl
    have ca1 := ca 1 _ rfl
    have ca2 := ca 2 _ rfl
    have ca3 := ca 3 _ rfl
    have ca4 := ca 4 _ rfl
    have ca5 := ca 5 _ rfl
    have ca6 := ca 6 _ rfl
    have hz2 := Lib.hid hz
    clear hW ca hz
    refine (ast_allForms _).mono ?_
    rintro r w' ⟨m1, m2, m3, rfl, ⟨x, hx⟩, hm⟩
    rw [plus_plus] at hx
    obtain ⟨x0, rfl⟩ : ∃ x0, w' = plus W0 x0 := ⟨_, hx⟩
    clear hx
    have hm := Lib.hid hm
    have cx0 := fun a => cell_alloc (ca0 x0) a
    have cx1 := fun a => cell_alloc (ca1 x0) a
    have cx2 := fun a => cell_alloc (ca2 x0) a
    have cx3 := fun a => cell_alloc (ca3 x0) a
    have cx4 := fun a => cell_alloc (ca4 x0) a
    have cx5 := fun a => cell_alloc (ca5 x0) a
    have cx6 := fun a => cell_alloc (ca6 x0) a
    go_wp2_with fail
    obtain ⟨W, y1, hW, ⟨z1, hz1⟩, cb⟩ := box1n (plus W0 x0) _ 87
    rw [hW]
    have cb0 := cb 0 _ rfl
    have cb1 := cb 1 _ rfl
    have cb2 := cb 2 _ rfl
    have cp0 := fun y => cell_keep (cell_at hz1 (ca0 x0)) y
    have cp1 := fun y => cell_keep (cell_at hz1 (ca1 x0)) y
    have cp2 := fun y => cell_keep (cell_at hz1 (ca2 x0)) y
    have cp3 := fun y => cell_keep (cell_at hz1 (ca3 x0)) y
    have cp4 := fun y => cell_keep (cell_at hz1 (ca4 x0)) y
    have cp5 := fun y => cell_keep (cell_at hz1 (ca5 x0)) y
    have cp6 := fun y => cell_keep (cell_at hz1 (ca6 x0)) y
    obtain ⟨zz, hzz⟩ : ∃ zz, W = plus V zz := ⟨_, by rw [hz1, hz2.out, plus_plus, plus_plus]⟩
    have hmW : FormsIn W m1 m2 m3 := hz1 ▸ hm.out.plus z1
    have q0 := Lib.hid (kp_at hzz h0.out)
    have q1 := Lib.hid (kp_at hzz h1.out)
    have q2 := Lib.hid ((h2.out W zz m1 m2 m3 hzz hmW).pure)
    have q3 := Lib.hid ((h3.out W zz m1 m2 m3 hzz hmW).pure)
    have q4 := Lib.hid ((h4.out W zz m1 m2 m3 hzz hmW).pure)
    have q5 := Lib.hid ((h5.out W zz m1 m2 m3 hzz hmW).pure)
    have hz' := Lib.hid hzz
    clear hW hz2 hz1 hzz cb hmW hm h0 h1 h2 h3 h4 h5 ca0 cx0 ca1 cx1 ca2 cx2 ca3 cx3 ca4 cx4 ca5 cx5 ca6 cx6
    refine (q0.out _).mono ?_
    rintro r w' ⟨rfl, x1, rfl⟩
    go_wp2_with (first | (go_at_call 36; with_reducible refine (q1.out _).mono ?_; rintro r w' ⟨rfl, x, rfl⟩) | (go_at_call 38; with_reducible refine (q2.out _).mono ?_; rintro r w' ⟨rfl, x, rfl⟩) | (go_at_call 40; with_reducible refine (q3.out _).mono ?_; rintro r w' ⟨rfl, x, rfl⟩) | (go_at_call 42; with_reducible refine (q4.out _).mono ?_; rintro r w' ⟨rfl, x, rfl⟩) | (go_at_call 44; with_reducible refine (q5.out _).mono ?_; rintro r w' ⟨rfl, x, rfl⟩))
    go_ret
    exact ⟨congrArg (fun z => Ending.returned (Value.bool z)) hF.out, by rw [hz'.out, plus_plus]; exact ⟨_, rfl⟩⟩
  cases s6
  case false =>
    have hF := Lib.hid hR
    clear hR
    have h0 := Lib.hid h0
    have h1 := Lib.hid h1
    have h2 := Lib.hid h2
    have h3 := Lib.hid h3
    have h4 := Lib.hid h4
    have h5 := Lib.hid h5
    have h6 := Lib.hid h6
    go_enter Try.func11, Try.ntmps11
    go_wp2_with fail
    obtain ⟨W0, yy, hW, ⟨z, hz⟩, ca⟩ := box1n V _ 30
    rw [hW]
    have ca0 := ca 0 _ rfl
    have ca1 := ca 1 _ rfl
    have ca2 := ca 2 _ rfl
    have ca3 := ca 3 _ rfl
    have ca4 := ca 4 _ rfl
    have ca5 := ca 5 _ rfl
    have ca6 := ca 6 _ rfl
    have hz2 := Lib.hid hz
    clear hW ca hz
    refine (ast_allForms _).mono ?_
    rintro r w' ⟨m1, m2, m3, rfl, ⟨x, hx⟩, hm⟩
    rw [plus_plus] at hx
    obtain ⟨x0, rfl⟩ : ∃ x0, w' = plus W0 x0 := ⟨_, hx⟩
    clear hx
    have hm := Lib.hid hm
    have cx0 := fun a => cell_alloc (ca0 x0) a
    have cx1 := fun a => cell_alloc (ca1 x0) a
    have cx2 := fun a => cell_alloc (ca2 x0) a
    have cx3 := fun a => cell_alloc (ca3 x0) a
    have cx4 := fun a => cell_alloc (ca4 x0) a
    have cx5 := fun a => cell_alloc (ca5 x0) a
    have cx6 := fun a => cell_alloc (ca6 x0) a
    go_wp2_with fail
    obtain ⟨W, y1, hW, ⟨z1, hz1⟩, cb⟩ := box1n (plus W0 x0) _ 87
    rw [hW]
    have cb0 := cb 0 _ rfl
    have cb1 := cb 1 _ rfl
    have cb2 := cb 2 _ rfl
    have cp0 := fun y => cell_keep (cell_at hz1 (ca0 x0)) y
    have cp1 := fun y => cell_keep (cell_at hz1 (ca1 x0)) y
    have cp2 := fun y => cell_keep (cell_at hz1 (ca2 x0)) y
    have cp3 := fun y => cell_keep (cell_at hz1 (ca3 x0)) y
    have cp4 := fun y => cell_keep (cell_at hz1 (ca4 x0)) y
    have cp5 := fun y => cell_keep (cell_at hz1 (ca5 x0)) y
    have cp6 := fun y => cell_keep (cell_at hz1 (ca6 x0)) y
    obtain ⟨zz, hzz⟩ : ∃ zz, W = plus V zz := ⟨_, by rw [hz1, hz2.out, plus_plus, plus_plus]⟩
    have hmW : FormsIn W m1 m2 m3 := hz1 ▸ hm.out.plus z1
    have q0 := Lib.hid (kp_at hzz h0.out)
    have q1 := Lib.hid (kp_at hzz h1.out)
    have q2 := Lib.hid ((h2.out W zz m1 m2 m3 hzz hmW).pure)
    have q3 := Lib.hid ((h3.out W zz m1 m2 m3 hzz hmW).pure)
    have q4 := Lib.hid ((h4.out W zz m1 m2 m3 hzz hmW).pure)
    have q5 := Lib.hid ((h5.out W zz m1 m2 m3 hzz hmW).pure)
    have q6 := Lib.hid (kp_at hzz h6.out)
    have hz' := Lib.hid hzz
    clear hW hz2 hz1 hzz cb hmW hm h0 h1 h2 h3 h4 h5 h6 ca0 cx0 ca1 cx1 ca2 cx2 ca3 cx3 ca4 cx4 ca5 cx5 ca6 cx6
    refine (q0.out _).mono ?_
    rintro r w' ⟨rfl, x1, rfl⟩
    go_wp2_with (first | (go_at_call 36; with_reducible refine (q1.out _).mono ?_; rintro r w' ⟨rfl, x, rfl⟩) | (go_at_call 38; with_reducible refine (q2.out _).mono ?_; rintro r w' ⟨rfl, x, rfl⟩) | (go_at_call 40; with_reducible refine (q3.out _).mono ?_; rintro r w' ⟨rfl, x, rfl⟩) | (go_at_call 42; with_reducible refine (q4.out _).mono ?_; rintro r w' ⟨rfl, x, rfl⟩) | (go_at_call 44; with_reducible refine (q5.out _).mono ?_; rintro r w' ⟨rfl, x, rfl⟩) | (go_at_call 45; with_reducible refine (q6.out _).mono ?_; rintro r w' ⟨rfl, x, rfl⟩))
    go_ret
    exact ⟨congrArg (fun z => Ending.returned (Value.bool z)) hF.out, by rw [hz'.out, plus_plus]; exact ⟨_, rfl⟩⟩
  have hF := Lib.hid hR
  clear hR
  have h0 := Lib.hid h0
  have h1 := Lib.hid h1
  have h2 := Lib.hid h2
  have h3 := Lib.hid h3
  have h4 := Lib.hid h4
  have h5 := Lib.hid h5
  have h6 := Lib.hid h6
  go_enter Try.func11, Try.ntmps11
  go_wp2_with fail
  obtain ⟨W0, yy, hW, ⟨z, hz⟩, ca⟩ := box1n V _ 30
  rw [hW]
  have ca0 := ca 0 _ rfl
  have ca1 := ca 1 _ rfl
  have ca2 := ca 2 _ rfl
  have ca3 := ca 3 _ rfl
  have ca4 := ca 4 _ rfl
  have ca5 := ca 5 _ rfl
  have ca6 := ca 6 _ rfl
  have hz2 := Lib.hid hz
  clear hW ca hz
  refine (ast_allForms _).mono ?_
  rintro r w' ⟨m1, m2, m3, rfl, ⟨x, hx⟩, hm⟩
  rw [plus_plus] at hx
  obtain ⟨x0, rfl⟩ : ∃ x0, w' = plus W0 x0 := ⟨_, hx⟩
  clear hx
  have hm := Lib.hid hm
  have cx0 := fun a => cell_alloc (ca0 x0) a
  have cx1 := fun a => cell_alloc (ca1 x0) a
  have cx2 := fun a => cell_alloc (ca2 x0) a
  have cx3 := fun a => cell_alloc (ca3 x0) a
  have cx4 := fun a => cell_alloc (ca4 x0) a
  have cx5 := fun a => cell_alloc (ca5 x0) a
  have cx6 := fun a => cell_alloc (ca6 x0) a
  go_wp2_with fail
  obtain ⟨W, y1, hW, ⟨z1, hz1⟩, cb⟩ := box1n (plus W0 x0) _ 87
  rw [hW]
  have cb0 := cb 0 _ rfl
  have cb1 := cb 1 _ rfl
  have cb2 := cb 2 _ rfl
  have cp0 := fun y => cell_keep (cell_at hz1 (ca0 x0)) y
  have cp1 := fun y => cell_keep (cell_at hz1 (ca1 x0)) y
  have cp2 := fun y => cell_keep (cell_at hz1 (ca2 x0)) y
  have cp3 := fun y => cell_keep (cell_at hz1 (ca3 x0)) y
  have cp4 := fun y => cell_keep (cell_at hz1 (ca4 x0)) y
  have cp5 := fun y => cell_keep (cell_at hz1 (ca5 x0)) y
  have cp6 := fun y => cell_keep (cell_at hz1 (ca6 x0)) y
  obtain ⟨zz, hzz⟩ : ∃ zz, W = plus V zz := ⟨_, by rw [hz1, hz2.out, plus_plus, plus_plus]⟩
  have hmW : FormsIn W m1 m2 m3 := hz1 ▸ hm.out.plus z1
  have q0 := Lib.hid (kp_at hzz h0.out)
  have q1 := Lib.hid (kp_at hzz h1.out)
  have q2 := Lib.hid ((h2.out W zz m1 m2 m3 hzz hmW).pure)
  have q3 := Lib.hid ((h3.out W zz m1 m2 m3 hzz hmW).pure)
  have q4 := Lib.hid ((h4.out W zz m1 m2 m3 hzz hmW).pure)
  have q5 := Lib.hid ((h5.out W zz m1 m2 m3 hzz hmW).pure)
  have q6 := Lib.hid (kp_at hzz h6.out)
  have hz' := Lib.hid hzz
  clear hW hz2 hz1 hzz cb hmW hm h0 h1 h2 h3 h4 h5 h6 ca0 cx0 ca1 cx1 ca2 cx2 ca3 cx3 ca4 cx4 ca5 cx5 ca6 cx6
  refine (q0.out _).mono ?_
  rintro r w' ⟨rfl, x1, rfl⟩
  go_wp2_with (first | (go_at_call 36; with_reducible refine (q1.out _).mono ?_; rintro r w' ⟨rfl, x, rfl⟩) | (go_at_call 38; with_reducible refine (q2.out _).mono ?_; rintro r w' ⟨rfl, x, rfl⟩) | (go_at_call 40; with_reducible refine (q3.out _).mono ?_; rintro r w' ⟨rfl, x, rfl⟩) | (go_at_call 42; with_reducible refine (q4.out _).mono ?_; rintro r w' ⟨rfl, x, rfl⟩) | (go_at_call 44; with_reducible refine (q5.out _).mono ?_; rintro r w' ⟨rfl, x, rfl⟩) | (go_at_call 45; with_reducible refine (q6.out _).mono ?_; rintro r w' ⟨rfl, x, rfl⟩))
  go_ret
  exact ⟨congrArg (fun z => Ending.returned (Value.bool z)) hF.out, by rw [hz'.out, plus_plus]; exact ⟨_, rfl⟩⟩
def prB (p : Pr) : Bool := eachB 0 8 hrB p.headers.l && (eachB 0 16 fdB p.metas.l && (eachB 1 16 saB p.states.l && (eachB 0 16 acB p.actions.l && (eachB 0 8 taB p.tables.l && (St.mayB 8 p.control.l && eachB 0 8 nameB p.emit.l)))))
theorem ast_may (p : Pr) (w : World) (h : p.In w) (hz : p.sz ≤ 1048576) : Kp Try.prog w 11 #[.agg p.cells.toArray] (.bool (prB p)) := by
  unfold Pr.sz at hz
  have z0 : p.headers.size Hr.sz ≤ 1048576 := by omega
  have z2 : p.states.size Sa.sz ≤ 1048576 := by omega
  have z3 : p.actions.size Ac.sz ≤ 1048576 := by omega
  have z4 : p.tables.size Ta.sz ≤ 1048576 := by omega
  refine may_of p.headers.p p.headers.l.length p.headers.cap p.metas.p p.metas.l.length p.metas.cap p.states.p p.states.l.length p.states.cap p.actions.p p.actions.l.length p.actions.cap p.tables.p p.tables.l.length p.tables.cap p.control.p p.control.l.length p.control.cap p.emit.p p.emit.l.length p.emit.cap _ _ _ _ _ _ _ w
    (each_Header Hr.cells shp_hr hrB 35 #[] #[] _ w p.headers 0 8 h.headers (len_le Hr.sz sz_pos_hr _ z0) (enters_of Try.func35 (by kernel_rfl) rfl) (fun x hx => header_in x w (h.headers.kids x hx) (one_sz z0 hx)))
    (fields_in p.metas 0 16 w h.metas (by omega)) ?_ ?_ ?_ ?_ (names_in p.emit 0 8 w h.emit (by omega))
  · intro W z m1 m2 m3 hW hm
    have hC : Sl.In W 5 Sa.cells (Sa.In W) p.states := hW ▸ h.states.plus (fun _ a => a.plus z) z
    exact each_State Sa.cells shp_sa saB 39 #[fmV m1 m2 m3] #[] _ W p.states 1 16 hC (len_le Sa.sz sz_pos_sa _ z2) (enters_of Try.func39 (by kernel_rfl) rfl) (fun x hx => state_in x m1 m2 m3 W (hC.kids x hx) (one_sz z2 hx) hm)
  · intro W z m1 m2 m3 hW hm
    have hC : Sl.In W 3 Ac.cells (Ac.In W) p.actions := hW ▸ h.actions.plus (fun _ a => a.plus z) z
    exact each_Action Ac.cells shp_ac acB 41 #[fmV m1 m2 m3] #[] _ W p.actions 0 16 hC (len_le Ac.sz sz_pos_ac _ z3) (enters_of Try.func41 (by kernel_rfl) rfl) (fun x hx => action_in x m1 m2 m3 W (hC.kids x hx) (one_sz z3 hx) hm)
  · intro W z m1 m2 m3 hW hm
    have hC : Sl.In W 5 Ta.cells (Ta.In W) p.tables := hW ▸ h.tables.plus (fun _ a => a.plus z) z
    exact each_Table Ta.cells shp_ta taB 43 #[fmV m1 m2 m3] #[] _ W p.tables 0 8 hC (len_le Ta.sz sz_pos_ta _ z4) (enters_of Try.func43 (by kernel_rfl) rfl) (fun x hx => table_in x m1 m2 m3 W (hC.kids x hx) (one_sz z4 hx) hm)
  · intro W z m1 m2 m3 hW hm
    have hC : p.control.In W 14 St.cells (St.In W) := hW ▸ h.control.plus (fun _ a => a.plus z) z
    exact mayblock_in p.control m1 m2 m3 W hC (by omega) hm
end Go.Proofs.Ytpnaibfefpeikaa
