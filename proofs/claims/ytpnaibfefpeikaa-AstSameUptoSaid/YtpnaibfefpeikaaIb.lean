/-
  WHAT IS PROVED HERE: the walk of the law AstSame, by what its callees hand back. Written by gen/hc.py.
-/
import Derived.Test.YtpnaibfefpeikaaRows
import Derived.Test.YtpnaibfefpeikaaIc
import Derived.WalkKit
import Derived.Laws.AppendOwn
import Derived.OwnWalk
import Derived.Deep.Upon
import Derived.Lib.Hide
import Derived.WalkSpells
import Derived.WalkLawsBesides
import Derived.Laws.EntriesVeiled
import Derived.Shelf.Abstract
namespace Go.Proofs.Ytpnaibfefpeikaa
open Go.RowKit
set_option maxRecDepth 100000 in
set_option maxHeartbeats 80000000 in
theorem law_of (a0p : Option Addr) (a0n : Nat) (a0c : Nat) (a1p : Option Addr) (a1n : Nat) (a1c : Nat) (a2p : Option Addr) (a2n : Nat) (a2c : Nat) (a3p : Option Addr) (a3n : Nat) (a3c : Nat) (a4p : Option Addr) (a4n : Nat) (a4c : Nat) (a5p : Option Addr) (a5n : Nat) (a5c : Nat) (a6p : Option Addr) (a6n : Nat) (a6c : Nat) (b0p : Option Addr) (b0n : Nat) (b0c : Nat) (b1p : Option Addr) (b1n : Nat) (b1c : Nat) (b2p : Option Addr) (b2n : Nat) (b2c : Nat) (b3p : Option Addr) (b3n : Nat) (b3c : Nat) (b4p : Option Addr) (b4n : Nat) (b4c : Nat) (b5p : Option Addr) (b5n : Nat) (b5c : Nat) (b6p : Option Addr) (b6n : Nat) (b6c : Nat) (e0 : Int) (e1 : Int) (e2 : Int) (e3 : Int) (e4 : ByteArray) (e5 : ByteArray) (e6 : Int) (e7 : Int) (e8p : Option Addr) (e8n : Nat) (e8c : Nat) (ga gb ge s m p p2 : Bool) (D : Nat) (I J N : Int) (l : List ByteArray) (w : World)
    (hg1 : Kp Try.prog w 4 #[.agg #[.slice a0p a0n a0c, .slice a1p a1n a1c, .slice a2p a2n a2c, .slice a3p a3n a3c, .slice a4p a4n a4c, .slice a5p a5n a5c, .slice a6p a6n a6c]] (.bool ga))
    (hg2 : Kp Try.prog w 4 #[.agg #[.slice b0p b0n b0c, .slice b1p b1n b1c, .slice b2p b2n b2c, .slice b3p b3n b3c, .slice b4p b4n b4c, .slice b5p b5n b5c, .slice b6p b6n b6c]] (.bool gb))
    (hg3 : Kp Try.prog w 5 #[.agg #[.int .u8 e0, .int .i64 e1, .int .u64 e2, .int .u64 e3, .string e4, .string e5, .int .i64 e6, .int .i64 e7, .slice e8p e8n e8c]] (.bool ge))
    (haa : Kp Try.prog w 7 #[.agg #[.slice a0p a0n a0c, .slice a1p a1n a1c, .slice a2p a2n a2c, .slice a3p a3n a3c, .slice a4p a4n a4c, .slice a5p a5n a5c, .slice a6p a6n a6c], .agg #[.slice a0p a0n a0c, .slice a1p a1n a1c, .slice a2p a2n a2c, .slice a3p a3n a3c, .slice a4p a4n a4c, .slice a5p a5n a5c, .slice a6p a6n a6c]] (.bool true))
    (hee : Kp Try.prog w 8 #[.agg #[.int .u8 e0, .int .i64 e1, .int .u64 e2, .int .u64 e3, .string e4, .string e5, .int .i64 e6, .int .i64 e7, .slice e8p e8n e8c], .agg #[.int .u8 e0, .int .i64 e1, .int .u64 e2, .int .u64 e3, .string e4, .string e5, .int .i64 e6, .int .i64 e7, .slice e8p e8n e8c]] (.bool true))
    (hab : Kp Try.prog w 7 #[.agg #[.slice a0p a0n a0c, .slice a1p a1n a1c, .slice a2p a2n a2c, .slice a3p a3n a3c, .slice a4p a4n a4c, .slice a5p a5n a5c, .slice a6p a6n a6c], .agg #[.slice b0p b0n b0c, .slice b1p b1n b1c, .slice b2p b2n b2c, .slice b3p b3n b3c, .slice b4p b4n b4c, .slice b5p b5n b5c, .slice b6p b6n b6c]] (.bool s))
    (hba : Kp Try.prog w 7 #[.agg #[.slice b0p b0n b0c, .slice b1p b1n b1c, .slice b2p b2n b2c, .slice b3p b3n b3c, .slice b4p b4n b4c, .slice b5p b5n b5c, .slice b6p b6n b6c], .agg #[.slice a0p a0n a0c, .slice a1p a1n a1c, .slice a2p a2n a2c, .slice a3p a3n a3c, .slice a4p a4n a4c, .slice a5p a5n a5c, .slice a6p a6n a6c]] (.bool s))
    (hde : Kp Try.prog w 9 #[.agg #[.int .u8 e0, .int .i64 e1, .int .u64 e2, .int .u64 e3, .string e4, .string e5, .int .i64 e6, .int .i64 e7, .slice e8p e8n e8c]] (.int .i64 (D : Int)))
    (hme : Kp Try.prog w 10 #[.agg #[.int .u8 e0, .int .i64 e1, .int .u64 e2, .int .u64 e3, .string e4, .string e5, .int .i64 e6, .int .i64 e7, .slice e8p e8n e8c]] (.bool m))
    (hma : Kp Try.prog w 11 #[.agg #[.slice a0p a0n a0c, .slice a1p a1n a1c, .slice a2p a2n a2c, .slice a3p a3n a3c, .slice a4p a4n a4c, .slice a5p a5n a5c, .slice a6p a6n a6c]] (.bool p))
    (hmb : Kp Try.prog w 11 #[.agg #[.slice b0p b0n b0c, .slice b1p b1n b1c, .slice b2p b2n b2c, .slice b3p b3n b3c, .slice b4p b4n b4c, .slice b5p b5n b5c, .slice b6p b6n b6c]] (.bool p2))
    (hia : Kp Try.prog w 12 #[.agg #[.slice a0p a0n a0c, .slice a1p a1n a1c, .slice a2p a2n a2c, .slice a3p a3n a3c, .slice a4p a4n a4c, .slice a5p a5n a5c, .slice a6p a6n a6c]] (.int .i64 I))
    (hib : Kp Try.prog w 12 #[.agg #[.slice b0p b0n b0c, .slice b1p b1n b1c, .slice b2p b2n b2c, .slice b3p b3n b3c, .slice b4p b4n b4c, .slice b5p b5n b5c, .slice b6p b6n b6c]] (.int .i64 J))
    (hD : 1 ≤ D ∧ (m = true → D ≤ 16))
    (hs : s = true → p = p2 ∧ I = J)
    (hI : wrap64 (I + 1) = N)
    (hl : l.length = a6n)
    (hln : a6n ≤ 1048576)
    (hrow : RowAt w 1 strCells a6p l)
    (hkn : ∀ V : World, Calls Try.prog 6 #[] V fun e w' => e = .returned (.bool true) ∧ ∃ x, w' = plus V x)
    (hC : ga = false → ∀ W z q cap, W = plus w z → a6n + 1 ≤ cap → cap ≤ maxLen → RowAt W 1 strCells q (l ++ [⟨#[120]⟩]) → Kp Try.prog W 7 #[.agg #[.slice a0p a0n a0c, .slice a1p a1n a1c, .slice a2p a2n a2c, .slice a3p a3n a3c, .slice a4p a4n a4c, .slice a5p a5n a5c, .slice a6p a6n a6c], .agg #[.slice a0p a0n a0c, .slice a1p a1n a1c, .slice a2p a2n a2c, .slice a3p a3n a3c, .slice a4p a4n a4c, .slice a5p a5n a5c, .slice q (a6n + 1) cap]] (.bool false) ∧ Kp Try.prog W 12 #[.agg #[.slice a0p a0n a0c, .slice a1p a1n a1c, .slice a2p a2n a2c, .slice a3p a3n a3c, .slice a4p a4n a4c, .slice a5p a5n a5c, .slice q (a6n + 1) cap]] (.int .i64 N)) :
    Kp Try.prog w 3 #[.agg #[.slice a0p a0n a0c, .slice a1p a1n a1c, .slice a2p a2n a2c, .slice a3p a3n a3c, .slice a4p a4n a4c, .slice a5p a5n a5c, .slice a6p a6n a6c], .agg #[.slice b0p b0n b0c, .slice b1p b1n b1c, .slice b2p b2n b2c, .slice b3p b3n b3c, .slice b4p b4n b4c, .slice b5p b5n b5c, .slice b6p b6n b6c], .agg #[.int .u8 e0, .int .i64 e1, .int .u64 e2, .int .u64 e3, .string e4, .string e5, .int .i64 e6, .int .i64 e7, .slice e8p e8n e8c]] (.bool true) := by
  intro y0
  have hg1 := hg1.up y0
  have hg2 := hg2.up y0
  have hg3 := hg3.up y0
  have haa := haa.up y0
  have hee := hee.up y0
  have hab := hab.up y0
  have hba := hba.up y0
  have hde := hde.up y0
  have hme := hme.up y0
  have hma := hma.up y0
  have hmb := hmb.up y0
  have hia := hia.up y0
  have hib := hib.up y0
  have hrow := hrow.plus y0
  have hC : ga = false → ∀ W z q cap, W = plus (plus w y0) z → a6n + 1 ≤ cap → cap ≤ maxLen → RowAt W 1 strCells q (l ++ [⟨#[120]⟩]) → Kp Try.prog W 7 #[.agg #[.slice a0p a0n a0c, .slice a1p a1n a1c, .slice a2p a2n a2c, .slice a3p a3n a3c, .slice a4p a4n a4c, .slice a5p a5n a5c, .slice a6p a6n a6c], .agg #[.slice a0p a0n a0c, .slice a1p a1n a1c, .slice a2p a2n a2c, .slice a3p a3n a3c, .slice a4p a4n a4c, .slice a5p a5n a5c, .slice q (a6n + 1) cap]] (.bool false) ∧ Kp Try.prog W 12 #[.agg #[.slice a0p a0n a0c, .slice a1p a1n a1c, .slice a2p a2n a2c, .slice a3p a3n a3c, .slice a4p a4n a4c, .slice a5p a5n a5c, .slice q (a6n + 1) cap]] (.int .i64 N) := fun hga W z q cap hW => hC hga W _ q cap (hW.trans (plus_plus _ _ _))
  obtain ⟨V, hV⟩ : ∃ V, plus w y0 = V := ⟨_, rfl⟩
  rw [hV] at hg1 hg2 hg3 haa hee hab hba hde hme hma hmb hia hib hrow hC ⊢
  clear hV
  have hg1' := Lib.hid hg1
  have hg2' := Lib.hid hg2
  have hg3' := Lib.hid hg3
  have haa' := Lib.hid haa
  have hee' := Lib.hid hee
  have hab' := Lib.hid hab
  have hba' := Lib.hid hba
  have hde' := Lib.hid hde
  have hme' := Lib.hid hme
  have hma' := Lib.hid hma
  have hmb' := Lib.hid hmb
  have hia' := Lib.hid hia
  have hib' := Lib.hid hib
  have hrow' := Lib.hid hrow
  have hC' := Lib.hid hC
  have hD' := Lib.hid hD
  have hs' := Lib.hid hs
  have hI' := Lib.hid hI
  have hl' := Lib.hid hl
  have hln' := Lib.hid hln
  have hkn' := Lib.hid hkn
  clear hg1 hg2 hg3 haa hee hab hba hde hme hma hmb hia hib hrow hC hD hs hI hl hln hkn
  cases ga
  case true =>
    go_enter Try.func3, Try.ntmps3
    go_wp2_with fail
    obtain ⟨W, yy, hW, ⟨z, hz⟩, ca, cb, ce⟩ := box3n V _ _ _ 30 30 38
    rw [hW]
    have ca0 := ca 0 _ rfl
    have ca1 := ca 1 _ rfl
    have ca2 := ca 2 _ rfl
    have ca3 := ca 3 _ rfl
    have ca4 := ca 4 _ rfl
    have ca5 := ca 5 _ rfl
    have ca6 := ca 6 _ rfl
    have cb0 := cb 0 _ rfl
    have cb1 := cb 1 _ rfl
    have cb2 := cb 2 _ rfl
    have cb3 := cb 3 _ rfl
    have cb4 := cb 4 _ rfl
    have cb5 := cb 5 _ rfl
    have cb6 := cb 6 _ rfl
    have ce0 := ce 0 _ rfl
    have ce1 := ce 1 _ rfl
    have ce2 := ce 2 _ rfl
    have ce3 := ce 3 _ rfl
    have ce4 := ce 4 _ rfl
    have ce5 := ce 5 _ rfl
    have ce6 := ce 6 _ rfl
    have ce7 := ce 7 _ rfl
    have ce8 := ce 8 _ rfl
    have hg1W := Lib.hid (kp_at hz hg1'.out)
    have hknW := Lib.hid (fun y => (hkn'.out (plus W y)).mono fun e w' (h : e = .returned (.bool true) ∧ ∃ x, w' = plus (plus W y) x) => (⟨h.1, by obtain ⟨x, hx⟩ := h.2; exact ⟨_, hx.trans (plus_plus _ _ _)⟩⟩ : e = .returned (.bool true) ∧ ∃ x, w' = plus W x))
    have hz' := Lib.hid hz
    clear hW hz ca cb ce
    refine (hg1W.out _).mono ?_
    rintro r w' ⟨rfl, x1, rfl⟩
    go_wp2_with (first | (go_at_call 6; with_reducible refine (hknW.out _).mono ?_; rintro r w' ⟨rfl, x, rfl⟩))
    go_ret
    exact ⟨rfl, by rw [hz'.out, plus_plus]; exact ⟨_, rfl⟩⟩
  cases gb
  case true =>
    go_enter Try.func3, Try.ntmps3
    go_wp2_with fail
    obtain ⟨W, yy, hW, ⟨z, hz⟩, ca, cb, ce⟩ := box3n V _ _ _ 30 30 38
    rw [hW]
    have ca0 := ca 0 _ rfl
    have ca1 := ca 1 _ rfl
    have ca2 := ca 2 _ rfl
    have ca3 := ca 3 _ rfl
    have ca4 := ca 4 _ rfl
    have ca5 := ca 5 _ rfl
    have ca6 := ca 6 _ rfl
    have cb0 := cb 0 _ rfl
    have cb1 := cb 1 _ rfl
    have cb2 := cb 2 _ rfl
    have cb3 := cb 3 _ rfl
    have cb4 := cb 4 _ rfl
    have cb5 := cb 5 _ rfl
    have cb6 := cb 6 _ rfl
    have ce0 := ce 0 _ rfl
    have ce1 := ce 1 _ rfl
    have ce2 := ce 2 _ rfl
    have ce3 := ce 3 _ rfl
    have ce4 := ce 4 _ rfl
    have ce5 := ce 5 _ rfl
    have ce6 := ce 6 _ rfl
    have ce7 := ce 7 _ rfl
    have ce8 := ce 8 _ rfl
    have hg1W := Lib.hid (kp_at hz hg1'.out)
    have hg2W := Lib.hid (kp_at hz hg2'.out)
    have hknW := Lib.hid (fun y => (hkn'.out (plus W y)).mono fun e w' (h : e = .returned (.bool true) ∧ ∃ x, w' = plus (plus W y) x) => (⟨h.1, by obtain ⟨x, hx⟩ := h.2; exact ⟨_, hx.trans (plus_plus _ _ _)⟩⟩ : e = .returned (.bool true) ∧ ∃ x, w' = plus W x))
    have hz' := Lib.hid hz
    clear hW hz ca cb ce
    refine (hg1W.out _).mono ?_
    rintro r w' ⟨rfl, x1, rfl⟩
    go_wp2_with (first | (go_at_call 4; with_reducible refine (hg2W.out _).mono ?_; rintro r w' ⟨rfl, x, rfl⟩) | (go_at_call 6; with_reducible refine (hknW.out _).mono ?_; rintro r w' ⟨rfl, x, rfl⟩))
    go_ret
    exact ⟨rfl, by rw [hz'.out, plus_plus]; exact ⟨_, rfl⟩⟩
  cases ge
  case true =>
    go_enter Try.func3, Try.ntmps3
    go_wp2_with fail
    obtain ⟨W, yy, hW, ⟨z, hz⟩, ca, cb, ce⟩ := box3n V _ _ _ 30 30 38
    rw [hW]
    have ca0 := ca 0 _ rfl
    have ca1 := ca 1 _ rfl
    have ca2 := ca 2 _ rfl
    have ca3 := ca 3 _ rfl
    have ca4 := ca 4 _ rfl
    have ca5 := ca 5 _ rfl
    have ca6 := ca 6 _ rfl
    have cb0 := cb 0 _ rfl
    have cb1 := cb 1 _ rfl
    have cb2 := cb 2 _ rfl
    have cb3 := cb 3 _ rfl
    have cb4 := cb 4 _ rfl
    have cb5 := cb 5 _ rfl
    have cb6 := cb 6 _ rfl
    have ce0 := ce 0 _ rfl
    have ce1 := ce 1 _ rfl
    have ce2 := ce 2 _ rfl
    have ce3 := ce 3 _ rfl
    have ce4 := ce 4 _ rfl
    have ce5 := ce 5 _ rfl
    have ce6 := ce 6 _ rfl
    have ce7 := ce 7 _ rfl
    have ce8 := ce 8 _ rfl
    have hg1W := Lib.hid (kp_at hz hg1'.out)
    have hg2W := Lib.hid (kp_at hz hg2'.out)
    have hg3W := Lib.hid (kp_at hz hg3'.out)
    have hknW := Lib.hid (fun y => (hkn'.out (plus W y)).mono fun e w' (h : e = .returned (.bool true) ∧ ∃ x, w' = plus (plus W y) x) => (⟨h.1, by obtain ⟨x, hx⟩ := h.2; exact ⟨_, hx.trans (plus_plus _ _ _)⟩⟩ : e = .returned (.bool true) ∧ ∃ x, w' = plus W x))
    have hz' := Lib.hid hz
    clear hW hz ca cb ce
    refine (hg1W.out _).mono ?_
    rintro r w' ⟨rfl, x1, rfl⟩
    go_wp2_with (first | (go_at_call 4; with_reducible refine (hg2W.out _).mono ?_; rintro r w' ⟨rfl, x, rfl⟩) | (go_at_call 5; with_reducible refine (hg3W.out _).mono ?_; rintro r w' ⟨rfl, x, rfl⟩) | (go_at_call 6; with_reducible refine (hknW.out _).mono ?_; rintro r w' ⟨rfl, x, rfl⟩))
    go_ret
    exact ⟨rfl, by rw [hz'.out, plus_plus]; exact ⟨_, rfl⟩⟩
  go_enter Try.func3, Try.ntmps3
  go_wp2_with fail
  obtain ⟨W, yy, hW, ⟨z, hz⟩, ca, cb, ce⟩ := box3n V _ _ _ 30 30 38
  rw [hW]
  have ca0 := ca 0 _ rfl
  have ca1 := ca 1 _ rfl
  have ca2 := ca 2 _ rfl
  have ca3 := ca 3 _ rfl
  have ca4 := ca 4 _ rfl
  have ca5 := ca 5 _ rfl
  have ca6 := ca 6 _ rfl
  have cb0 := cb 0 _ rfl
  have cb1 := cb 1 _ rfl
  have cb2 := cb 2 _ rfl
  have cb3 := cb 3 _ rfl
  have cb4 := cb 4 _ rfl
  have cb5 := cb 5 _ rfl
  have cb6 := cb 6 _ rfl
  have ce0 := ce 0 _ rfl
  have ce1 := ce 1 _ rfl
  have ce2 := ce 2 _ rfl
  have ce3 := ce 3 _ rfl
  have ce4 := ce 4 _ rfl
  have ce5 := ce 5 _ rfl
  have ce6 := ce 6 _ rfl
  have ce7 := ce 7 _ rfl
  have ce8 := ce 8 _ rfl
  have hg1W := Lib.hid (kp_at hz hg1'.out)
  have hg2W := Lib.hid (kp_at hz hg2'.out)
  have hg3W := Lib.hid (kp_at hz hg3'.out)
  have haaW := Lib.hid (kp_at hz haa'.out)
  have heeW := Lib.hid (kp_at hz hee'.out)
  have habW := Lib.hid (kp_at hz hab'.out)
  have hbaW := Lib.hid (kp_at hz hba'.out)
  have hdeW := Lib.hid (kp_at hz hde'.out)
  have hmeW := Lib.hid (kp_at hz hme'.out)
  have hmaW := Lib.hid (kp_at hz hma'.out)
  have hmbW := Lib.hid (kp_at hz hmb'.out)
  have hiaW := Lib.hid (kp_at hz hia'.out)
  have hibW := Lib.hid (kp_at hz hib'.out)
  have hknW := Lib.hid (fun y => (hkn'.out (plus W y)).mono fun e w' (h : e = .returned (.bool true) ∧ ∃ x, w' = plus (plus W y) x) => (⟨h.1, by obtain ⟨x, hx⟩ := h.2; exact ⟨_, hx.trans (plus_plus _ _ _)⟩⟩ : e = .returned (.bool true) ∧ ∃ x, w' = plus W x))
  have hz' := Lib.hid hz
  clear hW hz ca cb ce
  refine (hg1W.out _).mono ?_
  rintro r w' ⟨rfl, x1, rfl⟩
  go_wp2_with (first | (go_at_call 4; with_reducible refine (hg2W.out _).mono ?_; rintro r w' ⟨rfl, x, rfl⟩) | (go_at_call 5; with_reducible refine (hg3W.out _).mono ?_; rintro r w' ⟨rfl, x, rfl⟩))
  have d1 : ((D : Int) < 1) = False := eq_false (by have := hD'.out.1; omega)
  have d1b : decide ((D : Int) < 1) = false := decide_eq_false (by have := hD'.out.1; omega)
  go_cut [51] from 19 to 51 (fun v wx => v = .bool false ∧ ∃ y, wx = plus W y)
  case first =>
    cases s
    case false =>
      cases m
      case false =>
        refine wp_region_own (by kernel_rfl) (by kernel_rfl) ?_
        repeat (go_big_quiet_step (first | (with_reducible exact haaW.out _) | (with_reducible exact heeW.out _) | (with_reducible exact habW.out _) | (with_reducible exact hbaW.out _) | (with_reducible exact hdeW.out _) | (with_reducible exact hmeW.out _)))
        refine wpQuiet_nil ?_
        rintro _ ⟨y1, rfl⟩
        go_wp2
        go_meet
        exact ⟨rfl, y1, rfl⟩
      case true =>
        have d2 : decide ((16 : Int) < (D : Int)) = false := decide_eq_false (by have := hD'.out.2 rfl; omega)
        refine wp_region_own (by kernel_rfl) (by kernel_rfl) ?_
        repeat (go_big_quiet_step (first | (with_reducible exact haaW.out _) | (with_reducible exact heeW.out _) | (with_reducible exact habW.out _) | (with_reducible exact hbaW.out _) | (with_reducible exact hdeW.out _) | (with_reducible exact hmeW.out _)))
        refine wpQuiet_nil ?_
        rintro _ ⟨y1, rfl⟩
        go_wp2
        go_meet
        exact ⟨rfl, y1, rfl⟩
    case true =>
      cases m
      case false =>
        refine wp_region_own (by kernel_rfl) (by kernel_rfl) ?_
        repeat (go_big_quiet_step (first | (with_reducible exact haaW.out _) | (with_reducible exact heeW.out _) | (with_reducible exact habW.out _) | (with_reducible exact hbaW.out _) | (with_reducible exact hdeW.out _) | (with_reducible exact hmeW.out _)))
        refine wpQuiet_nil ?_
        rintro _ ⟨y1, rfl⟩
        go_wp2
        go_meet
        exact ⟨rfl, y1, rfl⟩
      case true =>
        have d2 : decide ((16 : Int) < (D : Int)) = false := decide_eq_false (by have := hD'.out.2 rfl; omega)
        refine wp_region_own (by kernel_rfl) (by kernel_rfl) ?_
        repeat (go_big_quiet_step (first | (with_reducible exact haaW.out _) | (with_reducible exact heeW.out _) | (with_reducible exact habW.out _) | (with_reducible exact hbaW.out _) | (with_reducible exact hdeW.out _) | (with_reducible exact hmeW.out _)))
        refine wpQuiet_nil ?_
        rintro _ ⟨y1, rfl⟩
        go_wp2
        go_meet
        exact ⟨rfl, y1, rfl⟩
  case rest =>
    obtain ⟨rfl, y, rfl⟩ := hcut
    go_wp2
    go_cut [68] from 52 to 68 (fun v wx => v = .bool false ∧ ∃ y, wx = plus W y)
    case first =>
      cases s
      case false =>
        refine wp_region_own (by kernel_rfl) (by kernel_rfl) ?_
        repeat (go_big_quiet_step (first | (with_reducible exact habW.out _)))
        refine wpQuiet_nil ?_
        rintro _ ⟨y1, rfl⟩
        go_wp2
        go_meet
        exact ⟨rfl, y1, rfl⟩
      case true =>
        obtain ⟨rfl, rfl⟩ := hs'.out rfl
        cases p
        case false =>
          refine wp_region_own (by kernel_rfl) (by kernel_rfl) ?_
          repeat (go_big_quiet_step (first | (with_reducible exact habW.out _) | (with_reducible exact hmaW.out _) | (with_reducible exact hmbW.out _) | (with_reducible exact hiaW.out _) | (with_reducible exact hibW.out _)))
          refine wpQuiet_nil ?_
          rintro _ ⟨y1, rfl⟩
          go_wp2
          go_meet
          exact ⟨rfl, y1, rfl⟩
        case true =>
          refine wp_region_own (by kernel_rfl) (by kernel_rfl) ?_
          repeat (go_big_quiet_step (first | (with_reducible exact habW.out _) | (with_reducible exact hmaW.out _) | (with_reducible exact hmbW.out _) | (with_reducible exact hiaW.out _) | (with_reducible exact hibW.out _)))
          refine wpQuiet_nil ?_
          rintro _ ⟨y1, rfl⟩
          go_wp2
          go_meet
          exact ⟨rfl, y1, rfl⟩
    case rest =>
      obtain ⟨rfl, y2, rfl⟩ := hcut
      have cx6 := fun a b => cell_alloc (cell_alloc (ca6 y2) a) b
      have hszU : ((plus W y2).alloc (.cells #[.slice a0p a0n a0c, .slice a1p a1n a1c, .slice a2p a2n a2c, .slice a3p a3n a3c, .slice a4p a4n a4c, .slice a5p a5n a5c, .slice a6p a6n a6c] 30)).heap.size = (plus W y2).heap.size + 1 := by simp
      have hBU := Lib.hid ((Below.refl (plus W y2).heap.size (plus W y2)).alloc (Nat.le_refl _) (.cells #[.slice a0p a0n a0c, .slice a1p a1n a1c, .slice a2p a2n a2c, .slice a3p a3n a3c, .slice a4p a4n a4c, .slice a5p a5n a5c, .slice a6p a6n a6c] 30))
      have hBG := Lib.hid ((Below.refl ((plus W y2).alloc (.cells #[.slice a0p a0n a0c, .slice a1p a1n a1c, .slice a2p a2n a2c, .slice a3p a3n a3c, .slice a4p a4n a4c, .slice a5p a5n a5c, .slice a6p a6n a6c] 30)).heap.size ((plus W y2).alloc (.cells #[.slice a0p a0n a0c, .slice a1p a1n a1c, .slice a2p a2n a2c, .slice a3p a3n a3c, .slice a4p a4n a4c, .slice a5p a5n a5c, .slice a6p a6n a6c] 30))).alloc (Nat.le_refl _) (.cells #[] 9))
      have hrG := Lib.hid (show RowAt (((plus W y2).alloc (.cells #[.slice a0p a0n a0c, .slice a1p a1n a1c, .slice a2p a2n a2c, .slice a3p a3n a3c, .slice a4p a4n a4c, .slice a5p a5n a5c, .slice a6p a6n a6c] 30)).alloc (.cells #[] 9)) 1 strCells a6p l by obtain ⟨x, hx⟩ := plus_alloc2 W y2 (.cells #[.slice a0p a0n a0c, .slice a1p a1n a1c, .slice a2p a2n a2c, .slice a3p a3n a3c, .slice a4p a4n a4c, .slice a5p a5n a5c, .slice a6p a6n a6c] 30) (.cells #[] 9); rw [hx, hz'.out, plus_plus]; exact hrow'.out.plus _)
      have hn0 : 0 + a6n ≤ 2097152 := by have := hln'.out; omega
      have hoE := Lib.hid (own_empty ((plus W y2).alloc (.cells #[.slice a0p a0n a0c, .slice a1p a1n a1c, .slice a2p a2n a2c, .slice a3p a3n a3c, .slice a4p a4n a4c, .slice a5p a5n a5c, .slice a6p a6n a6c] 30)))
      rw [hszU] at hoE
      have hszU' := Lib.hid hszU
      clear hszU
      obtain ⟨i0, hi0, hi1, hi2, hi3⟩ := info_parts str_info
      go_wp2_with (first | (at_builtin; refine wpList_append_str rfl _ _ rfl _ _ 0 0 [] rfl hoE.out a6p a6n a6c l rfl hrG.out hl'.out hn0 (by simp) ?_; intro v1 w1 hown1 hgrow1; have hown1' := Lib.hid (own_zero hown1); have hgrow1' := Lib.hid hgrow1; clear hown1 hgrow1) | (at_builtin; refine wpList_append_lies _ rfl _ _ 28 rfl ((plus W y2).heap.size + 1) 9 i0 _ 1 16 Try.underlying28 hi0 hi1 hi2 hi3 rfl (by decide) _ _ _ rfl (hown1'.out.alloc _) ⟨w1.heap.size, 0, none⟩ 1 1 [.string ⟨#[120]⟩] rfl rfl (news_one w1 _ _) (one_one _) (by decide) (bnd1 hln'.out) (bnd2 hln'.out) (base_le hszU'.out hgrow1'.out) (w1.heap.size + 1) (by simp) ?_; intro g cap w2 hown2 hgrow2 _ hg2; have hown2' := Lib.hid hown2; have hB2 := Lib.hid (grown_two hszU'.out hgrow1'.out hown1'.out hgrow2); have f6 := box_cell hB2.out 6 _ rfl; have z6 := box_frozen hB2.out 6; clear hown2 hgrow2))
      obtain ⟨W3, hW3⟩ : ∃ W3, w2.setCell ⟨(plus W y2).heap.size, 6, none⟩ (.slice (some ⟨g, 0, none⟩) (a6n + 1) cap) = W3 := ⟨_, rfl⟩
      rw [hW3]
      obtain ⟨z3, hz3⟩ := ext_two hB2.out 6 (.slice (some ⟨g, 0, none⟩) (a6n + 1) cap)
      rw [hW3] at hz3
      have dc0 : ∀ y, (plus W3 y).cell? ⟨(plus W y2).heap.size, 0, none⟩ = some (.slice a0p a0n a0c) := fun y => cell_keep (by rw [← hW3]; exact box_set hB2.out 6 0 _ _ (by decide) rfl) y
      have dc1 : ∀ y, (plus W3 y).cell? ⟨(plus W y2).heap.size, 1, none⟩ = some (.slice a1p a1n a1c) := fun y => cell_keep (by rw [← hW3]; exact box_set hB2.out 6 1 _ _ (by decide) rfl) y
      have dc2 : ∀ y, (plus W3 y).cell? ⟨(plus W y2).heap.size, 2, none⟩ = some (.slice a2p a2n a2c) := fun y => cell_keep (by rw [← hW3]; exact box_set hB2.out 6 2 _ _ (by decide) rfl) y
      have dc3 : ∀ y, (plus W3 y).cell? ⟨(plus W y2).heap.size, 3, none⟩ = some (.slice a3p a3n a3c) := fun y => cell_keep (by rw [← hW3]; exact box_set hB2.out 6 3 _ _ (by decide) rfl) y
      have dc4 : ∀ y, (plus W3 y).cell? ⟨(plus W y2).heap.size, 4, none⟩ = some (.slice a4p a4n a4c) := fun y => cell_keep (by rw [← hW3]; exact box_set hB2.out 6 4 _ _ (by decide) rfl) y
      have dc5 : ∀ y, (plus W3 y).cell? ⟨(plus W y2).heap.size, 5, none⟩ = some (.slice a5p a5n a5c) := fun y => cell_keep (by rw [← hW3]; exact box_set hB2.out 6 5 _ _ (by decide) rfl) y
      have dc6 : ∀ y, (plus W3 y).cell? ⟨(plus W y2).heap.size, 6, none⟩ = some (.slice (some ⟨g, 0, none⟩) (a6n + 1) cap) := fun y => cell_keep (by rw [← hW3]; exact World.cell?_setCell_same _ _ _ f6) y
      have da0 : ∀ y, (plus W3 y).cell? ⟨V.heap.size, 0, none⟩ = some (.slice a0p a0n a0c) := fun y => cell_keep (by rw [hz3]; exact cell_keep (ca0 y2) z3) y
      have da1 : ∀ y, (plus W3 y).cell? ⟨V.heap.size, 1, none⟩ = some (.slice a1p a1n a1c) := fun y => cell_keep (by rw [hz3]; exact cell_keep (ca1 y2) z3) y
      have da2 : ∀ y, (plus W3 y).cell? ⟨V.heap.size, 2, none⟩ = some (.slice a2p a2n a2c) := fun y => cell_keep (by rw [hz3]; exact cell_keep (ca2 y2) z3) y
      have da3 : ∀ y, (plus W3 y).cell? ⟨V.heap.size, 3, none⟩ = some (.slice a3p a3n a3c) := fun y => cell_keep (by rw [hz3]; exact cell_keep (ca3 y2) z3) y
      have da4 : ∀ y, (plus W3 y).cell? ⟨V.heap.size, 4, none⟩ = some (.slice a4p a4n a4c) := fun y => cell_keep (by rw [hz3]; exact cell_keep (ca4 y2) z3) y
      have da5 : ∀ y, (plus W3 y).cell? ⟨V.heap.size, 5, none⟩ = some (.slice a5p a5n a5c) := fun y => cell_keep (by rw [hz3]; exact cell_keep (ca5 y2) z3) y
      have da6 : ∀ y, (plus W3 y).cell? ⟨V.heap.size, 6, none⟩ = some (.slice a6p a6n a6c) := fun y => cell_keep (by rw [hz3]; exact cell_keep (ca6 y2) z3) y
      obtain ⟨zz, hzz⟩ : ∃ zz, W3 = plus V zz := ⟨_, by rw [hz3, hz'.out, plus_plus, plus_plus]⟩
      obtain ⟨g', cap', he, hg1, hg3, hc1, hc2⟩ := own_slice hown2'.out ⟨g, cap, rfl⟩
      cases he
      have hr3 : RowAt W3 1 strCells (some ⟨g, 0, none⟩) (l ++ [⟨#[120]⟩]) := by rw [← hW3]; exact (own_row (n := a6n + 1) (cap := cap) (by rw [List.map_append]; exact hown2'.out)).setOther (fun e => by omega)
      obtain ⟨qs, qi⟩ := hC'.out (by first | trivial | rfl) W3 zz (some ⟨g, 0, none⟩) cap hzz hc1 hc2 hr3
      have qs' := Lib.hid qs.pure
      have qi' := Lib.hid qi.pure
      have qa' := Lib.hid (kp_at hzz hia'.out)
      have qk' := Lib.hid (fun y => (hkn'.out (plus W3 y)).mono fun e w' (h : e = .returned (.bool true) ∧ ∃ x, w' = plus (plus W3 y) x) => (⟨h.1, by obtain ⟨x, hx⟩ := h.2; exact ⟨_, hx.trans (plus_plus _ _ _)⟩⟩ : e = .returned (.bool true) ∧ ∃ x, w' = plus W3 x))
      have hw := hI'.out
      have hw2 : (N == wrap64 (I + 1)) = true := by rw [hw]; simp
      have hzz' := Lib.hid hzz
      clear hW3 hz3 hzz hr3 qs qi hg1 hg3 hc1 hc2 f6 z6
      refine wp_region_own0 (by kernel_rfl) (by kernel_rfl) ?_
      repeat (go_big_quiet_step (first | (with_reducible exact qs'.out _) | (with_reducible exact qi'.out _) | (with_reducible exact qa'.out _) | (with_reducible exact qk'.out _)))
      refine wpQuiet_nil ?_
      rintro _ ⟨y3, rfl⟩
      go_wp2
      go_ret
      exact ⟨rfl, by rw [hzz'.out, plus_plus]; exact ⟨_, rfl⟩⟩
end Go.Proofs.Ytpnaibfefpeikaa
