/-
  WHAT IS PROVED HERE: what the literals in forms.expr of the landed ast hand back, by what their callees hand back. Written by gen/hc.py.
-/
import Derived.Test.YtpnaibfefpeikaaRows
import Derived.Test.YtpnaibfefpeikaaHe
import Derived.WalkKit
import Derived.Lib.Hide
import Derived.WalkSpells
import Derived.WalkLawsBesides
import Derived.Laws.EntriesVeiled
import Derived.Shelf.Abstract
namespace Go.Proofs.Ytpnaibfefpeikaa
open Go.RowKit
def fv_may (fb c : Nat) : Value := .func (.func 55) #[] #[.pointer (some ⟨fb, 0, none⟩), .pointer (some ⟨c, 0, none⟩)]
set_option maxRecDepth 100000 in
set_option maxHeartbeats 8000000 in
theorem inner_of (a0 : Int) (a1 : Int) (a2 : Int) (a3 : Int) (a4 : ByteArray) (a5 : ByteArray) (a6 : Int) (a7 : Int) (a8p : Option Addr) (a8n : Nat) (a8c : Nat) (c rc fb : Nat) (k r : Int) (s0 : Bool) (w : World) (hc : w.cell? ⟨c, 0, none⟩ = some (.func (.func 55) #[] #[.pointer (some ⟨fb, 0, none⟩), .pointer (some ⟨c, 0, none⟩)])) (hr : w.cell? ⟨rc, 0, none⟩ = some (.int .i64 k)) (hk : wrap64 (k - 1) = r)
    (h0 : Kp Try.prog w 55 #[.agg #[.int .u8 a0, .int .i64 a1, .int .u64 a2, .int .u64 a3, .string a4, .string a5, .int .i64 a6, .int .i64 a7, .slice a8p a8n a8c], .int .i64 r, .pointer (some ⟨fb, 0, none⟩), .pointer (some ⟨c, 0, none⟩)] (.bool s0)) :
    Kp Try.prog w 58 #[.agg #[.int .u8 a0, .int .i64 a1, .int .u64 a2, .int .u64 a3, .string a4, .string a5, .int .i64 a6, .int .i64 a7, .slice a8p a8n a8c], .pointer (some ⟨c, 0, none⟩), .pointer (some ⟨rc, 0, none⟩)] (.bool (s0)) := by
  intro y0
  have h0 := h0.up y0
  have hc := cell_keep hc y0
  have hr := cell_keep hr y0
  obtain ⟨V, hV⟩ : ∃ V, plus w y0 = V := ⟨_, rfl⟩
  rw [hV] at h0 hc hr ⊢
  clear hV
  have hc2 := fun a => cell_alloc hc a
  have hr2 := fun a => cell_alloc hr a
  obtain ⟨R, hR⟩ : ∃ R, (s0) = R := ⟨_, rfl⟩
  rw [hR]
  have hF := Lib.hid (show (s0) = R by first | exact hR | (rw [← hR]; simp))
  clear hR
  have h0 := Lib.hid h0
  go_enter Try.func58, Try.ntmps58
  go_wp2_with fail
  obtain ⟨W, yy, hW, ⟨z, hz⟩, cb0⟩ := box1n V _ 38
  rw [hW]
  have c0_0 := cb0 0 _ rfl
  have c0_1 := cb0 1 _ rfl
  have c0_2 := cb0 2 _ rfl
  have c0_3 := cb0 3 _ rfl
  have c0_4 := cb0 4 _ rfl
  have c0_5 := cb0 5 _ rfl
  have c0_6 := cb0 6 _ rfl
  have c0_7 := cb0 7 _ rfl
  have c0_8 := cb0 8 _ rfl
  have q0c := Lib.hid (kp_at hz h0.out)
  have hz' := Lib.hid hz
  clear hW hz cb0
  refine (q0c.out _).mono ?_
  rintro r w' ⟨rfl, x1, rfl⟩
  go_wp2_with fail
  go_ret
  exact ⟨congrArg (fun z => Ending.returned (Value.bool z)) hF.out, by rw [hz'.out, plus_plus]; exact ⟨_, rfl⟩⟩
theorem alloc3_plus (V : World) (a b d : Obj) : ∃ x, ((V.alloc a).alloc b).alloc d = plus V x := by
  obtain ⟨x, hx⟩ := alloc2_plus V a b
  rw [hx]
  exact plus_alloc1 V x d
theorem box3n (V : World) (c d e : Array Value) (t u s : TypeId) : ∃ W y, ((V.alloc (.cells c t)).alloc (.cells d u)).alloc (.cells e s) = plus W y ∧ (∃ z, W = plus V z) ∧ (∀ o v, c[o]? = v → ∀ y, (plus W y).cell? ⟨V.heap.size, o, none⟩ = v) ∧ (∀ o v, d[o]? = v → ∀ y, (plus W y).cell? ⟨V.heap.size + 1, o, none⟩ = v) ∧ (∀ o v, e[o]? = v → ∀ y, (plus W y).cell? ⟨V.heap.size + 1 + 1, o, none⟩ = v) := by
  obtain ⟨W, hW, hB, hs, ca, cb, cc, _, _, _⟩ := box3 V c d e t u s
  exact ⟨W, ⟨#[], W.drawn⟩, by rw [plus_self, hW], plus_of_below hB, ca, cb, cc⟩
set_option maxRecDepth 100000 in
set_option maxHeartbeats 8000000 in
theorem may_none (a0 : Int) (a1 : Int) (a2 : Int) (a3 : Int) (a4 : ByteArray) (a5 : ByteArray) (a6 : Int) (a7 : Int) (a8p : Option Addr) (a8n : Nat) (a8c : Nat) (fl fs fx is : Bool) (fh fn fa k : Int) (fb c m : Nat) (w : World) (hf : w.cell? ⟨fb, 0, none⟩ = some (.map (some m))) (hL : ∀ W z, W = plus w z → (Instr.lookup 82 (.map (some m)) (.int .u8 a0) true).run Try.prog W = .ok (.tuple #[.agg #[.bool fl, .bool fs, .int .u8 fh, .int .u8 fn, .int .i64 fa, .bool fx], .bool is]) W) (hk : ¬ 0 < k) :
    Kp Try.prog w 55 #[.agg #[.int .u8 a0, .int .i64 a1, .int .u64 a2, .int .u64 a3, .string a4, .string a5, .int .i64 a6, .int .i64 a7, .slice a8p a8n a8c], .int .i64 k, .pointer (some ⟨fb, 0, none⟩), .pointer (some ⟨c, 0, none⟩)] (.bool (false)) := by
  intro y0
  have hf := cell_keep hf y0
  have hL : ∀ W z, W = plus (plus w y0) z → (Instr.lookup 82 (.map (some m)) (.int .u8 a0) true).run Try.prog W = .ok (.tuple #[.agg #[.bool fl, .bool fs, .int .u8 fh, .int .u8 fn, .int .i64 fa, .bool fx], .bool is]) W := fun W z hW => hL W _ (hW.trans (plus_plus _ _ _))
  obtain ⟨V, hV⟩ : ∃ V, plus w y0 = V := ⟨_, rfl⟩
  rw [hV] at hf hL ⊢
  clear hV
  have hf2 := fun a b => cell_alloc (cell_alloc hf a) b
  have hL2 : ∀ a b, (Instr.lookup 82 (.map (some m)) (.int .u8 a0) true).run Try.prog ((V.alloc a).alloc b) = .ok (.tuple #[.agg #[.bool fl, .bool fs, .int .u8 fh, .int .u8 fn, .int .i64 fa, .bool fx], .bool is]) ((V.alloc a).alloc b) := fun a b => by
    obtain ⟨x, hx⟩ := alloc2_plus V a b
    exact hL _ x hx
  have hmf : ∀ (fn : Fn) (first cap : Array Value) (w : World), (Instr.makeFunc fn first cap).run Try.prog w = .ok (.func fn first cap) w := fun _ _ _ _ => rfl
  clear hL hf
  cases is
  case false =>
    go_enter Try.func55, Try.ntmps55
    go_wp2_with fail
    go_ret
    exact ⟨rfl, alloc3_plus _ _ _ _⟩
  case true =>
    go_enter Try.func55, Try.ntmps55
    go_wp2_with fail
    go_ret
    exact ⟨rfl, alloc3_plus _ _ _ _⟩
set_option maxRecDepth 100000 in
set_option maxHeartbeats 8000000 in
theorem may_some (a0 : Int) (a1 : Int) (a2 : Int) (a3 : Int) (a4 : ByteArray) (a5 : ByteArray) (a6 : Int) (a7 : Int) (a8p : Option Addr) (a8n : Nat) (a8c : Nat) (fl fs fx is : Bool) (fh fn fa k : Int) (fb c m : Nat) (s0 s1 : Bool) (w : World) (hf : w.cell? ⟨fb, 0, none⟩ = some (.map (some m))) (hL : ∀ W z, W = plus w z → (Instr.lookup 82 (.map (some m)) (.int .u8 a0) true).run Try.prog W = .ok (.tuple #[.agg #[.bool fl, .bool fs, .int .u8 fh, .int .u8 fn, .int .i64 fa, .bool fx], .bool is]) W) (hk : 0 < k)
    (h0 : Kp Try.prog w 56 #[.agg #[.bool fl, .bool fs, .int .u8 fh, .int .u8 fn, .int .i64 fa, .bool fx], .agg #[.int .u8 a0, .int .i64 a1, .int .u64 a2, .int .u64 a3, .string a4, .string a5, .int .i64 a6, .int .i64 a7, .slice a8p a8n a8c]] (.bool s0))
    (hE : ∀ W z rc, W = plus w z → W.cell? ⟨rc, 0, none⟩ = some (.int .i64 k) → Kp Try.prog W 57 #[.slice a8p a8n a8c, .int .i64 fa, .int .i64 fa, .func (.func 58) #[] #[.pointer (some ⟨c, 0, none⟩), .pointer (some ⟨rc, 0, none⟩)]] (.bool s1)) :
    Kp Try.prog w 55 #[.agg #[.int .u8 a0, .int .i64 a1, .int .u64 a2, .int .u64 a3, .string a4, .string a5, .int .i64 a6, .int .i64 a7, .slice a8p a8n a8c], .int .i64 k, .pointer (some ⟨fb, 0, none⟩), .pointer (some ⟨c, 0, none⟩)] (.bool (is && (s0 && s1))) := by
  intro y0
  have h0 := h0.up y0
  have hE : ∀ W z rc, W = plus (plus w y0) z → W.cell? ⟨rc, 0, none⟩ = some (.int .i64 k) → Kp Try.prog W 57 #[.slice a8p a8n a8c, .int .i64 fa, .int .i64 fa, .func (.func 58) #[] #[.pointer (some ⟨c, 0, none⟩), .pointer (some ⟨rc, 0, none⟩)]] (.bool s1) := fun W z rc hW => hE W _ rc (hW.trans (plus_plus _ _ _))
  have hf := cell_keep hf y0
  have hL : ∀ W z, W = plus (plus w y0) z → (Instr.lookup 82 (.map (some m)) (.int .u8 a0) true).run Try.prog W = .ok (.tuple #[.agg #[.bool fl, .bool fs, .int .u8 fh, .int .u8 fn, .int .i64 fa, .bool fx], .bool is]) W := fun W z hW => hL W _ (hW.trans (plus_plus _ _ _))
  obtain ⟨V, hV⟩ : ∃ V, plus w y0 = V := ⟨_, rfl⟩
  rw [hV] at h0 hE hf hL ⊢
  clear hV
  have hf2 := fun a b => cell_alloc (cell_alloc hf a) b
  have hL2 : ∀ a b, (Instr.lookup 82 (.map (some m)) (.int .u8 a0) true).run Try.prog ((V.alloc a).alloc b) = .ok (.tuple #[.agg #[.bool fl, .bool fs, .int .u8 fh, .int .u8 fn, .int .i64 fa, .bool fx], .bool is]) ((V.alloc a).alloc b) := fun a b => by
    obtain ⟨x, hx⟩ := alloc2_plus V a b
    exact hL _ x hx
  have hmf : ∀ (fn : Fn) (first cap : Array Value) (w : World), (Instr.makeFunc fn first cap).run Try.prog w = .ok (.func fn first cap) w := fun _ _ _ _ => rfl
  clear hL hf
  cases is
  case false =>
    clear h0 hE
    go_enter Try.func55, Try.ntmps55
    go_wp2_with fail
    go_ret
    exact ⟨rfl, alloc3_plus _ _ _ _⟩
  case true =>
    cases s0
    case false =>
      have h0 := Lib.hid h0
      have hE := Lib.hid hE
      go_enter Try.func55, Try.ntmps55
      go_wp2_with fail
      obtain ⟨W, yy, hW, ⟨z, hz⟩, ca, cb, cc⟩ := box3n V _ _ _ 38 3 113
      rw [hW]
      have ca0 := ca 0 _ rfl
      have ca1 := ca 1 _ rfl
      have ca2 := ca 2 _ rfl
      have ca3 := ca 3 _ rfl
      have ca4 := ca 4 _ rfl
      have ca5 := ca 5 _ rfl
      have ca6 := ca 6 _ rfl
      have ca7 := ca 7 _ rfl
      have ca8 := ca 8 _ rfl
      have cb0 := cb 0 _ rfl
      have cc0 := cc 0 _ rfl
      have cc1 := cc 1 _ rfl
      have cc2 := cc 2 _ rfl
      have cc3 := cc 3 _ rfl
      have cc4 := cc 4 _ rfl
      have cc5 := cc 5 _ rfl
      have q0 := Lib.hid (kp_at hz h0.out)
      have cbW := cb0 ⟨#[], W.drawn⟩
      rw [plus_self] at cbW
      have q1 := Lib.hid (hE.out W z _ hz cbW).pure
      have hz' := Lib.hid hz
      clear hW hz ca cb cc cbW h0 hE
      refine (q0.out _).mono ?_
      rintro r w' ⟨rfl, x1, rfl⟩
      go_wp2_with fail
      go_ret
      exact ⟨rfl, by rw [hz'.out, plus_plus]; exact ⟨_, rfl⟩⟩
    case true =>
      have h0 := Lib.hid h0
      have hE := Lib.hid hE
      go_enter Try.func55, Try.ntmps55
      go_wp2_with fail
      obtain ⟨W, yy, hW, ⟨z, hz⟩, ca, cb, cc⟩ := box3n V _ _ _ 38 3 113
      rw [hW]
      have ca0 := ca 0 _ rfl
      have ca1 := ca 1 _ rfl
      have ca2 := ca 2 _ rfl
      have ca3 := ca 3 _ rfl
      have ca4 := ca 4 _ rfl
      have ca5 := ca 5 _ rfl
      have ca6 := ca 6 _ rfl
      have ca7 := ca 7 _ rfl
      have ca8 := ca 8 _ rfl
      have cb0 := cb 0 _ rfl
      have cc0 := cc 0 _ rfl
      have cc1 := cc 1 _ rfl
      have cc2 := cc 2 _ rfl
      have cc3 := cc 3 _ rfl
      have cc4 := cc 4 _ rfl
      have cc5 := cc 5 _ rfl
      have q0 := Lib.hid (kp_at hz h0.out)
      have cbW := cb0 ⟨#[], W.drawn⟩
      rw [plus_self] at cbW
      have q1 := Lib.hid (hE.out W z _ hz cbW).pure
      have hz' := Lib.hid hz
      clear hW hz ca cb cc cbW h0 hE
      refine (q0.out _).mono ?_
      rintro r w' ⟨rfl, x1, rfl⟩
      go_wp2_with (go_at_call 57; with_reducible refine (q1.out _).mono ?_; rintro r w' ⟨rfl, x, rfl⟩)
      go_ret
      exact ⟨rfl, by rw [hz'.out, plus_plus]; exact ⟨_, rfl⟩⟩
end Go.Proofs.Ytpnaibfefpeikaa
