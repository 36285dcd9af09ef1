/-
  WHAT IS PROVED HERE: what forms.expr of the landed ast hands back, of any expression that lies in memory and is not too great.
-/
import Derived.Test.YtpnaibfefpeikaaRows
import Derived.Test.YtpnaibfefpeikaaHg
import Derived.WalkKit
import Derived.Lib.Hide
import Derived.WalkSpells
import Derived.WalkLawsBesides
import Derived.Laws.EntriesVeiled
import Derived.Shelf.Abstract
import Derived.Deep.RegionWith
namespace Go.Proofs.Ytpnaibfefpeikaa
open Go.RowKit
theorem clo3f (V : World) (c d : Array Value) (v : Value) (t u s : TypeId) : ∃ W, ((V.alloc (.cells c t)).alloc (.cells d u)).alloc (.cells #[v] s) = W ∧ (∃ z, W = plus V z) ∧ (∀ x, c[0]? = some x → W.cell? ⟨V.heap.size, 0, none⟩ = some x) ∧ W.cell? ⟨V.heap.size + 1 + 1, 0, none⟩ = some v := by
  obtain ⟨W, y, hW, ⟨z, hz⟩, ca, cb, cc⟩ := box3n V c d #[v] t u s
  refine ⟨_, hW, ⟨_, by rw [hz, plus_plus]⟩, fun x hx => ca 0 _ hx y, cc 0 _ rfl y⟩
set_option maxRecDepth 100000 in
set_option maxHeartbeats 8000000 in
theorem ast_expr (e : Ex) (m : Nat) (o2 o3 : Option Nat) (w : World) (he : e.In w) (hz : e.wt ≤ 1048576) (hm : MapAt w m (esX 26)) : Kp Try.prog w 32 #[.agg #[.map (some m), .map o2, .map o3], .agg e.cells.toArray] (.bool (Ex.may 16 e)) := by
  intro y0
  have he := he.plus y0
  have hm := hm.plus y0
  obtain ⟨V, hV⟩ : ∃ V, plus w y0 = V := ⟨_, rfl⟩
  rw [hV] at he hm ⊢
  clear hV
  have hq := fun (W : World) (fb c : Nat) (z : Ext) (h : W = plus V z) (hf : W.cell? ⟨fb, 0, none⟩ = some (.map (some m))) (hc : W.cell? ⟨c, 0, none⟩ = some (fv_may fb c)) => calls_self (may1 16 (Nat.le_refl _) e W fb c m (h ▸ he.plus z) hz hf (h ▸ hm.plus z) hc)
  obtain ⟨S, hS⟩ : ∃ S, Ex.may 16 e = S := ⟨_, rfl⟩
  rw [hS] at hq ⊢
  clear hS he hm hz
  obtain ⟨op, ⟨lw, lh, ll⟩, hd, nm, eh, el, p, cap, args⟩ := e
  have hq : ∀ (W : World) (fb c : Nat) (z : Ext), W = plus V z → W.cell? ⟨fb, 0, none⟩ = some (.map (some m)) → W.cell? ⟨c, 0, none⟩ = some (fv_may fb c) → Calls Try.prog 55 #[.agg #[.int .u8 op, .int .i64 lw, .int .u64 lh, .int .u64 ll, .string hd, .string nm, .int .i64 eh, .int .i64 el, .slice p args.length cap], .int .i64 16, .pointer (some ⟨fb, 0, none⟩), .pointer (some ⟨c, 0, none⟩)] W fun e w' => e = .returned (.bool S) ∧ ∃ x, w' = plus W x := hq
  show Calls Try.prog 32 #[.agg #[.map (some m), .map o2, .map o3], .agg #[.int .u8 op, .int .i64 lw, .int .u64 lh, .int .u64 ll, .string hd, .string nm, .int .i64 eh, .int .i64 el, .slice p args.length cap]] V _
  generalize args.length = n1 at hq ⊢
  have hq' := Lib.hid hq
  clear hq
  have hmf : ∀ (fn : Fn) (first cap : Array Value) (w : World), (Instr.makeFunc fn first cap).run Try.prog w = .ok (.func fn first cap) w := fun _ _ _ _ => rfl
  go_enter Try.func32, Try.ntmps32
  go_wp2_with fail
  obtain ⟨W, hW, ⟨z, hz⟩, hf, hc⟩ := clo3f V _ _ _ _ _ _
  rw [hW]
  have hz' := Lib.hid hz
  refine (hq'.out W _ _ z hz (hf _ rfl) hc).mono ?_
  clear hW hz hc hf
  rintro r w' ⟨rfl, x, rfl⟩
  go_wp2
  go_ret
  exact ⟨rfl, by rw [hz'.out, plus_plus]; exact ⟨_, rfl⟩⟩
theorem wX_plus (V : World) : ∃ x, wX V 26 = plus V x := alloc1_plus V _
theorem wX_map (V : World) : MapAt (wX V 26) V.heap.size (esX 26) := ⟨26, by show (V.heap.push _)[V.heap.size]? = _; simp⟩
theorem X_after {W w1 w' : World} (h : ∃ y, w1 = plus W y) (hw : w' = wX w1 26) : ∃ x, w' = plus W x ∧ MapAt w' w1.heap.size (esX 26) := by
  obtain ⟨y, rfl⟩ := h
  subst hw
  obtain ⟨x, hx⟩ := wX_plus (plus W y)
  exact ⟨_, hx.trans (plus_plus _ _ _), wX_map _⟩
theorem drew_plus (W : World) (y : Ext) : ∃ z, (plus W y).drew = plus W z := ⟨⟨y.blocks, y.draws + 1⟩, rfl⟩
set_option maxRecDepth 100000 in
set_option maxHeartbeats 8000000 in
theorem ast_mayExpr (e : Ex) (w : World) (he : e.In w) (hz : e.wt ≤ 1048576) : Kp Try.prog w 10 #[.agg e.cells.toArray] (.bool (Ex.may 16 e)) := by
  intro y0
  have he := he.plus y0
  obtain ⟨V, hV⟩ : ∃ V, plus w y0 = V := ⟨_, rfl⟩
  rw [hV] at he ⊢
  clear hV
  have hin := fun (W : World) (h : ∃ z, W = plus V z) => show e.In W by
    obtain ⟨z, hz⟩ := h
    exact hz ▸ he.plus z
  have hq := fun (W : World) (m : Nat) (h : ∃ z, W = plus V z) (hm : MapAt W m (esX 26)) => calls_self (ast_expr e m none none W (hin W h) hz hm)
  obtain ⟨S, hS⟩ : ∃ S, Ex.may 16 e = S := ⟨_, rfl⟩
  rw [hS] at hq ⊢
  clear hS he hz hin
  obtain ⟨op, ⟨lw, lh, ll⟩, hd, nm, eh, el, p, cap, args⟩ := e
  have hq : ∀ (W : World) (m : Nat), (∃ z, W = plus V z) → MapAt W m (esX 26) → Calls Try.prog 32 #[.agg #[.map (some m), .map none, .map none], .agg #[.int .u8 op, .int .i64 lw, .int .u64 lh, .int .u64 ll, .string hd, .string nm, .int .i64 eh, .int .i64 el, .slice p args.length cap]] W fun e w' => e = .returned (.bool S) ∧ ∃ x, w' = plus W x := hq
  show Calls Try.prog 10 #[.agg #[.int .u8 op, .int .i64 lw, .int .u64 lh, .int .u64 ll, .string hd, .string nm, .int .i64 eh, .int .i64 el, .slice p args.length cap]] V _
  generalize args.length = n1 at hq ⊢
  have hq' := Lib.hid hq
  clear hq
  go_enter Try.func10, Try.ntmps10
  go_wp2
  obtain ⟨W, yy, hW, ⟨z, hz⟩, ca⟩ := box1n V _ 38
  rw [hW]
  have ca0 := ca 0 _ rfl
  have ca1 := ca 1 _ rfl
  have ca2 := ca 2 _ rfl
  have ca3 := ca 3 _ rfl
  have ca4 := ca 4 _ rfl
  have ca5 := ca 5 _ rfl
  have ca6 := ca 6 _ rfl
  have ca7 := ca 7 _ rfl
  have ca8 := ca 8 _ rfl
  clear hW ca
  have hz' := Lib.hid hz
  clear hz
  go_region_with (first | (go_at_call 31; refine (forms_X _).mono ?_; rintro r w' ⟨rfl, hw⟩; obtain ⟨x, rfl, hm⟩ := X_after (drew_plus W yy) hw; clear hw) | (go_at_call 32; refine (hq'.out _ _ ⟨_, by rw [hz'.out, plus_plus]⟩ (by assumption)).mono ?_; rintro r w' ⟨rfl, x2, rfl⟩))
  all_goals
    go_wp2
    go_ret
    exact ⟨rfl, by rw [hz'.out, plus_plus, plus_plus]; exact ⟨_, rfl⟩⟩
end Go.Proofs.Ytpnaibfefpeikaa
