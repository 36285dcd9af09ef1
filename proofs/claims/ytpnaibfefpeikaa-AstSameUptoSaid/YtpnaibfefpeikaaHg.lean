/-
  WHAT IS PROVED HERE: what forms.expr and MayExpr of the landed ast hand back, of any expression that lies in memory and is not too great.
-/
import Derived.Test.YtpnaibfefpeikaaRows
import Derived.Test.YtpnaibfefpeikaaHf
import Derived.WalkKit
import Derived.Lib.Hide
import Derived.WalkSpells
import Derived.WalkLawsBesides
import Derived.Laws.EntriesVeiled
import Derived.Shelf.Abstract
namespace Go.Proofs.Ytpnaibfefpeikaa
open Go.RowKit
theorem getIn_range (z : Value) (f : Int → Value) (i : Int) : ∀ (n s : Nat), getIn z i ((List.range' s n).map fun (j : Nat) => (⟨.int .u8 ((j : Int) + 1), f ((j : Int) + 1), j⟩ : MapEntry)) = if (s : Int) + 1 ≤ i ∧ i ≤ (s : Int) + n then (f i, true) else (z, false)
  | 0, s => by rw [if_neg (by omega)]; rfl
  | n + 1, s => by
    rw [List.range'_succ, List.map_cons, getIn]
    simp only
    cases hi : (i == (s : Int) + 1) with
    | true =>
      rw [beq_iff_eq] at hi
      rw [if_pos rfl, if_pos (by omega), hi]
    | false =>
      have hi : ¬ i = (s : Int) + 1 := by simpa using hi
      rw [if_neg (by simp), getIn_range z f i n (s + 1)]
      by_cases h : (s : Int) + 1 ≤ i ∧ i ≤ (s : Int) + (n + 1 : Nat)
      · rw [if_pos h, if_pos (by omega)]
      · rw [if_neg h, if_neg (by omega)]
theorem keys_range (f : Int → Value) (n : Nat) : u8Keys (((List.range n).map fun (j : Nat) => (⟨.int .u8 ((j : Int) + 1), f ((j : Int) + 1), j⟩ : MapEntry)).toArray).toList := by
  intro e he
  simp only [List.mem_map] at he
  obtain ⟨j, _, rfl⟩ := he
  exact ⟨_, rfl⟩
theorem getIn_upto (z : Value) (f : Int → Value) (i : Int) (n : Nat) : getIn z i (((List.range n).map fun (j : Nat) => (⟨.int .u8 ((j : Int) + 1), f ((j : Int) + 1), j⟩ : MapEntry)).toArray).toList = if 1 ≤ i ∧ i ≤ n then (f i, true) else (z, false) := by
  have := getIn_range z f i n 0
  rw [← List.range_eq_range'] at this
  simpa using this
theorem xVal_none {op : Int} (h : ¬ (1 ≤ op ∧ op ≤ 26)) : xVal op = .agg #[.bool false, .bool false, .int .u8 0, .int .u8 0, .int .i64 0, .bool false] := by
  have e1 : xLit op = false := by unfold xLit; simp; omega
  have e2 : xSlice op = false := by unfold xSlice; simp; omega
  have e3 : xHead op = 0 := by unfold xHead; rw [if_neg (by omega)]
  have e4 : xName op = 0 := by unfold xName; rw [if_neg (by omega)]
  have e5 : xArgs op = 0 := by unfold xArgs; rw [if_neg (by omega), if_neg (by omega)]
  have e6 : xShift op = false := by unfold xShift; simp; omega
  unfold xVal
  rw [e1, e2, e3, e4, e5, e6]
theorem sVal_none {k : Int} (h : ¬ (1 ≤ k ∧ k ≤ 3)) : sVal k = .agg #[.bool false, .bool false] := by
  have e1 : sV k = false := by unfold sV; simp; omega
  have e2 : sM k = false := by unfold sM; simp; omega
  unfold sVal
  rw [e1, e2]
theorem tVal_none {k : Int} (h : ¬ (1 ≤ k ∧ k ≤ 7)) : tVal k = .agg #[.int .u8 0, .int .u8 0, .bool false, .bool false] := by
  have e1 : tHead k = 0 := by unfold tHead; rw [if_neg (by omega), if_neg (by omega)]
  have e2 : tName k = 0 := by unfold tName; rw [if_neg (by omega)]
  have e3 : tExpr k = false := by unfold tExpr; simp; omega
  have e4 : tBlocks k = false := by unfold tBlocks; simp; omega
  unfold tVal
  rw [e1, e2, e3, e4]
theorem look_x (w : World) (m : Nat) (h : MapAt w m (esX 26)) (op : Int) : (Instr.lookup 82 (.map (some m)) (.int .u8 op) true).run Try.prog w = .ok (.tuple #[xVal op, .bool (xIs op)]) w := by
  have hz : (zeroValue 113).run Try.prog w = .ok (.agg #[.bool false, .bool false, .int .u8 0, .int .u8 0, .int .i64 0, .bool false]) w := by kernel_rfl
  have := look_u8 Try.underlying82 Try.underlying5 hz h (keys_range xVal 26) op
  rw [this]
  unfold esX xIs
  rw [getIn_upto]
  by_cases h1 : 1 ≤ op ∧ op ≤ ((26 : Nat) : Int)
  · rw [if_pos h1, decide_eq_true (by omega)]
  · rw [if_neg h1, decide_eq_false (by omega), xVal_none (by omega)]
theorem look_s (w : World) (m : Nat) (h : MapAt w m (esS 3)) (k : Int) : (Instr.lookup 84 (.map (some m)) (.int .u8 k) true).run Try.prog w = .ok (.tuple #[sVal k, .bool (sIs k)]) w := by
  have hz : (zeroValue 136).run Try.prog w = .ok (.agg #[.bool false, .bool false]) w := by kernel_rfl
  have := look_u8 Try.underlying84 Try.underlying5 hz h (keys_range sVal 3) k
  rw [this]
  unfold esS sIs
  rw [getIn_upto]
  by_cases h1 : 1 ≤ k ∧ k ≤ ((3 : Nat) : Int)
  · rw [if_pos h1, decide_eq_true (by omega)]
  · rw [if_neg h1, decide_eq_false (by omega), sVal_none (by omega)]
theorem look_t (w : World) (m : Nat) (h : MapAt w m (esT 7)) (k : Int) : (Instr.lookup 85 (.map (some m)) (.int .u8 k) true).run Try.prog w = .ok (.tuple #[tVal k, .bool (tIs k)]) w := by
  have hz : (zeroValue 138).run Try.prog w = .ok (.agg #[.int .u8 0, .int .u8 0, .bool false, .bool false]) w := by kernel_rfl
  have := look_u8 Try.underlying85 Try.underlying5 hz h (keys_range tVal 7) k
  rw [this]
  unfold esT tIs
  rw [getIn_upto]
  by_cases h1 : 1 ≤ k ∧ k ≤ ((7 : Nat) : Int)
  · rw [if_pos h1, decide_eq_true (by omega)]
  · rw [if_neg h1, decide_eq_false (by omega), tVal_none (by omega)]
theorem may1 : ∀ (n : Nat), n ≤ 16 → ∀ (e : Ex) (w : World) (fb c m : Nat), e.In w → e.wt ≤ 1048576 → w.cell? ⟨fb, 0, none⟩ = some (.map (some m)) → MapAt w m (esX 26) → w.cell? ⟨c, 0, none⟩ = some (fv_may fb c) →
    Kp Try.prog w 55 #[e.val, .int .i64 (n : Int), .pointer (some ⟨fb, 0, none⟩), .pointer (some ⟨c, 0, none⟩)] (.bool (Ex.may n e))
  | 0, _, e, w, fb, c, m, hin, hz, hf, hm, hc =>
    may_none e.op e.lit.w e.lit.h e.lit.l e.head e.name e.hi e.lo e.p e.args.length e.cap _ _ _ _ _ _ _ 0 fb c m w hf (fun W z hW => look_x W m (hW ▸ hm.plus z) e.op) (by omega)
  | n + 1, hn, e, w, fb, c, m, hin, hz, hf, hm, hc => by
    have hin' := hin
    obtain ⟨_, _, _, _, _, _, _, len, cap, row, kids⟩ := hin'
    have e1 := Ex.wt_eq e
    refine may_some e.op e.lit.w e.lit.h e.lit.l e.head e.name e.hi e.lo e.p e.args.length e.cap _ _ _ _ _ _ _ ((n + 1 : Nat) : Int) fb c m _ _ w hf (fun W z hW => look_x W m (hW ▸ hm.plus z) e.op) (by omega) (fits_in e w hin hz) ?_
    intro W z rc hW hr
    have hl : e.args.length ≤ 1048576 := by have := length_le_sum Ex.wt Ex.wt_pos e.args; omega
    have hA : Sl.In W 9 Ex.cells (Ex.In W) ⟨e.p, e.cap, e.args⟩ := hW ▸ Sl.In.plus (s := ⟨e.p, e.cap, e.args⟩) ⟨len, cap, row, kids⟩ (fun _ a => a.plus z) z
    have hc' : W.cell? ⟨c, 0, none⟩ = some (fv_may fb c) := hW ▸ cell_keep hc z
    have hf' : W.cell? ⟨fb, 0, none⟩ = some (.map (some m)) := hW ▸ cell_keep hf z
    have hm' : MapAt W m (esX 26) := hW ▸ hm.plus z
    exact each_Expr Ex.cells shp_ex (Ex.may n) 58 #[] #[.pointer (some ⟨c, 0, none⟩), .pointer (some ⟨rc, 0, none⟩)] (Ex.In W) W ⟨e.p, e.cap, e.args⟩ _ _ hA hl (enters_of Try.func58 (by kernel_rfl) rfl)
      (fun x hx => inner_of x.op x.lit.w x.lit.h x.lit.l x.head x.name x.hi x.lo x.p x.args.length x.cap c rc fb ((n + 1 : Nat) : Int) (n : Int) _ W hc' hr (by rw [wr_in _ (by omega)]; omega)
        (may1 n (by omega) x W fb c m (hA.kids x hx) (Nat.le_trans (le_sum_of Ex.wt e.args x hx) (by omega)) hf' hm' hc'))
end Go.Proofs.Ytpnaibfefpeikaa
