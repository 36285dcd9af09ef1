/-
  WHAT IS PROVED HERE: a map of ints of the call's own ('MapI w b W': block b holds, of each number below W's length, what W says): looked up, written, deleted from.
-/
import Derived.Maps.Own
namespace Go.Proofs.Ytplkiadkkefppaa
open Go.Maps (Keyed)
open Go.ChangeMaps (setBlock)
/-- Block b of w is a map that holds just what W says. -/
def MapI (w : World) (b : Nat) (W : List (Option Int)) : Prop :=
  ∃ es clock, w.heap[b]? = some (.map es clock) ∧ (∀ e ∈ es.toList, ∃ (k : Nat) (v : Int), e.key = .int .i64 (k : Int) ∧ e.val = .int .i64 v ∧ W[k]? = some (some v)) ∧
    (∀ (k : Nat) (v : Int), W[k]? = some (some v) → ∃ e ∈ es.toList, e.key = .int .i64 (k : Int)) ∧ es.toList.Pairwise (fun a b => a.key ≠ b.key)
theorem MapI.lt {w : World} {b : Nat} {W : List (Option Int)} (h : MapI w b W) : b < w.heap.size := by
  obtain ⟨es, clock, hb, _⟩ := h
  exact (Array.getElem?_eq_some_iff.1 hb).1
theorem MapI.kept {w w' : World} {b : Nat} {W : List (Option Int)} {row : Option Nat} (h : MapI w b W) (hg : w.grownBy w' row) (hne : some b ≠ row) : MapI w' b W := by
  have hlt := h.lt
  obtain ⟨es, clock, hb, r⟩ := h
  exact ⟨es, clock, (hg.block b hlt hne).trans hb, r⟩
theorem MapI.made (w : World) (n : Nat) : MapI (w.alloc (.map #[] 0)) w.heap.size (List.replicate n none) :=
  ⟨#[], 0, (MapKept.heap_alloc w _).1, fun e h => (by simp at h), fun k v h => (by rw [List.getElem?_replicate] at h; split at h <;> cases h), by simp⟩
section
variable {P : Program} {w : World} {b : Nat} {W : List (Option Int)} {kt t et : TypeId}
theorem MapI.keys {es : Array MapEntry} (h : ∀ e ∈ es.toList, ∃ (k : Nat) (v : Int), e.key = .int .i64 (k : Int) ∧ e.val = .int .i64 v ∧ W[k]? = some (some v)) (hk : ∀ k : Nat, k < W.length → ∃ l, keyOf P kt (.int .i64 (k : Int)) = some l) :
    ∀ e ∈ es.toList, ∃ l, keyOf P kt e.key = some l := fun e he => by
  obtain ⟨k, v, h1, _, h2⟩ := h e he
  rw [h1]
  exact hk k (List.getElem?_eq_some_iff.1 h2).1
theorem MapI.look (h : MapI w b W) (K : Keyed P kt) (ht : P.underlying t = some (.map kt et)) (hz : (zeroValue et).run P w = .ok (.int .i64 0) w) (hk : ∀ k : Nat, k < W.length → ∃ l, keyOf P kt (.int .i64 (k : Int)) = some l) {n : Nat} (hn : n < W.length) (ok : Bool) :
    (Instr.lookup t (.map (some b)) (.int .i64 (n : Int)) ok).run P w = .ok (if ok then .tuple #[.int .i64 ((W.getD n none).getD 0), .bool (W.getD n none).isSome] else .int .i64 ((W.getD n none).getD 0)) w := by
  obtain ⟨es, clock, hb, h1, h2, h3⟩ := h
  obtain ⟨l, hl⟩ := hk n hn
  rw [List.getD_eq_getElem?_getD]
  rcases K.find w hl es.toList (MapI.keys h1 hk) with ⟨f1, f2⟩ | ⟨j, e0, f1, f2, f3⟩
  · have e : W[n]? = some none := by
      rw [List.getElem?_eq_getElem hn]
      cases q : W[n] with
      | none => rfl
      | some v =>
        obtain ⟨e, he, h4⟩ := h2 n v (by rw [List.getElem?_eq_getElem hn, q])
        exact absurd h4 (f2 e he)
    cases ok <;> simp [Instr.lookup, run_underlying ht, MapKept.run_getObj_map hb, K.check w _ hl, f1, hz, Result.andThen, e]
  · obtain ⟨k, v, g1, g2, g3⟩ := h1 e0 (List.mem_of_getElem? f2)
    rw [f3] at g1
    obtain rfl : k = n := by injection g1 with _ g; omega
    cases ok <;> simp [Instr.lookup, run_underlying ht, MapKept.run_getObj_map hb, K.check w _ hl, f1, Result.andThen, g2, g3]
theorem MapI.put (h : MapI w b W) (K : Keyed P kt) (ht : P.underlying t = some (.map kt et)) (hk : ∀ k : Nat, k < W.length → ∃ l, keyOf P kt (.int .i64 (k : Int)) = some l) {n : Nat} (hn : n < W.length) (v : Int) :
    ∃ w', (Instr.mapUpdate t (.map (some b)) (.int .i64 (n : Int)) (.int .i64 v)).run P w = .ok () w' ∧ MapI w' b (W.set n (some v)) ∧ w.grownBy w' (some b) := by
  obtain ⟨es, clock, hb, h1, h2, h3⟩ := h
  obtain ⟨l, hl⟩ := hk n hn
  rcases K.find w hl es.toList (MapI.keys h1 hk) with ⟨f1, f2⟩ | ⟨j, e0, f1, f2, f3⟩
  · refine ⟨setBlock w b (.map (es.push ⟨.int .i64 (n : Int), .int .i64 v, clock⟩) (clock + 1)), ?_, ⟨_, _, ChangeMaps.heap_setBlock_same hb _, fun e he => ?_, fun k u hu => ?_, ?_⟩, ⟨rfl, rfl, rfl, by simp [setBlock], fun i _ hi => ChangeMaps.heap_setBlock_other hb _ (fun e => hi (by rw [e]))⟩⟩
    · simp [Instr.mapUpdate, run_underlying ht, MapKept.run_getObj_map hb, K.check w false hl, f1, MapKept.run_setObj_map _ hb, Result.andThen, setBlock]
    · rw [Array.toList_push, List.mem_append, List.mem_singleton] at he
      rcases he with he | rfl
      · obtain ⟨k, u, g1, g2, g3⟩ := h1 e he
        refine ⟨k, u, g1, g2, ?_⟩
        rw [List.getElem?_set_ne (fun q : n = k => f2 e he (by rw [g1, q]))]
        exact g3
      · exact ⟨n, v, rfl, rfl, by rw [List.getElem?_set_self hn]⟩
    · rw [Array.toList_push]
      by_cases q : n = k
      · subst q
        exact ⟨_, List.mem_append_right _ (List.mem_singleton.2 rfl), rfl⟩
      · rw [List.getElem?_set_ne q] at hu
        obtain ⟨e, he, g⟩ := h2 k u hu
        exact ⟨e, List.mem_append_left _ he, g⟩
    · rw [Array.toList_push, List.pairwise_append]
      exact ⟨h3, by simp, fun a ha c hc => by simp at hc; subst hc; exact f2 a ha⟩
  · have hj : es[j]? = some e0 := by simpa using f2
    have hjl : j < es.toList.length := (List.getElem?_eq_some_iff.1 f2).1
    have hkeyf : ∀ e', es[j]? = some e' → ({ e' with key := .int .i64 (n : Int), val := .int .i64 v } : MapEntry).key = e'.key := fun e' he' => by rw [hj] at he'; cases he'; exact f3.symm
    have hset : (es.modify j (fun e' => { e' with key := .int .i64 (n : Int), val := .int .i64 v })).toList = es.toList.set j { e0 with key := .int .i64 (n : Int), val := .int .i64 v } := by
      rw [Array.toList_modify, ChangeMaps.modify_eq_set _ _ _ _ f2]
    refine ⟨setBlock w b (.map (es.modify j (fun e' => { e' with key := .int .i64 (n : Int), val := .int .i64 v })) clock), ?_, ⟨_, _, ChangeMaps.heap_setBlock_same hb _, fun e he => ?_, fun k u hu => ?_, ?_⟩, ⟨rfl, rfl, rfl, by simp [setBlock], fun i _ hi => ChangeMaps.heap_setBlock_other hb _ (fun e => hi (by rw [e]))⟩⟩
    · simp [Instr.mapUpdate, run_underlying ht, MapKept.run_getObj_map hb, K.check w false hl, f1, hj, f3, K.stays w hl, MapKept.run_setObj_map _ hb, Result.andThen, setBlock]
    · rw [hset] at he
      obtain ⟨i, hi, rfl⟩ := List.mem_iff_getElem.1 he
      rw [List.length_set] at hi
      by_cases q : i = j
      · subst q
        rw [List.getElem_set_self]
        exact ⟨n, v, rfl, rfl, by rw [List.getElem?_set_self hn]⟩
      · rw [List.getElem_set_ne (fun x => q x.symm)]
        obtain ⟨k, u, g1, g2, g3⟩ := h1 es.toList[i] (List.getElem_mem _)
        refine ⟨k, u, g1, g2, ?_⟩
        rw [List.getElem?_set_ne (fun x : n = k => ?_)]
        · exact g3
        · have p := List.pairwise_iff_getElem.1 h3
          have e1 : es.toList[j].key = .int .i64 (n : Int) := by
            have := List.getElem?_eq_some_iff.1 f2
            rw [this.2]
            exact f3
          rcases Nat.lt_or_gt_of_ne q with q | q
          · exact p i j hi hjl q (by rw [g1, e1, x])
          · exact p j i hjl hi q (by rw [g1, e1, x])
    · rw [hset]
      by_cases q : n = k
      · subst q
        exact ⟨_, List.mem_set hjl _, rfl⟩
      · rw [List.getElem?_set_ne q] at hu
        obtain ⟨e, he, g⟩ := h2 k u hu
        obtain ⟨i, hi, rfl⟩ := List.mem_iff_getElem.1 he
        refine ⟨es.toList[i], List.mem_iff_getElem.2 ⟨i, by simpa using hi, ?_⟩, g⟩
        rw [List.getElem_set_ne]
        intro x
        subst x
        have := List.getElem?_eq_some_iff.1 f2
        rw [this.2, f3] at g
        injection g with _ g
        omega
    · rw [hset]
      have : (es.toList.set j { e0 with key := .int .i64 (n : Int), val := .int .i64 v }).map (fun e : MapEntry => e.key) = es.toList.map (fun e : MapEntry => e.key) := by
        refine List.ext_getElem? fun i => ?_
        rw [List.getElem?_map, List.getElem?_map, List.getElem?_set]
        by_cases q : j = i
        · subst q
          rw [if_pos rfl, if_pos hjl, f2]
          exact congrArg some f3.symm
        · rw [if_neg q]
      have h4 : (es.toList.map (fun e : MapEntry => e.key)).Pairwise (fun a b => a ≠ b) := List.pairwise_map.2 h3
      rw [← this] at h4
      exact List.pairwise_map.1 h4
theorem MapI.del (h : MapI w b W) (K : Keyed P kt) (ht : P.underlying t = some (.map kt et)) (hk : ∀ k : Nat, k < W.length → ∃ l, keyOf P kt (.int .i64 (k : Int)) = some l) {n : Nat} (hn : n < W.length) (ty : TypeId) :
    ∃ w', (Builtin.delete_ #[t, kt] ty #[.map (some b), .int .i64 (n : Int)]).run P w = .ok (.tuple #[]) w' ∧ MapI w' b (W.set n none) ∧ w.grownBy w' (some b) := by
  obtain ⟨es, clock, hb, h1, h2, h3⟩ := h
  obtain ⟨l, hl⟩ := hk n hn
  rcases K.find w hl es.toList (MapI.keys h1 hk) with ⟨f1, f2⟩ | ⟨j, e0, f1, f2, f3⟩
  · refine ⟨setBlock w b (.map es clock), ?_, ⟨_, _, ChangeMaps.heap_setBlock_same hb _, fun e he => ?_, fun k u hu => ?_, h3⟩, ⟨rfl, rfl, rfl, by simp [setBlock], fun i _ hi => ChangeMaps.heap_setBlock_other hb _ (fun e => hi (by rw [e]))⟩⟩
    · simp [Builtin.delete_, run_underlying ht, MapKept.run_getObj_map hb, K.check w _ hl, f1, MapKept.run_setObj_map _ hb, Result.andThen, setBlock]
    · obtain ⟨k, u, g1, g2, g3⟩ := h1 e he
      refine ⟨k, u, g1, g2, ?_⟩
      rw [List.getElem?_set_ne (fun q : n = k => f2 e he (by rw [g1, q]))]
      exact g3
    · rw [List.getElem?_set] at hu
      split at hu
      · cases hu
      · exact h2 k u hu
  · have hjl : j < es.toList.length := (List.getElem?_eq_some_iff.1 f2).1
    have hjs : j < es.size := by simpa using hjl
    have hsub : (es.eraseIdxIfInBounds j).toList = es.toList.eraseIdx j := by
      unfold Array.eraseIdxIfInBounds
      rw [dif_pos hjs]
      simp
    have e1 : es.toList[j].key = .int .i64 (n : Int) := by
      have := List.getElem?_eq_some_iff.1 f2
      rw [this.2]
      exact f3
    have p := List.pairwise_iff_getElem.1 h3
    refine ⟨setBlock w b (.map (es.eraseIdxIfInBounds j) clock), ?_, ⟨_, _, ChangeMaps.heap_setBlock_same hb _, fun e he => ?_, fun k u hu => ?_, ?_⟩, ⟨rfl, rfl, rfl, by simp [setBlock], fun i _ hi => ChangeMaps.heap_setBlock_other hb _ (fun e => hi (by rw [e]))⟩⟩
    · simp [Builtin.delete_, run_underlying ht, MapKept.run_getObj_map hb, K.check w _ hl, f1, MapKept.run_setObj_map _ hb, Result.andThen, setBlock]
    · rw [hsub, List.mem_eraseIdx_iff_getElem] at he
      obtain ⟨i, hi, q, rfl⟩ := he
      obtain ⟨k, u, g1, g2, g3⟩ := h1 es.toList[i] (List.getElem_mem _)
      refine ⟨k, u, g1, g2, ?_⟩
      rw [List.getElem?_set_ne (fun x : n = k => ?_)]
      · exact g3
      · rcases Nat.lt_or_gt_of_ne q with q | q
        · exact p i j hi hjl q (by rw [g1, e1, x])
        · exact p j i hjl hi q (by rw [g1, e1, x])
    · rw [List.getElem?_set] at hu
      split at hu
      · cases hu
      · next q =>
        obtain ⟨e, he, g⟩ := h2 k u hu
        obtain ⟨i, hi, rfl⟩ := List.mem_iff_getElem.1 he
        refine ⟨es.toList[i], ?_, g⟩
        rw [hsub, List.mem_eraseIdx_iff_getElem]
        refine ⟨i, hi, fun x => q ?_, rfl⟩
        subst x
        rw [e1] at g
        injection g with _ g
        omega
    · rw [hsub]
      exact h3.sublist (List.eraseIdx_sublist _ _)
end
end Go.Proofs.Ytplkiadkkefppaa
