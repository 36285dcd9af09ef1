/-
  WHAT IS PROVED HERE: a map of the call's own whose keys and values are told by functions ('MapG w b kf vf F': block b holds, of each key, what F says): looked up, written, counted, emptied.
-/
import Derived.Maps.Own
namespace Go.Proofs.Ytfphilgdikanfaa
open Go.Maps (Keyed)
open Go.ChangeMaps (setBlock)
section
variable {K V : Type}
/-- Block b of w is a map that holds just what F says. -/
def MapG (w : World) (b : Nat) (kf : K → Value) (vf : V → Value) (F : K → Option V) : Prop :=
  ∃ es clock, w.heap[b]? = some (.map es clock) ∧ (∀ e ∈ es.toList, ∃ (k : K) (v : V), e.key = kf k ∧ e.val = vf v ∧ F k = some v) ∧
    (∀ (k : K) (v : V), F k = some v → ∃ e ∈ es.toList, e.key = kf k) ∧ es.toList.Pairwise (fun a b => a.key ≠ b.key)
variable {w : World} {b : Nat} {kf : K → Value} {vf : V → Value} {F : K → Option V}
theorem MapG.lt (h : MapG w b kf vf F) : b < w.heap.size := by
  obtain ⟨es, clock, hb, _⟩ := h
  exact (Array.getElem?_eq_some_iff.1 hb).1
theorem MapG.of_heap {w' : World} (h : MapG w b kf vf F) (hg : w'.heap[b]? = w.heap[b]?) : MapG w' b kf vf F := by
  obtain ⟨es, clock, hb, r⟩ := h
  exact ⟨es, clock, hg.trans hb, r⟩
theorem MapG.is_map (h : MapG w b kf vf F) : ∃ es clock, w.heap[b]? = some (.map es clock) := by
  obtain ⟨es, clock, hb, _⟩ := h
  exact ⟨es, clock, hb⟩
theorem MapG.made (w : World) (kf : K → Value) (vf : V → Value) : MapG (w.alloc (.map #[] 0)) w.heap.size kf vf (fun _ => none) :=
  ⟨#[], 0, (MapKept.heap_alloc w _).1, fun e h => (by simp at h), fun k v h => (by cases h), by simp⟩
theorem MapG.eqv {F' : K → Option V} (h : MapG w b kf vf F) (e : ∀ k, F k = F' k) : MapG w b kf vf F' := by
  have : F = F' := funext e
  exact this ▸ h
variable {P : Program} {kt t et : TypeId}
theorem MapG.keys {es : Array MapEntry} (h : ∀ e ∈ es.toList, ∃ (k : K) (v : V), e.key = kf k ∧ e.val = vf v ∧ F k = some v) (hk : ∀ (k : K) (v : V), F k = some v → ∃ l, keyOf P kt (kf k) = some l) :
    ∀ e ∈ es.toList, ∃ l, keyOf P kt e.key = some l := fun e he => by
  obtain ⟨k, v, h1, _, h2⟩ := h e he
  rw [h1]
  exact hk k v h2
theorem MapG.look (h : MapG w b kf vf F) (Kd : Keyed P kt) (ht : P.underlying t = some (.map kt et)) {z : Value} (hz : (zeroValue et).run P w = .ok z w) (hinj : ∀ k k', kf k = kf k' → k = k') (hk : ∀ (k : K) (v : V), F k = some v → ∃ l, keyOf P kt (kf k) = some l) (k : K) (hkk : ∃ l, keyOf P kt (kf k) = some l) :
    (Instr.lookup t (.map (some b)) (kf k) true).run P w = .ok (.tuple #[(match F k with | some v => vf v | none => z), .bool (F k).isSome]) w := by
  obtain ⟨es, clock, hb, h1, h2, h3⟩ := h
  obtain ⟨l, hl⟩ := hkk
  rcases Kd.find w hl es.toList (MapG.keys h1 hk) with ⟨f1, f2⟩ | ⟨j, e0, f1, f2, f3⟩
  · have e : F k = none := by
      cases q : F k with
      | none => rfl
      | some v =>
        obtain ⟨e, he, h4⟩ := h2 k v q
        exact absurd h4 (f2 e he)
    simp [Instr.lookup, run_underlying ht, MapKept.run_getObj_map hb, Kd.check w _ hl, f1, hz, Result.andThen, e]
  · obtain ⟨k', v, g1, g2, g3⟩ := h1 e0 (List.mem_of_getElem? f2)
    rw [f3] at g1
    obtain rfl := hinj k k' g1
    simp [Instr.lookup, run_underlying ht, MapKept.run_getObj_map hb, Kd.check w _ hl, f1, Result.andThen, g2, g3]
theorem MapG.put [DecidableEq K] (h : MapG w b kf vf F) (Kd : Keyed P kt) (ht : P.underlying t = some (.map kt et)) (hinj : ∀ k k', kf k = kf k' → k = k') (hk : ∀ (k : K) (v : V), F k = some v → ∃ l, keyOf P kt (kf k) = some l) (k : K) (hkk : ∃ l, keyOf P kt (kf k) = some l) (v : V) :
    ∃ w', (Instr.mapUpdate t (.map (some b)) (kf k) (vf v)).run P w = .ok () w' ∧ MapG w' b kf vf (fun k' => if k' = k then some v else F k') ∧ w.grownBy w' (some b) ∧ w'.heap.size = w.heap.size := by
  obtain ⟨es, clock, hb, h1, h2, h3⟩ := h
  obtain ⟨l, hl⟩ := hkk
  rcases Kd.find w hl es.toList (MapG.keys h1 hk) with ⟨f1, f2⟩ | ⟨j, e0, f1, f2, f3⟩
  · refine ⟨setBlock w b (.map (es.push ⟨kf k, vf v, clock⟩) (clock + 1)), ?_, ⟨_, _, ChangeMaps.heap_setBlock_same hb _, fun e he => ?_, fun k' u hu => ?_, ?_⟩, ⟨rfl, rfl, rfl, by simp [setBlock], fun i _ hi => ChangeMaps.heap_setBlock_other hb _ (fun e => hi (by rw [e]))⟩, by simp [setBlock]⟩
    · simp [Instr.mapUpdate, run_underlying ht, MapKept.run_getObj_map hb, Kd.check w false hl, f1, MapKept.run_setObj_map _ hb, Result.andThen, setBlock]
    · rw [Array.toList_push, List.mem_append, List.mem_singleton] at he
      rcases he with he | rfl
      · obtain ⟨k', u, g1, g2, g3⟩ := h1 e he
        refine ⟨k', u, g1, g2, ?_⟩
        exact (if_neg (fun q : k' = k => f2 e he (by rw [g1, q]))).trans g3
      · exact ⟨k, v, rfl, rfl, if_pos rfl⟩
    · rw [Array.toList_push]
      by_cases q : k' = k
      · subst q
        exact ⟨_, List.mem_append_right _ (List.mem_singleton.2 rfl), rfl⟩
      · have hu := (if_neg q).symm.trans hu
        obtain ⟨e, he, g⟩ := h2 k' u hu
        exact ⟨e, List.mem_append_left _ he, g⟩
    · rw [Array.toList_push, List.pairwise_append]
      exact ⟨h3, by simp, fun a ha c hc => by simp at hc; subst hc; exact f2 a ha⟩
  · have hj : es[j]? = some e0 := by simpa using f2
    have hjl : j < es.toList.length := (List.getElem?_eq_some_iff.1 f2).1
    have hset : (es.modify j (fun e' => { e' with key := kf k, val := vf v })).toList = es.toList.set j { e0 with key := kf k, val := vf v } := by
      rw [Array.toList_modify, ChangeMaps.modify_eq_set _ _ _ _ f2]
    refine ⟨setBlock w b (.map (es.modify j (fun e' => { e' with key := kf k, val := vf v })) clock), ?_, ⟨_, _, ChangeMaps.heap_setBlock_same hb _, fun e he => ?_, fun k' u hu => ?_, ?_⟩, ⟨rfl, rfl, rfl, by simp [setBlock], fun i _ hi => ChangeMaps.heap_setBlock_other hb _ (fun e => hi (by rw [e]))⟩, by simp [setBlock]⟩
    · simp [Instr.mapUpdate, run_underlying ht, MapKept.run_getObj_map hb, Kd.check w false hl, f1, hj, f3, Kd.stays w hl, MapKept.run_setObj_map _ hb, Result.andThen, setBlock]
    · rw [hset] at he
      obtain ⟨i, hi, rfl⟩ := List.mem_iff_getElem.1 he
      rw [List.length_set] at hi
      by_cases q : i = j
      · subst q
        rw [List.getElem_set_self]
        exact ⟨k, v, rfl, rfl, if_pos rfl⟩
      · rw [List.getElem_set_ne (fun x => q x.symm)]
        obtain ⟨k', u, g1, g2, g3⟩ := h1 es.toList[i] (List.getElem_mem _)
        refine ⟨k', u, g1, g2, ?_⟩
        refine (if_neg (fun x : k' = k => ?_)).trans g3
        · have p := List.pairwise_iff_getElem.1 h3
          have e1 : es.toList[j].key = kf k := by
            have := List.getElem?_eq_some_iff.1 f2
            rw [this.2]
            exact f3
          rcases Nat.lt_or_gt_of_ne q with q | q
          · exact p i j hi hjl q (by rw [g1, e1, x])
          · exact p j i hjl hi q (by rw [g1, e1, x])
    · rw [hset]
      by_cases q : k' = k
      · subst q
        exact ⟨_, List.mem_set hjl _, rfl⟩
      · have hu := (if_neg q).symm.trans hu
        obtain ⟨e, he, g⟩ := h2 k' u hu
        obtain ⟨i, hi, rfl⟩ := List.mem_iff_getElem.1 he
        refine ⟨es.toList[i], List.mem_iff_getElem.2 ⟨i, by simpa using hi, ?_⟩, g⟩
        rw [List.getElem_set_ne]
        intro x
        subst x
        have := List.getElem?_eq_some_iff.1 f2
        rw [this.2, f3] at g
        exact q (hinj _ _ g).symm
    · rw [hset]
      have : (es.toList.set j { e0 with key := kf k, val := vf v }).map (fun e : MapEntry => e.key) = es.toList.map (fun e : MapEntry => e.key) := by
        refine List.ext_getElem? fun i => ?_
        rw [List.getElem?_map, List.getElem?_map, List.getElem?_set]
        by_cases q : j = i
        · subst q
          rw [if_pos rfl, if_pos hjl, f2]
          exact congrArg some f3.symm
        · rw [if_neg q]
      have h4 : (es.toList.map (fun e : MapEntry => e.key)).Pairwise (fun a b => a ≠ b) := List.pairwise_map.2 h3
      rw [← this] at h4
      exact List.pairwise_map.1 h4
theorem MapG.len (h : MapG w b kf vf F) (ht : P.underlying t = some (.map kt et)) (ty : TypeId) : ∃ n : Nat, (Builtin.len_ #[t] ty #[.map (some b)]).run P w = .ok (.int .i64 (n : Int)) w := by
  obtain ⟨es, clock, hb, _⟩ := h
  exact ⟨es.size, by simp [Builtin.len_, run_underlying ht, MapKept.run_getObj_map hb, Result.andThen, goInt]⟩
theorem MapG.clear (h : MapG w b kf vf F) (ht : P.underlying t = some (.map kt et)) (ty : TypeId) :
    ∃ w', (Builtin.clear_ #[t] ty #[.map (some b)]).run P w = .ok (.tuple #[]) w' ∧ MapG w' b kf vf (fun _ => none) ∧ w.grownBy w' (some b) ∧ w'.heap.size = w.heap.size := by
  obtain ⟨es, clock, hb, _⟩ := h
  refine ⟨setBlock w b (.map #[] clock), ?_, ⟨_, _, ChangeMaps.heap_setBlock_same hb _, fun e he => (by simp at he), fun k v e => (by cases e), by simp⟩, ⟨rfl, rfl, rfl, by simp [setBlock], fun i _ hi => ChangeMaps.heap_setBlock_other hb _ (fun e => hi (by rw [e]))⟩, by simp [setBlock]⟩
  simp [Builtin.clear_, run_underlying ht, MapKept.run_getObj_map hb, MapKept.run_setObj_map _ hb, Result.andThen, setBlock]
end
end Go.Proofs.Ytfphilgdikanfaa
