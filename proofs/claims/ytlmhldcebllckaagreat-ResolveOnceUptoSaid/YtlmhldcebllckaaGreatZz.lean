/-
  WHAT IS PROVED HERE: ResolveOnce's own walk: where all is well.
-/
import Derived.Test.YtlmhldcebllckaaGreatRows
import Derived.Test.YtlmhldcebllckaaGreatZy
import Derived.Test.YtlmhldcebllckaaGreatWa
namespace Go.Proofs.YtlmhldcebllckaaGreat
open Go.RowKit Go.Shelf
attribute [local go_sem] Oper.semAt_some
theorem case_info : (Tryz.prog.info? 57).map (fun i => (i.zero, i.size, i.bytes)) = some (some (.agg #[.bool false, .slice none 0 0, .string ⟨#[]⟩]), 3, 48) := by kernel_rfl
theorem plus_alloc1' (w : World) (o : Obj) : ∃ x, w.alloc o = plus w x := by
  have := plus_alloc1 w ⟨#[], w.drawn⟩ o
  rwa [plus_self] at this
/-- Where a state goes to, and its cases. -/
def tgL (a : Sa) : List Ca := ⟨false, ⟨none, 0, []⟩, a.to⟩ :: a.cases.l
theorem ca_one (y : Ca) : ∀ u ∈ y.cells, u.oneCell' = true := by
  intro u hu
  simp [Ca.cells] at hu
  rcases hu with rfl | rfl | rfl <;> rfl
theorem wr_succ' (k n : Nat) (h : k < n) (hn : n ≤ 2097152) : wrap64 ((k : Int) + 1) = ((k + 1 : Nat) : Int) := by
  rw [wr_in _ (by omega)]
  simp
theorem tg_row {wr w' : World} {a : Sa} {m g cap : Nat} (hown : w'.ownsRow wr.heap.size 57 3 (.slice (some ⟨g, 0, none⟩) (1 + m) cap) (1 + m) ([.bool false, .slice none 0 0, .string a.to] ++ (a.cases.l.map Ca.cells).flatten))
    (hgrow : (wr.alloc (.cells #[.bool false, .slice none 0 0, .string a.to] 57)).grownBy w' (some wr.heap.size)) : (∃ z, w' = plus wr z) ∧ RowAt w' 3 Ca.cells (some ⟨g, 0, none⟩) (tgL a) :=
  ⟨plus_of_below (((Below.refl wr.heap.size wr).alloc (Nat.le_refl _) _).grown hgrow (by simp) (fun k e => by cases e; exact Nat.le_refl _)),
    own_row (f := Ca.cells) (l := tgL a) hown (fun _ _ => rfl)⟩
theorem tg_len (a : Sa) (m M : Nat) (hm : a.cases.l.length = m) (hM : 1 + m = M) : (tgL a).length = M := by simp [tgL]; omega
theorem next_fine {p : Pr} {i : Nat} {a : Sa} (hB : prB p = true) (hall : ∀ z ∈ encP p, wrI p z = 0) (ha : p.states.l[i]? = some a) : ∀ x ∈ tgL a, x.to.toList = [] ∨ (stI p.states.l x.to).2 = true := by
  intro x hx
  rcases List.mem_cons.1 hx with rfl | hx
  · show a.to.toList = [] ∨ (stI p.states.l a.to).2 = true
    have h1 : saB a = true := by
      unfold prB at hB
      simp only [Bool.and_eq_true] at hB
      have h2 := hB.2.2.1
      unfold eachB at h2
      simp only [Bool.and_eq_true, List.all_eq_true] at h2
      exact h2.2 a (List.mem_of_getElem? ha)
    unfold saB at h1
    simp only [Bool.and_eq_true] at h1
    have h2 := h1.2.2
    unfold saT at h2
    split at h2
    · next e => exact .inl (by simpa using e)
    · simp only [Bool.and_eq_true] at h2
      have h3 := h2.2.1
      exact .inr (ok_next hall ha (by simpa using h3))
  · obtain ⟨j, hj⟩ := List.getElem?_of_mem hx
    exact .inr (ok_case hall ha hj)
set_option maxRecDepth 100000 in
set_option maxHeartbeats 16000000 in
theorem once_fine (p : Pr) (V : World) (hin : p.In V) (hz : p.sz ≤ 1048576) (hg : ¬ 6000 < p.sz) (N E : Int) (hNv : chkN p = N) (hEv : chkE p = E) (hE : E = 0) (hNT : N = (prI p : Int)) (hB : prB p = true) (hall : ∀ z ∈ encP p, wrI p z = 0) : CallsIn Fence.wide 0 Tryz.prog 4 #[.agg #[.slice p.headers.p p.headers.l.length p.headers.cap, .slice p.metas.p p.metas.l.length p.metas.cap, .slice p.states.p p.states.l.length p.states.cap, .slice p.actions.p p.actions.l.length p.actions.cap, .slice p.tables.p p.tables.l.length p.tables.cap, .slice p.control.p p.control.l.length p.control.cap, .slice p.emit.p p.emit.l.length p.emit.cap]] V fun e w' => e = .returned (.bool true) ∧ ∃ x, w' = plus V x := by
  have k1 := ats_great p V hin hz
  rw [← pr_cells, decide_eq_false hg] at k1
  have k1' := Lib.hid k1
  have k2 := ats_kp (q_Check p V hin hz)
  rw [hNv, hEv] at k2
  have k2' := Lib.hid k2
  have k3 := ats_kp (ritems_in p V hin hz)
  rw [← pr_cells] at k3
  have k3' := Lib.hid k3
  clear k1 k2 k3 hg hNv hEv
  rw [hE] at k2'
  rw [hNT] at k2'
  clear hE hNT
  obtain ⟨T, hT⟩ : ∃ T, (prI p : Int) = T := ⟨_, rfl⟩
  rw [hT] at k2' k3'
  clear hT
  have hin' := Lib.hid hin
  have hz' := Lib.hid hz
  have hall' := Lib.hid hall
  have hB' := Lib.hid hB
  clear hin hz hall hB
  refine callsIn_of_wp Tryz.func4 rfl trivial ?_ rfl
  simp only [Tryz.ntmps4, List.size_toArray, List.length_cons, List.length_nil, Nat.reduceAdd, Nat.reduceSub, Array.replicate_succ, Array.replicate_zero, List.push_toArray, List.append_toArray, List.nil_append, List.cons_append]
  gi_wp2
  obtain ⟨W, hW, hz1, cp⟩ := one_box p V 30
  rw [hW]
  have hz1' := Lib.hid hz1
  obtain ⟨b, hb⟩ : ∃ b, V.heap.size = b := ⟨_, rfl⟩
  rw [hb] at cp ⊢
  clear hb
  have cpU : ∀ U, (∃ z, U = plus W z) → ∀ j v, p.cells[j]? = some v → U.cell? ⟨b, j, none⟩ = some v := fun U h j v hj => by obtain ⟨z, rfl⟩ := h; exact cell_keep (cp j v hj) z
  have cpU' := Lib.hid cpU
  clear hW hz1 cp cpU
  refine ⟨trivial, rfl, CallsIn.mono (callsIn_wide.2 (k1'.out W hz1'.out)) ?_⟩
  rintro e U ⟨rfl, x, hU⟩
  have u0 := cpU'.out U ⟨_, hU⟩ 0 _ rfl
  have u1 := cpU'.out U ⟨_, hU⟩ 1 _ rfl
  have u2 := cpU'.out U ⟨_, hU⟩ 2 _ rfl
  have u3 := cpU'.out U ⟨_, hU⟩ 3 _ rfl
  have u4 := cpU'.out U ⟨_, hU⟩ 4 _ rfl
  have u5 := cpU'.out U ⟨_, hU⟩ 5 _ rfl
  have u6 := cpU'.out U ⟨_, hU⟩ 6 _ rfl
  have hz2 : ∃ z, U = plus V z := by obtain ⟨z, h⟩ := hz1'.out; exact ⟨_, by rw [hU, h, plus_plus]⟩
  have hz2' := Lib.hid hz2
  have hw2' := Lib.hid (⟨_, hU⟩ : ∃ z, U = plus W z)
  clear hU hz2
  gi_wp2
  refine ⟨trivial, rfl, CallsIn.mono (callsIn_wide.2 (k2'.out U hz2'.out)) ?_⟩
  rintro e X ⟨rfl, y, hX⟩
  have hwX : ∃ z, X = plus W z := by obtain ⟨z, h⟩ := hw2'.out; exact ⟨_, by rw [hX, h, plus_plus]⟩
  have hz3 : ∃ z, X = plus V z := by obtain ⟨z, h⟩ := hz2'.out; exact ⟨_, by rw [hX, h, plus_plus]⟩
  have v0 := cpU'.out X hwX 0 _ rfl
  have v1 := cpU'.out X hwX 1 _ rfl
  have v2 := cpU'.out X hwX 2 _ rfl
  have v3 := cpU'.out X hwX 3 _ rfl
  have v4 := cpU'.out X hwX 4 _ rfl
  have v5 := cpU'.out X hwX 5 _ rfl
  have v6 := cpU'.out X hwX 6 _ rfl
  have hz3' := Lib.hid hz3
  have hX' := Lib.hid hX
  clear hX hz3 hwX u0 u1 u2 u3 u4 u5 u6
  gi_wp2
  refine ⟨trivial, rfl, CallsIn.mono (callsIn_wide.2 (k3'.out X hz3'.out)) ?_⟩
  rintro e Y ⟨rfl, y2, hY⟩
  have hz4 : ∃ z, Y = plus V z := by obtain ⟨z, h⟩ := hz3'.out; exact ⟨_, by rw [hY, h, plus_plus]⟩
  have hw4 : ∀ Z, (∃ z, Z = plus Y z) → ∃ z, Z = plus W z := fun Z ⟨z, h⟩ => by obtain ⟨z1, h1⟩ := hw2'.out; exact ⟨_, by rw [h, hY, hX'.out, h1, plus_plus, plus_plus, plus_plus]⟩
  have hz4' := Lib.hid hz4
  have hw4' := Lib.hid hw4
  have y0 := cpU'.out Y (hw4 Y ⟨_, (plus_self Y).symm⟩) 0 _ rfl
  clear hY hz4 hw4 hX'
  simp only [Sl.v] at y0
  gi_wp2
  obtain ⟨n, hn⟩ : ∃ n, p.headers.l.length = n := ⟨_, rfl⟩
  rw [hn]
  gi_loopw [5, 6, 50] (fun _ _ iv wr => ∃ i : Nat, i ≤ n ∧ iv = .int .i64 (i : Int) ∧ ∃ z, wr = plus Y z) (fun _ _ iv _ => n - (intOf iv).toNat)
  case atStart => exact ⟨0, Nat.zero_le _, rfl, _, (plus_self Y).symm⟩
  case round =>
    obtain ⟨i, hi, rfl, hzr⟩ := hrel
    by_cases hlt : i < n
    · obtain ⟨a, ha⟩ : ∃ s, p.headers.l[i]? = some s := ⟨p.headers.l[i]'(by rw [hn]; exact hlt), List.getElem?_eq_getElem _⟩
      have hm := List.mem_of_getElem? ha
      have hwr : ∃ z, wr = plus V z := by obtain ⟨z, h⟩ := hzr; obtain ⟨z1, h1⟩ := hz4'.out; exact ⟨_, by rw [h, h1, plus_plus]⟩
      have hinr : p.In wr := by obtain ⟨z, h⟩ := hwr; rw [h]; exact hin'.out.plus z
      have hwW := hw4'.out wr hzr
      obtain ⟨pa, hpa, hcV⟩ := hinr.headers.row i a ha
      have hc0 := hcV.c0 _ rfl
      have hc1 := hcV.cs 0 _ rfl
      simp only [Sl.v] at hc1
      obtain ⟨o1, o2⟩ := ok_header hall'.out ha
      have q0 := fun o : Obj => cell_alloc (cpU'.out wr hwW 0 _ rfl) o
      have q1 := fun o : Obj => cell_alloc (cpU'.out wr hwW 1 _ rfl) o
      have q2 := fun o : Obj => cell_alloc (cpU'.out wr hwW 2 _ rfl) o
      have q3 := fun o : Obj => cell_alloc (cpU'.out wr hwW 3 _ rfl) o
      have q4 := fun o : Obj => cell_alloc (cpU'.out wr hwW 4 _ rfl) o
      have q5 := fun o : Obj => cell_alloc (cpU'.out wr hwW 5 _ rfl) o
      have q6 := fun o : Obj => cell_alloc (cpU'.out wr hwW 6 _ rfl) o
      have kH := ats_kp (q_Header p V hin'.out hz'.out a.name)
      rw [o1] at kH
      have kH' := Lib.hid kH
      have kB := ats_kp (q_Bits a.name a.fields wr (Fd.In wr) (hinr.headers.kids a hm).fields (by have h3 := le_sum_of Hr.sz p.headers.l a hm; have h4 := length_le_sum Fd.sz (fun y => by unfold Fd.sz; omega) a.fields.l; have h5 := hz'.out; unfold Pr.sz Hr.sz Sl.size at *; omega))
      simp only [Sl.v] at kB
      have kB' := Lib.hid kB
      have hwr' := Lib.hid hwr
      have hzr' := Lib.hid hzr
      have a6 := Lib.hid (wr_succ i n hlt (by rw [← hn]; exact (pr_len1 hz'.out).1))
      have ho1 : ∀ o : Obj, ∃ z, wr.alloc o = plus V z := fun o => by obtain ⟨z, h⟩ := hwr; rw [h]; exact plus_alloc1 V z o
      have ho1' := Lib.hid ho1
      have ho2 : ∀ o : Obj, ∃ z, wr.alloc o = plus Y z := fun o => by obtain ⟨z, h⟩ := hzr; rw [h]; exact plus_alloc1 Y z o
      have ho2' := Lib.hid ho2
      have hwb : wr.heap.size = wr.heap.size := rfl
      obtain ⟨B, hB⟩ : ∃ B, bitsI a.fields.l = B := ⟨_, rfl⟩
      rw [hB] at kB' o2
      clear kH kB ho1 ho2 hinr hcV hwr hzr hwW hm ha
      rw [hpa]
      gi_wp2
      refine ⟨trivial, rfl, CallsIn.mono (callsIn_wide.2 (kH'.out _ (ho1'.out _))) ?_⟩
      rintro e U2 ⟨rfl, x2, hU2⟩
      have s0 : U2.cell? ⟨wr.heap.size, 0, none⟩ = some (.string a.name) := by rw [hU2]; exact cell_keep ((cell_new wr _ _ _ 0 rfl).trans rfl) x2
      have s1 : U2.cell? ⟨wr.heap.size, 1, none⟩ = some (.slice a.fields.p a.fields.l.length a.fields.cap) := by rw [hU2]; exact cell_keep ((cell_new wr _ _ _ 1 rfl).trans rfl) x2
      have z2 : ∃ z, U2 = plus wr z := by obtain ⟨z, h⟩ := plus_of_below ((Below.refl wr.heap.size wr).alloc (Nat.le_refl _) (.cells #[.string a.name, .slice a.fields.p a.fields.l.length a.fields.cap] 38)); exact ⟨_, by rw [hU2, h, plus_plus]⟩
      have zY : ∃ z, U2 = plus Y z := by obtain ⟨z, h⟩ := z2; obtain ⟨z1, h1⟩ := hzr'.out; exact ⟨_, by rw [h, h1, plus_plus]⟩
      have z2' := Lib.hid z2
      have zY' := Lib.hid zY
      clear hU2 z2 zY q0 q1 q2 q3 q4 q5 q6
      gi_wp2
      refine ⟨trivial, rfl, CallsIn.mono (callsIn_wide.2 (kB'.out _ z2'.out)) ?_⟩
      rintro e U3 ⟨rfl, x3, hU3⟩
      have zY3 : ∃ z, U3 = plus Y z := by obtain ⟨z, h⟩ := zY'.out; exact ⟨_, by rw [hU3, h, plus_plus]⟩
      have zY3' := Lib.hid zY3
      clear hU3 zY3
      gi_wp2
      exact ⟨⟨i + 1, hlt, congrArg (Value.int .i64) a6.out, zY3'.out⟩, step_less i n hlt a6.out⟩
    · obtain rfl : i = n := by omega
      have hwr := hzr
      have y3 := cpU'.out wr (hw4'.out wr hzr) 3 _ rfl
      simp only [Sl.v] at y3
      have hzr' := Lib.hid hzr
      clear hzr hwr hlt hi
      obtain ⟨m, hm⟩ : ∃ m, p.actions.l.length = m := ⟨_, rfl⟩
      rw [hm] at y3
      gi_wp2
      rw [hm]
      gi_loopw [7, 8, 71] (fun _ _ iv wr => ∃ i : Nat, i ≤ m ∧ iv = .int .i64 (i : Int) ∧ ∃ z, wr = plus Y z) (fun _ _ iv _ => m - (intOf iv).toNat)
      case atStart => exact ⟨0, Nat.zero_le _, rfl, hzr'.out⟩
      case round =>
        obtain ⟨i, hi, rfl, hzr⟩ := hrel
        by_cases hlt : i < m
        · obtain ⟨a, ha⟩ : ∃ s, p.actions.l[i]? = some s := ⟨p.actions.l[i]'(by rw [hm]; exact hlt), List.getElem?_eq_getElem _⟩
          have hma := List.mem_of_getElem? ha
          have hwr : ∃ z, wr = plus V z := by obtain ⟨z, h⟩ := hzr; obtain ⟨z1, h1⟩ := hz4'.out; exact ⟨_, by rw [h, h1, plus_plus]⟩
          have hinr : p.In wr := by obtain ⟨z, h⟩ := hwr; rw [h]; exact hin'.out.plus z
          have hwW := hw4'.out wr hzr
          obtain ⟨pa, hpa, hcV⟩ := hinr.actions.row i a ha
          have hc0 := hcV.c0 _ rfl
          have hc1 := hcV.cs 0 _ rfl
          have hc2 := hcV.cs 1 _ rfl
          simp only [Sl.v] at hc1 hc2
          have o1 := ok_action hall'.out ha
          have q0 := fun o : Obj => cell_alloc (cpU'.out wr hwW 0 _ rfl) o
          have q1 := fun o : Obj => cell_alloc (cpU'.out wr hwW 1 _ rfl) o
          have q2 := fun o : Obj => cell_alloc (cpU'.out wr hwW 2 _ rfl) o
          have q3 := fun o : Obj => cell_alloc (cpU'.out wr hwW 3 _ rfl) o
          have q4 := fun o : Obj => cell_alloc (cpU'.out wr hwW 4 _ rfl) o
          have q5 := fun o : Obj => cell_alloc (cpU'.out wr hwW 5 _ rfl) o
          have q6 := fun o : Obj => cell_alloc (cpU'.out wr hwW 6 _ rfl) o
          have kH := ats_kp (q_Action p V hin'.out hz'.out a.name)
          rw [o1] at kH
          have kH' := Lib.hid kH
          have a6 := Lib.hid (wr_succ i m hlt (by rw [← hm]; exact (pr_len1 hz'.out).2.2.2.1))
          have ho1' := Lib.hid (show ∀ o : Obj, ∃ z, wr.alloc o = plus V z from fun o => by obtain ⟨z, h⟩ := hwr; rw [h]; exact plus_alloc1 V z o)
          have ho2' := Lib.hid (show ∀ o : Obj, ∃ z, wr.alloc o = plus Y z from fun o => by obtain ⟨z, h⟩ := hzr; rw [h]; exact plus_alloc1 Y z o)
          clear kH hinr hcV hwr hzr hwW hma ha
          rw [hpa]
          gi_wp2
          refine ⟨trivial, rfl, CallsIn.mono (callsIn_wide.2 (kH'.out _ (ho1'.out _))) ?_⟩
          rintro e U2 ⟨rfl, x2, hU2⟩
          have zY3' := Lib.hid (show ∃ z, U2 = plus Y z from by obtain ⟨z, h⟩ := ho2'.out _; exact ⟨_, by rw [hU2, h, plus_plus]⟩)
          clear hU2 q0 q1 q2 q3 q4 q5 q6
          gi_wp2
          exact ⟨⟨i + 1, hlt, congrArg (Value.int .i64) a6.out, zY3'.out⟩, step_less i m hlt a6.out⟩
        · obtain rfl : i = m := by omega
          have y4 := cpU'.out wr (hw4'.out wr hzr) 4 _ rfl
          simp only [Sl.v] at y4
          have hzr' := Lib.hid hzr
          clear hzr hlt hi
          obtain ⟨k, hk⟩ : ∃ k, p.tables.l.length = k := ⟨_, rfl⟩
          rw [hk] at y4
          gi_wp2
          rw [hk]
          gi_loopw [9, 10, 86] (fun _ _ iv wr => ∃ i : Nat, i ≤ k ∧ iv = .int .i64 (i : Int) ∧ ∃ z, wr = plus Y z) (fun _ _ iv _ => k - (intOf iv).toNat)
          case atStart => exact ⟨0, Nat.zero_le _, rfl, hzr'.out⟩
          case round =>
            obtain ⟨i, hi, rfl, hzr⟩ := hrel
            by_cases hlt : i < k
            · obtain ⟨a, ha⟩ : ∃ s, p.tables.l[i]? = some s := ⟨p.tables.l[i]'(by rw [hk]; exact hlt), List.getElem?_eq_getElem _⟩
              have hwr : ∃ z, wr = plus V z := by obtain ⟨z, h⟩ := hzr; obtain ⟨z1, h1⟩ := hz4'.out; exact ⟨_, by rw [h, h1, plus_plus]⟩
              have hinr : p.In wr := by obtain ⟨z, h⟩ := hwr; rw [h]; exact hin'.out.plus z
              have hwW := hw4'.out wr hzr
              obtain ⟨pa, hpa, hcV⟩ := hinr.tables.row i a ha
              have hc0 := hcV.c0 _ rfl
              have hc1 := hcV.cs 0 _ rfl
              have hc2 := hcV.cs 1 _ rfl
              have hc3 := hcV.cs 2 _ rfl
              have hc4 := hcV.cs 3 _ rfl
              simp only [Sl.v] at hc1 hc2 hc4
              obtain ⟨o1, o2⟩ := ok_table hall'.out ha
              obtain ⟨ka, xa, hka, -⟩ := acI_some o2
              have q0 := fun o : Obj => cell_alloc (cpU'.out wr hwW 0 _ rfl) o
              have q1 := fun o : Obj => cell_alloc (cpU'.out wr hwW 1 _ rfl) o
              have q2 := fun o : Obj => cell_alloc (cpU'.out wr hwW 2 _ rfl) o
              have q3 := fun o : Obj => cell_alloc (cpU'.out wr hwW 3 _ rfl) o
              have q4 := fun o : Obj => cell_alloc (cpU'.out wr hwW 4 _ rfl) o
              have q5 := fun o : Obj => cell_alloc (cpU'.out wr hwW 5 _ rfl) o
              have q6 := fun o : Obj => cell_alloc (cpU'.out wr hwW 6 _ rfl) o
              have kH := ats_kp (q_Table p V hin'.out hz'.out a.name)
              rw [o1] at kH
              have kH' := Lib.hid kH
              have kA := ats_kp (q_Action p V hin'.out hz'.out a.dflt.name)
              rw [hka] at kA
              have kA' := Lib.hid kA
              have a6 := Lib.hid (wr_succ i k hlt (by rw [← hk]; exact (pr_len1 hz'.out).2.2.2.2.1))
              have ho1' := Lib.hid (show ∀ o : Obj, ∃ z, wr.alloc o = plus V z from fun o => by obtain ⟨z, h⟩ := hwr; rw [h]; exact plus_alloc1 V z o)
              have ho2' := Lib.hid (show ∀ o : Obj, ∃ z, wr.alloc o = plus Y z from fun o => by obtain ⟨z, h⟩ := hzr; rw [h]; exact plus_alloc1 Y z o)
              clear kH kA hinr hcV hwr hzr hwW ha o2 hka
              rw [hpa]
              gi_wp2
              refine ⟨trivial, rfl, CallsIn.mono (callsIn_wide.2 (kH'.out _ (ho1'.out _))) ?_⟩
              rintro e U2 ⟨rfl, x2, hU2⟩
              have zY := show ∃ z, U2 = plus Y z from by obtain ⟨z, h⟩ := ho2'.out _; exact ⟨_, by rw [hU2, h, plus_plus]⟩
              have zV' := Lib.hid (show ∃ z, U2 = plus V z from by obtain ⟨z, h⟩ := ho1'.out _; exact ⟨_, by rw [hU2, h, plus_plus]⟩)
              have s0 : U2.cell? ⟨wr.heap.size, 3, none⟩ = some (.string a.dflt.name) := by rw [hU2]; exact cell_keep ((cell_new wr _ _ _ 3 rfl).trans rfl) x2
              have r0 := cpU'.out U2 (hw4'.out U2 zY) 0 _ rfl
              have r1 := cpU'.out U2 (hw4'.out U2 zY) 1 _ rfl
              have r2 := cpU'.out U2 (hw4'.out U2 zY) 2 _ rfl
              have r3 := cpU'.out U2 (hw4'.out U2 zY) 3 _ rfl
              have r4 := cpU'.out U2 (hw4'.out U2 zY) 4 _ rfl
              have r5 := cpU'.out U2 (hw4'.out U2 zY) 5 _ rfl
              have r6 := cpU'.out U2 (hw4'.out U2 zY) 6 _ rfl
              have zY' := Lib.hid zY
              clear hU2 zY q0 q1 q2 q3 q4 q5 q6
              gi_wp2
              refine ⟨trivial, rfl, CallsIn.mono (callsIn_wide.2 (kA'.out _ zV'.out)) ?_⟩
              rintro e U3 ⟨rfl, x3, hU3⟩
              have zY3' := Lib.hid (show ∃ z, U3 = plus Y z from by obtain ⟨z, h⟩ := zY'.out; exact ⟨_, by rw [hU3, h, plus_plus]⟩)
              have hA : ¬ ((ka : Int) < 0) := by omega
              clear hU3 r0 r1 r2 r3 r4 r5 r6
              gi_wp2
              exact ⟨⟨i + 1, hlt, congrArg (Value.int .i64) a6.out, zY3'.out⟩, step_less i k hlt a6.out⟩
            · obtain rfl : i = k := by omega
              have y2 := cpU'.out wr (hw4'.out wr hzr) 2 _ rfl
              simp only [Sl.v] at y2
              have hzr' := Lib.hid hzr
              clear hzr hlt hi
              obtain ⟨l, hl⟩ : ∃ l, p.states.l.length = l := ⟨_, rfl⟩
              rw [hl] at y2
              gi_wp2
              rw [hl]
              gi_loopw [11, 12, 109] (fun _ _ iv wr => ∃ i : Nat, i ≤ l ∧ iv = .int .i64 (i : Int) ∧ ∃ z, wr = plus Y z) (fun _ _ iv _ => l - (intOf iv).toNat)
              case atStart => exact ⟨0, Nat.zero_le _, rfl, hzr'.out⟩
              case round =>
                obtain ⟨i, hi, rfl, hzr⟩ := hrel
                by_cases hlt : i < l
                · obtain ⟨a, ha⟩ : ∃ s, p.states.l[i]? = some s := ⟨p.states.l[i]'(by rw [hl]; exact hlt), List.getElem?_eq_getElem _⟩
                  have ham := List.mem_of_getElem? ha
                  have hwr : ∃ z, wr = plus V z := by obtain ⟨z, h⟩ := hzr; obtain ⟨z1, h1⟩ := hz4'.out; exact ⟨_, by rw [h, h1, plus_plus]⟩
                  have hinr : p.In wr := by obtain ⟨z, h⟩ := hwr; rw [h]; exact hin'.out.plus z
                  have hwW := hw4'.out wr hzr
                  obtain ⟨pa, hpa, hcV⟩ := hinr.states.row i a ha
                  have hc0 := hcV.c0 _ rfl
                  have hc1 := hcV.cs 0 _ rfl
                  have hc2 := hcV.cs 1 _ rfl
                  have hc3 := hcV.cs 2 _ rfl
                  have hc4 := hcV.cs 3 _ rfl
                  simp only [Sl.v] at hc1 hc3 hc4
                  have o1 := ok_state hall'.out ha
                  have q0 := fun o : Obj => cell_alloc (cpU'.out wr hwW 0 _ rfl) o
                  have q1 := fun o : Obj => cell_alloc (cpU'.out wr hwW 1 _ rfl) o
                  have q2 := fun o : Obj => cell_alloc (cpU'.out wr hwW 2 _ rfl) o
                  have q3 := fun o : Obj => cell_alloc (cpU'.out wr hwW 3 _ rfl) o
                  have q4 := fun o : Obj => cell_alloc (cpU'.out wr hwW 4 _ rfl) o
                  have q5 := fun o : Obj => cell_alloc (cpU'.out wr hwW 5 _ rfl) o
                  have q6 := fun o : Obj => cell_alloc (cpU'.out wr hwW 6 _ rfl) o
                  have kS := ats_kp (q_State p V hin'.out hz'.out a.name)
                  rw [o1] at kS
                  have kS' := Lib.hid kS
                  have a6 := Lib.hid (wr_succ i l hlt (by rw [← hl]; exact (pr_len1 hz'.out).2.2.1))
                  have ho1' := Lib.hid (show ∀ o : Obj, ∃ z, wr.alloc o = plus V z from fun o => by obtain ⟨z, h⟩ := hwr; rw [h]; exact plus_alloc1 V z o)
                  have ho2' := Lib.hid (show ∀ o : Obj, ∃ z, wr.alloc o = plus Y z from fun o => by obtain ⟨z, h⟩ := hzr; rw [h]; exact plus_alloc1 Y z o)
                  have ha' := Lib.hid ha
                  clear kS hinr hcV hwr hzr hwW ha
                  rw [hpa]
                  gi_wp2
                  refine ⟨trivial, rfl, CallsIn.mono (callsIn_wide.2 (kS'.out _ (ho1'.out _))) ?_⟩
                  rintro e U2 ⟨rfl, x2, hU2⟩
                  have zY := show ∃ z, U2 = plus Y z from by obtain ⟨z, h⟩ := ho2'.out _; exact ⟨_, by rw [hU2, h, plus_plus]⟩
                  have s1 : U2.cell? ⟨wr.heap.size, 1, none⟩ = some (.slice a.takes.p a.takes.l.length a.takes.cap) := by rw [hU2]; exact cell_keep ((cell_new wr _ _ _ 1 rfl).trans rfl) x2
                  have s2 : ∀ Z, (∃ z, Z = plus U2 z) → Z.cell? ⟨wr.heap.size, 2, none⟩ = some (.string a.to) := fun Z ⟨z, h⟩ => by rw [h, hU2]; exact cell_keep (cell_keep ((cell_new wr _ _ _ 2 rfl).trans rfl) x2) z
                  have s4 : ∀ Z, (∃ z, Z = plus U2 z) → Z.cell? ⟨wr.heap.size, 4, none⟩ = some (.slice a.cases.p a.cases.l.length a.cases.cap) := fun Z ⟨z, h⟩ => by rw [h, hU2]; exact cell_keep (cell_keep ((cell_new wr _ _ _ 4 rfl).trans rfl) x2) z
                  have S2 := Lib.hid s2
                  have S4 := Lib.hid s4
                  have zY' := Lib.hid zY
                  clear hU2 zY s2 s4 q0 q1 q2 q3 q4 q5 q6
                  obtain ⟨t, ht⟩ : ∃ t, a.takes.l.length = t := ⟨_, rfl⟩
                  rw [ht] at s1
                  gi_wp2
                  gi_loopw [16, 131] (fun _ iv wr => ∃ j : Nat, j ≤ t ∧ iv = .int .i64 (j : Int) ∧ ∃ z, wr = plus U2 z) (fun _ iv _ => t - (intOf iv).toNat)
                  case atStart => exact ⟨0, Nat.zero_le _, rfl, _, (plus_self U2).symm⟩
                  case round =>
                    obtain ⟨j, hj, rfl, hzj⟩ := hrel
                    by_cases hjt : j < t
                    · obtain ⟨y, hy⟩ : ∃ y, a.takes.l[j]? = some y := ⟨a.takes.l[j]'(by rw [ht]; exact hjt), List.getElem?_eq_getElem _⟩
                      have hZY : ∃ z, wr = plus Y z := by obtain ⟨z, h⟩ := hzj; obtain ⟨z1, h1⟩ := zY'.out; exact ⟨_, by rw [h, h1, plus_plus]⟩
                      have hZV : ∃ z, wr = plus V z := by obtain ⟨z, h⟩ := hZY; obtain ⟨z1, h1⟩ := hz4'.out; exact ⟨_, by rw [h, h1, plus_plus]⟩
                      have hinZ : p.In wr := by obtain ⟨z, h⟩ := hZV; rw [h]; exact hin'.out.plus z
                      have o3 := ok_take hall'.out ha'.out hy
                      obtain ⟨pt, hpt, hcT⟩ := (hinZ.states.kids a ham).takes.row j y hy
                      have d0 := hcT.c0 _ rfl
                      simp only [Nat.mul_one] at d0
                      have kT := ats_kp (q_Header p V hin'.out hz'.out y)
                      have hT0 : ¬ (hdI p.headers.l y < 0) := by
                        rcases firstI_ge (fun x : Hr => x.name.toList == y.toList) p.headers.l 0 with q | ⟨q, _⟩
                        · exact absurd q o3
                        · intro h; have : (0 : Int) ≤ hdI p.headers.l y := q; omega
                      obtain ⟨H, hH⟩ : ∃ H, hdI p.headers.l y = H := ⟨_, rfl⟩
                      rw [hH] at kT hT0
                      have kT' := Lib.hid kT
                      have r0 := cpU'.out wr (hw4'.out wr hZY) 0 _ rfl
                      have r1 := cpU'.out wr (hw4'.out wr hZY) 1 _ rfl
                      have r2 := cpU'.out wr (hw4'.out wr hZY) 2 _ rfl
                      have r3 := cpU'.out wr (hw4'.out wr hZY) 3 _ rfl
                      have r4 := cpU'.out wr (hw4'.out wr hZY) 4 _ rfl
                      have r5 := cpU'.out wr (hw4'.out wr hZY) 5 _ rfl
                      have r6 := cpU'.out wr (hw4'.out wr hZY) 6 _ rfl
                      have hZV' := Lib.hid hZV
                      have hzj' := Lib.hid hzj
                      have b6 := Lib.hid (wr_succ j t hjt (by have h3 := le_sum_of Sa.sz p.states.l a ham; have h4 := length_le_sum strSize (fun y => by unfold strSize; omega) a.takes.l; have h5 := hz'.out; unfold Pr.sz Sa.sz Sl.size at *; omega))
                      clear kT hZY hZV hinZ hcT hzj hy o3 hH
                      rw [hpt]
                      gi_wp2
                      refine ⟨trivial, rfl, CallsIn.mono (callsIn_wide.2 (kT'.out _ hZV'.out)) ?_⟩
                      rintro e U3 ⟨rfl, x3, hU3⟩
                      have zU := Lib.hid (show ∃ z, U3 = plus U2 z from by obtain ⟨z, h⟩ := hzj'.out; exact ⟨_, by rw [hU3, h, plus_plus]⟩)
                      clear hU3
                      gi_wp2
                      exact ⟨⟨j + 1, hjt, congrArg (Value.int .i64) b6.out, zU.out⟩, step_less j t hjt b6.out⟩
                    · obtain rfl : j = t := by omega
                      have hZY : ∃ z, wr = plus Y z := by obtain ⟨z, h⟩ := hzj; obtain ⟨z1, h1⟩ := zY'.out; exact ⟨_, by rw [h, h1, plus_plus]⟩
                      have hZV : ∃ z, wr = plus V z := by obtain ⟨z, h⟩ := hZY; obtain ⟨z1, h1⟩ := hz4'.out; exact ⟨_, by rw [h, h1, plus_plus]⟩
                      have hinZ : p.In wr := by obtain ⟨z, h⟩ := hZV; rw [h]; exact hin'.out.plus z
                      have c2 := S2.out wr hzj
                      have c4 := fun o : Obj => cell_alloc (S4.out wr hzj) o
                      have hrow : ∀ o : Obj, RowAt (wr.alloc o) 3 Ca.cells a.cases.p a.cases.l := fun o => by obtain ⟨z, h⟩ := plus_alloc1' wr o; rw [h]; exact (hinZ.states.kids a ham).cases.row.plus z
                      have hrow' := Lib.hid hrow
                      have hmb : a.cases.l.length ≤ 1048576 := by have h3 := le_sum_of Sa.sz p.states.l a ham; have h4 := length_le_sum Ca.sz (fun y => by unfold Ca.sz; omega) a.cases.l; have h5 := hz'.out; unfold Pr.sz Sa.sz Sl.size at *; omega
                      obtain ⟨m, hm⟩ : ∃ m, a.cases.l.length = m := ⟨_, rfl⟩
                      simp only [hm] at c4 hmb
                      have hm' := Lib.hid hm
                      have hmb' := Lib.hid hmb
                      have hZV' := Lib.hid hZV
                      have hZY' := Lib.hid hZY
                      have hfin := Lib.hid (next_fine hB'.out hall'.out ha'.out)
                      have hown0 := Lib.hid (World.ownsRow_lit (w := wr) (base := wr.heap.size) (e := 57) (size := 3) #[.bool false, .slice none 0 0, .string a.to] 1 (Nat.le_refl _) (by decide) rfl)
                      obtain ⟨i0, hi0, hi1, hi2, hi3⟩ := info_parts case_info
                      clear hm hmb hZV hZY hinZ hrow
                      gi_wp2_with (first | (gi_at_builtin; refine wpListIn_append_sl rfl _ _ 50 rfl wr.heap.size 57 i0 _ 3 48 Tryz.underlying50 hi0 hi1 hi2 hi3 rfl (by decide) _ _ _ rfl hown0.out a.cases.p m a.cases.cap a.cases.l Ca.cells rfl hm'.out (hrow'.out _) (fun _ _ => rfl) (fun y _ => ca_one y) (by have := hmb'.out; simp only [maxLen]; omega) (by have := hmb'.out; omega) (by simp) ?_; intro v' w' hown hgrow; obtain ⟨g, cap, rfl, -, -⟩ := own_sl hown (by omega); obtain ⟨zX, rX⟩ := tg_row hown hgrow; obtain ⟨q, hq⟩ : ∃ q : Option Addr, some (⟨g, 0, none⟩ : Addr) = q := ⟨_, rfl⟩; rw [hq] at rX ⊢; obtain ⟨M, hM⟩ : ∃ M, 1 + m = M := ⟨_, rfl⟩; rw [hM]; have zX' := Lib.hid zX; have rX' := Lib.hid rX; have hM' := Lib.hid hM; clear hown hgrow zX rX hq hM))
                      have zYX' := Lib.hid (show ∃ z, w' = plus Y z from by obtain ⟨z, h⟩ := zX'.out; obtain ⟨z1, h1⟩ := hZY'.out; exact ⟨_, by rw [h, h1, plus_plus]⟩)
                      have hTL := Lib.hid (tg_len a m M hm'.out hM'.out)
                      have hMb := Lib.hid (show M ≤ 2097152 from by have := hM'.out; have := hmb'.out; omega)
                      clear hown0 hrow' c4
                      gi_loopw [18, 148] (fun _ iv wr => ∃ j : Nat, j ≤ M ∧ iv = .int .i64 (j : Int) ∧ ∃ z, wr = plus w' z) (fun _ iv _ => M - (intOf iv).toNat)
                      case atStart => exact ⟨0, Nat.zero_le _, rfl, _, (plus_self w').symm⟩
                      case round =>
                        obtain ⟨j, hj, rfl, hzj⟩ := hrel
                        by_cases hjt : j < M
                        · obtain ⟨y, hy⟩ : ∃ y, (tgL a)[j]? = some y := ⟨(tgL a)[j]'(by rw [hTL.out]; exact hjt), List.getElem?_eq_getElem _⟩
                          have hfy := hfin.out y (List.mem_of_getElem? hy)
                          have hZY : ∃ z, wr = plus Y z := by obtain ⟨z, h⟩ := hzj; obtain ⟨z1, h1⟩ := zYX'.out; exact ⟨_, by rw [h, h1, plus_plus]⟩
                          have hZV : ∃ z, wr = plus V z := by obtain ⟨z, h⟩ := hZY; obtain ⟨z1, h1⟩ := hz4'.out; exact ⟨_, by rw [h, h1, plus_plus]⟩
                          have rZ : RowAt wr 3 Ca.cells q (tgL a) := by obtain ⟨z, h⟩ := hzj; rw [h]; exact rX'.out.plus z
                          obtain ⟨pt, hpt, hcT⟩ := rZ j y hy
                          have hc0 := hcT.c0 _ rfl
                          have hc1 := hcT.cs 0 _ rfl
                          have hc2 := hcT.cs 1 _ rfl
                          simp only [Sl.v] at hc1
                          have kT := ats_kp (q_State p V hin'.out hz'.out y.to)
                          obtain ⟨⟨s1, s2⟩, hs⟩ : ∃ r, stI p.states.l y.to = r := ⟨_, rfl⟩
                          rw [hs] at kT hfy
                          simp only at kT hfy
                          have kT' := Lib.hid kT
                          have q0 := fun o : Obj => cell_alloc (cpU'.out wr (hw4'.out wr hZY) 0 _ rfl) o
                          have q1 := fun o : Obj => cell_alloc (cpU'.out wr (hw4'.out wr hZY) 1 _ rfl) o
                          have q2 := fun o : Obj => cell_alloc (cpU'.out wr (hw4'.out wr hZY) 2 _ rfl) o
                          have q3 := fun o : Obj => cell_alloc (cpU'.out wr (hw4'.out wr hZY) 3 _ rfl) o
                          have q4 := fun o : Obj => cell_alloc (cpU'.out wr (hw4'.out wr hZY) 4 _ rfl) o
                          have q5 := fun o : Obj => cell_alloc (cpU'.out wr (hw4'.out wr hZY) 5 _ rfl) o
                          have q6 := fun o : Obj => cell_alloc (cpU'.out wr (hw4'.out wr hZY) 6 _ rfl) o
                          have b6 := Lib.hid (wr_succ' j M hjt hMb.out)
                          have ho1' := Lib.hid (show ∀ o : Obj, ∃ z, wr.alloc o = plus V z from fun o => by obtain ⟨z, h⟩ := hZV; rw [h]; exact plus_alloc1 V z o)
                          have ho2' := Lib.hid (show ∀ o : Obj, ∃ z, wr.alloc o = plus w' z from fun o => by obtain ⟨z, h⟩ := hzj; rw [h]; exact plus_alloc1 w' z o)
                          replace hfy := Lib.hid hfy
                          clear kT hZY hZV rZ hcT hzj hy hs
                          rw [hpt]
                          gi_wp2
                          refine ⟨trivial, rfl, CallsIn.mono (callsIn_wide.2 (kT'.out _ (ho1'.out _))) ?_⟩
                          rintro e U3 ⟨rfl, x3, hU3⟩
                          have zU := Lib.hid (show ∃ z, U3 = plus w' z from by obtain ⟨z, h⟩ := ho2'.out _; exact ⟨_, by rw [hU3, h, plus_plus]⟩)
                          have r2 : U3.cell? ⟨wr.heap.size, 2, none⟩ = some (.string y.to) := by rw [hU3]; exact cell_keep ((cell_new wr _ _ _ 2 rfl).trans rfl) x3
                          clear hU3 q0 q1 q2 q3 q4 q5 q6 hc0 hc1 hc2
                          by_cases he : y.to.toList = []
                          · have e1 : (y.to.toList == ([] : List UInt8)) = true := by simpa using he
                            have e2 : y.to.toList.isEmpty = true := by simpa using he
                            clear he
                            gi_wp2
                            exact ⟨⟨j + 1, hjt, congrArg (Value.int .i64) b6.out, zU.out⟩, step_less j M hjt b6.out⟩
                          · have e1 : (y.to.toList == ([] : List UInt8)) = false := by simpa using he
                            have e2 : y.to.toList.isEmpty = false := by simpa using he
                            obtain rfl : s2 = true := by rcases hfy.out with h | h; exact absurd h he; exact h
                            clear he
                            gi_wp2
                            exact ⟨⟨j + 1, hjt, congrArg (Value.int .i64) b6.out, zU.out⟩, step_less j M hjt b6.out⟩
                        · obtain rfl : j = M := by omega
                          have zY6 := Lib.hid (show ∃ z, wr = plus Y z from by obtain ⟨z, h⟩ := hzj; obtain ⟨z1, h1⟩ := zYX'.out; exact ⟨_, by rw [h, h1, plus_plus]⟩)
                          clear hzj
                          gi_wp2
                          exact ⟨⟨i + 1, hlt, congrArg (Value.int .i64) a6.out, zY6.out⟩, step_less i l hlt a6.out⟩
                · obtain rfl : i = l := by omega
                  have hwV : ∃ z, wr = plus V z := by obtain ⟨z, h⟩ := hzr; obtain ⟨z1, h1⟩ := hz4'.out; exact ⟨_, by rw [h, h1, plus_plus]⟩
                  have hwV' := Lib.hid hwV
                  clear hwV hzr hlt hi
                  gi_wp2
                  refine ⟨trivial, rfl, CallsIn.mono (law_known7 wr) ?_⟩
                  rintro e Z ⟨rfl, y3, hZ⟩
                  have hz5' := Lib.hid (show ∃ z, Z = plus V z from by obtain ⟨z, h⟩ := hwV'.out; exact ⟨_, by rw [hZ, h, plus_plus]⟩)
                  clear hZ
                  gi_wp2
                  go_ret
                  exact ⟨rfl, hz5'.out⟩
end Go.Proofs.YtlmhldcebllckaaGreat
