/-
  WHAT IS PROVED HERE: the law TokenBack is true of texts without a fault, in worlds in which the program's table of marks and strconv's errors stand.
-/
import Derived.Test.YtiodfenkbhlpdaaDoorRows
import Derived.Test.YtiodfenkbhlpdaaDoorBc
import Derived.WalkKit
import Derived.WalkSpells
import Derived.WalkLawsBesides
namespace Go.Proofs.YtiodfenkbhlpdaaDoor
open Go.RowKit
theorem str_info : (Tryd.prog.info? 9).map (fun i => (i.zero, i.size, i.bytes)) = some (some (.string ⟨#[]⟩), 1, 16) := by kernel_rfl
/-- Their texts, as values. -/
def textV (l : List Tok) : List Value := l.map fun t => .string t.s
/-- The world while TokenBack goes through the tokens: the words so far. -/
structure WInv (W : World) (ws : List Tok) (v : Value) (wr : World) : Prop where
  below : Below W.heap.size W wr
  own : wr.ownsRow W.heap.size 9 1 v ws.length (textV ws)
theorem WInv.plus {W wr : World} {ws : List Tok} {v : Value} (h : WInv W ws v wr) (x : Ext) : WInv W ws v (plus wr x) :=
  ⟨h.below.trans ((below_plus wr x).mono h.below.size), owns_plus h.own x⟩
theorem WInv.alloc {W wr : World} {ws : List Tok} {v : Value} (h : WInv W ws v wr) (o : Obj) : WInv W ws v (wr.alloc o) :=
  ⟨h.below.alloc h.below.size _, h.own.alloc o⟩
theorem WInv.grown {W wr w1 : World} {ws : List Tok} {v v' : Value} {t : Tok} (h : WInv W ws v wr) (ho : w1.ownsRow W.heap.size 9 1 v' (ws.length + 1) (textV ws ++ [.string t.s])) (hg : wr.grownBy w1 v.ownBlock) : WInv W (ws ++ [t]) v' w1 :=
  ⟨h.below.grown hg h.below.size (fun k hk => (h.own.lt k hk).1), by unfold textV at ho ⊢; simpa using ho⟩
theorem WInv.tok {W wr : World} {ws : List Tok} {v : Value} {g j : Nat} {t : Tok} (h : WInv W ws v wr) (ht : TokAt W g j t) : TokAt wr g j t := by
  obtain ⟨x, hx⟩ := plus_of_below h.below
  rw [hx]
  exact ht.plus x
theorem take_more {l : List Tok} {i : Nat} {t : Tok} (h : l[i]? = some t) : l.take i ++ [t] = l.take (i + 1) := by
  obtain ⟨hl, rfl⟩ := List.getElem?_eq_some_iff.1 h
  exact (List.take_succ_eq_append_getElem hl).symm
/-- What each token of a lexed text tells: it stands where it says. -/
def Stands (s : ByteArray) (t : Tok) : Prop := t.at_ ≤ s.size ∧ fitB s t.at_ t.s = true
theorem Real.stands {s : ByteArray} {t : Tok} (h : Real s t) : Stands s t := by
  have hz := h.size
  refine ⟨by omega, ?_⟩
  unfold fitB
  rw [decide_eq_true ⟨hz.2, h.text⟩]
theorem end_stands (s : ByteArray) : Stands s (endTok s) := by
  refine ⟨Nat.le_refl _, ?_⟩
  rw [fit_iff]
  exact ⟨Nat.le_refl _, fun i hi => absurd hi (Nat.not_lt_zero _)⟩
theorem own_cap {W : World} {base : Nat} {e : TypeId} {size : Nat} {g n cap : Nat} {xs : List Value} (h : W.ownsRow base e size (.slice (some ⟨g, 0, none⟩) n cap) n xs) : n ≤ cap := by
  rcases h.2 with ⟨h1, _⟩ | ⟨g', cap', cur, h1, _, _, h4, _⟩
  · cases h1
  · simp only [Value.slice.injEq] at h1
    omega
theorem sep_index (b : Int) (K : Nat) (hK : K < 4) (hb : b % 4 = (K : Int)) (w : World) : (Instr.index 39 (.agg #[.string ⟨#[32]⟩, .string ⟨#[10]⟩, .string ⟨#[9, 47, 47, 32, 99, 10]⟩, .string ⟨#[32, 47, 47, 32, 10, 10]⟩]) (.int .u8 (b % 4))).run Tryd.prog w = .ok (.string (sepAt K)) w := by
  rw [hb]
  have : K = 0 ∨ K = 1 ∨ K = 2 ∨ K = 3 := by omega
  rcases this with rfl | rfl | rfl | rfl <;> (simp [Instr.index, run_underlying Tryd.underlying39, asIntOf, go_sem, sepAt])
/-- Joined: the tokens, each with that behind it. -/
theorem lib_join (s : ByteArray) (rs : List Tok) (K g cap n : Nat) (wr : World) (base : Nat) (hn : (rs ++ [endTok s]).length = n) (hn1 : n ≤ 1501) (hsz : (body (sepAt K) rs).size ≤ 20000) (ho : wr.ownsRow base 9 1 (.slice (some ⟨g, 0, none⟩) n cap) n (textV (rs ++ [endTok s]))) (hg : g < wr.heap.size) :
    Calls Tryd.prog 7 #[.slice (some ⟨g, 0, none⟩) n cap, .string (sepAt K)] wr fun e w' => e = .returned (.string (body (sepAt K) rs)) ∧ ∃ x, w' = plus wr x := by
  have hj := body_join (sepAt K) rs
  have hlen : (Lib.join ((rs.map (·.s) ++ [(⟨#[]⟩ : ByteArray)]).map (·.data.toList)) (sepAt K).data.toList).length ≤ 140737488355328 := by
    have h1 := congrArg (fun x : ByteArray => x.data.toList.length) hj
    simp only at h1
    rw [h1, data_len]
    omega
  have hxl : (rs.map (·.s) ++ [(⟨#[]⟩ : ByteArray)]).length = n := by rw [← hn]; simp
  have h := Tryd.strings_Join g 0 cap (rs.map (·.s) ++ [(⟨#[]⟩ : ByteArray)]) (sepAt K) wr ?_ hg (by omega) (by rw [hxl]; exact own_cap ho) hlen
  · rw [hxl, hj] at h
    exact h.mono fun _ _ ⟨he, hB⟩ => ⟨he, plus_of_below hB⟩
  · intro j x hx
    have hjn := (List.getElem?_eq_some_iff.1 hx).1
    rw [hxl] at hjn
    have hc := ho.cellAt j (by omega)
    rw [Nat.zero_add]
    rw [hc]
    have e2 : textV (rs ++ [endTok s]) = (rs.map (·.s) ++ [(⟨#[]⟩ : ByteArray)]).map Value.string := by
      unfold textV
      simp
      rfl
    rw [e2, List.getElem?_map, hx]
    rfl
/-- Same says that tokens are the same, but for where they stand. -/
theorem same_alike (l m : List Tok) (v1 v2 : Value) (base1 base2 : Nat) (w : World) (hlen : m.length = l.length) (hn : 0 < l.length) (hb : l.length ≤ 140737488355328) (h1 : w.ownsRow base1 35 6 v1 l.length (l.flatMap tokL)) (h2 : w.ownsRow base2 35 6 v2 m.length (m.flatMap tokL)) (ha : ∀ (j : Nat) t u, l[j]? = some t → m[j]? = some u → Alike t u) :
    Calls Tryd.prog 8 #[v1, v2, .bool false] w fun e w' => e = .returned (.bool true) ∧ ∃ x, w' = plus w x := by
  obtain ⟨g1, c1, rfl, _, hg1⟩ := own_form h1 hn
  obtain ⟨g2, c2, rfl, _, hg2⟩ := own_form h2 (by omega)
  refine ref_same l m false g1 g2 c1 c2 w hlen hb (tok_at h1 hg1) (tok_at h2 hg2) ?_
  intro j t u ht hu
  obtain ⟨a1, a2, a3, a4⟩ := ha j t u ht hu
  exact ⟨a1, a2, a3, a4, fun h => by cases h⟩
theorem alike_end {s A : ByteArray} {rs us : List Tok} (hl : us.length = rs.length) (h : ∀ (j : Nat) t u, rs[j]? = some t → us[j]? = some u → Alike t u) (j : Nat) (t u : Tok) (ht : (rs ++ [endTok s])[j]? = some t) (hu : (us ++ [endTok A])[j]? = some u) : Alike t u := by
  rcases Nat.lt_or_ge j rs.length with g | g
  · rw [List.getElem?_append_left g] at ht
    rw [List.getElem?_append_left (by omega)] at hu
    exact h j t u ht hu
  · rw [List.getElem?_append_right g] at ht
    rw [List.getElem?_append_right (by omega)] at hu
    have hj : j - rs.length = 0 := by
      have := (List.getElem?_eq_some_iff.1 ht).1
      simp at this
      omega
    rw [hj] at ht
    rw [show j - us.length = 0 by omega] at hu
    simp at ht hu
    subst ht hu
    exact ⟨rfl, rfl, rfl, rfl⟩
set_option maxHeartbeats 8000000 in
set_option maxRecDepth 100000 in
/-- The loop over the tokens: their texts, in memory of its own. -/
theorem back_ok (s : ByteArray) (b : Int) (hb0 : 0 ≤ b) (hb1 : b ≤ 255) (h : ¬ 1500 < s.size) (h0 : (lexR s).2.2 = 0) : PureS 3 #[.string s, .int .u8 b] (.bool true) := by
  intro w hS
  obtain ⟨K, hK4, hbk⟩ : ∃ K : Nat, K < 4 ∧ b % 4 = (K : Int) := ⟨(b % 4).toNat, by omega, by omega⟩
  obtain ⟨l, x0, E0, hl⟩ : ∃ l x E, lexR s = (l, x, E) := ⟨_, _, _, rfl⟩
  rw [hl] at h0
  simp only at h0
  subst h0
  obtain ⟨rs, us, e1, hr, hlen, hsz, hA, hul, hal⟩ := lexR_back K (by omega) hl
  have hL := tok_lex s (by omega) w hS
  have hLA := fun w hS => tok_lex (body (sepAt K) rs) (by omega) w hS
  unfold LexEnds at hL hLA
  rw [hl, fault0 s (l, x0, 0) rfl] at hL
  rw [hA, fault0 (body (sepAt K) rs) _ rfl] at hLA
  simp only at hL hLA
  have hst : ∀ (j : Nat) t, l[j]? = some t → Stands s t := fun j t ht => by
    have hm : t ∈ l := List.mem_of_getElem? ht
    rw [e1] at hm
    rcases List.mem_append.1 hm with hm | hm
    · exact (hr t hm).stands
    · rw [List.mem_singleton.1 hm]; exact end_stands s
  have hn : 0 < l.length := by rw [e1]; simp
  have hn1 : l.length ≤ 1501 := by rw [e1]; simp; omega
  have hlast : l[l.length - 1]? = some (endTok s) := by rw [e1]; simp
  have hL' := Lib.hid hL
  have hLA' := Lib.hid hLA
  have hst' := Lib.hid hst
  have hlast' := Lib.hid hlast
  have hS' := Lib.hid hS
  have hK' := Lib.hid known3
  have h' : ¬ (1500 : Int) < s.size := by omega
  have q := neq_fv0
  have e1' := Lib.hid e1
  have hl' := Lib.hid hl
  have hbk' := Lib.hid hbk
  have hul' := Lib.hid hul
  clear hL hLA hst hlast hS h hA e1 hl hbk hul
  go_enter Tryd.func3, Tryd.ntmps3
  go_wp2_with fail
  refine hL'.out.mono ?_
  rintro e W1 ⟨v1, rfl, own1, hB1⟩
  obtain ⟨g, cap, rfl, hg, hgl⟩ := own_form own1 hn
  obtain ⟨n, hnl⟩ : ∃ n, l.length = n := ⟨_, rfl⟩
  have hTok : ∀ j t, l[j]? = some t → TokAt W1 g j t := fun j t ht => tok_at own1 hgl j t ht
  have hlt := (hTok _ _ hlast'.out).c0
  obtain ⟨W2, hW2⟩ : ∃ W2, W2 = W1.alloc (.cells #[.int .i64 0, .int .i64 0, .int .i64 0] 28) := ⟨_, rfl⟩
  have hB2 := Lib.hid (show Below w.heap.size w W2 by rw [hW2]; exact hB1.alloc hB1.size _)
  have hTok2 : Hid (∀ j t, l[j]? = some t → TokAt W2 g j t) := fun j t ht => by
    have hB : Below W1.heap.size W1 W2 := by rw [hW2]; exact (Below.refl _ _).alloc (Nat.le_refl _) _
    obtain ⟨x, hx⟩ := plus_of_below hB
    rw [hx]
    exact (hTok j t ht).plus x
  have hltA : ∀ o, (W1.alloc o).cell? ⟨g, (n - 1) * 6, none⟩ = some (.int .u8 0) := fun o => by rw [← hnl]; exact (cell_old W1 o g _ hgl).trans hlt
  have hnl' := Lib.hid hnl
  rw [hnl] at hn hn1 ⊢
  have hW2' := Lib.hid hW2
  have hown1 := Lib.hid own1
  have hB12 : Hid (Below W1.heap.size W1 W2) := by show Below _ _ _; rw [hW2'.out]; exact (Below.refl _ _).alloc (Nat.le_refl _) _
  clear hnl own1 hTok hlt hB1 hW2
  have hn0 : ((n : Int) == 0) = false := by simp; omega
  go_wp2
  rw [← hW2'.out]
  have hW0 : Hid (WInv W2 [] (.slice none 0 0) W2) := ⟨Below.refl _ _, World.ownsRow_nil _ _ _ _⟩
  clear hltA q
  go_loopw [7, 46] (fun wv iv wr => ∃ i : Nat, i ≤ n ∧ iv = .int .i64 (i : Int) ∧ WInv W2 (l.take i) wv wr) (fun _ iv _ => n - (intOf iv).toNat)
  case atStart => exact ⟨0, Nat.zero_le _, rfl, hW0.out⟩
  case round =>
    obtain ⟨i, hin, rfl, hW⟩ := hrel
    clear hW0
    by_cases hlt : i < n
    · obtain ⟨t, ht⟩ : ∃ t, l[i]? = some t := ⟨_, List.getElem?_eq_getElem (by rw [hnl'.out]; exact hlt)⟩
      have hT := hW.tok (hTok2.out i t ht)
      have hsd := hst'.out i t ht
      have hmore0 := take_more ht
      have hws4 : (l.take i).length ≤ n := by rw [List.length_take]; have := hnl'.out; omega
      generalize l.take i = ws at hW hmore0 hws4
      have hmore := Lib.hid hmore0
      have hWi := Lib.hid hW
      clear hW hmore0
      have ht' := Lib.hid ht
      have c0 := hT.c0
      have c1 := hT.c1
      have c2 := hT.c2
      have c3 := hT.c3
      have c4 := hT.c4
      have c5 := hT.c5
      clear hT ht
      go_wp2
      obtain ⟨V, hV⟩ : ∃ V, V = wr.alloc (.cells #[.int .u8 (t.kind : Int), .string t.s, .int .i64 t.w, .int .u64 (hi t.n), .int .u64 (lo t.n), .int .i64 (t.at_ : Int)] 35) := ⟨_, rfl⟩
      have hVlt : wr.heap.size < V.heap.size := by rw [hV]; simp
      have z1 := plus_cell hVlt (show V.cell? ⟨wr.heap.size, 1, none⟩ = some (.string t.s) by rw [hV]; exact cell_new wr _ _ _ 1 rfl)
      have z5 := plus_cell hVlt (show V.cell? ⟨wr.heap.size, 5, none⟩ = some (.int .i64 (t.at_ : Int)) by rw [hV]; exact cell_new wr _ _ _ 5 rfl)
      have hWV : Hid (WInv W2 ws u7 V) := by show WInv _ _ _ _; rw [hV]; exact hWi.out.alloc _
      rw [← hV]
      clear hV c0 c1 c2 c3 c4 c5 hVlt
      have hP := lib_prefix s t.s t.at_ hsd.1
      rw [hsd.2] at hP
      have hP' := Lib.hid hP
      have d1 : decide ((t.at_ : Int) < 0) = false := decide_eq_false (by omega)
      have hat := hsd.1
      have d2 : decide (s.size < t.at_) = false := decide_eq_false (by omega)
      clear hsd hP
      refine wp_region_own0 (by kernel_rfl) (by kernel_rfl) ?_
      repeat (go_big_quiet_step (with_reducible exact hP'.out.at _ _))
      refine wpQuiet_nil ?_
      rintro _ ⟨y, rfl⟩
      have k1 := z1 y
      have hWy := hWV.out.plus y
      clear z1 z5 hWV d1 d2 hP' hat
      generalize Go.Proofs.YtiodfenkbhlpdaaDoor.plus V y = V2 at k1 hWy ⊢
      have hW3 := Lib.hid (hWy.alloc (.cells #[.string t.s] 9))
      have hcells : ∀ j u, [Value.string t.s][j]? = some u → (V2.alloc (.cells #[.string t.s] 9)).cell? ((⟨V2.heap.size, 0, none⟩ : Addr).add j) = some u := fun j u hj => by
        rw [Addr.add_lit, Nat.zero_add, cell_new _ _ _ _ _ rfl]
        simpa using hj
      have hcells' := Lib.hid hcells
      have hVsz : W2.heap.size ≤ V2.heap.size := hWy.below.size
      clear hcells hWy
      obtain ⟨i0, hi, hz01, hz02, hz03⟩ := info_parts str_info
      go_wp2_with (at_builtin; refine wpList_append_own _ rfl _ _ 36 rfl W2.heap.size 9 i0 _ 1 16 Tryd.underlying36 hi hz01 hz02 hz03 rfl (by decide) _ _ _ rfl hW3.out.own ⟨V2.heap.size, 0, none⟩ 1 1 [.string t.s] rfl rfl hcells'.out (by intro u hu; simp only [List.mem_singleton] at hu; subst hu; rfl) (by unfold maxLen; omega) (by omega) (by simp; omega) ?_)
      intro v' w1 hown hgrow _
      have hW4 := Lib.hid (hW3.out.grown (t := t) hown hgrow)
      clear hown hgrow hi hz01 hz02 hz03 hW3 hcells' hws4
      go_wp2
      go_roundw
      case rel => exact ⟨i + 1, by omega, by go_num, by rw [← hmore.out]; exact hW4.out⟩
      case measure => simp [intOf]; omega
    · have hie : i = n := by omega
      rw [List.take_of_length_le (by rw [hnl'.out]; omega)] at hW
      obtain ⟨g2, cap2, hv, hg2, hg2l⟩ := own_form hW.own (by rw [hnl'.out]; exact hn)
      rw [hnl'.out] at hv
      subst hv
      have hix := sep_index b K hK4 hbk'.out
      have hown := hW.own
      rw [hnl'.out, e1'.out] at hown
      have hJ := Lib.hid (lib_join s rs K g2 cap2 n wr W2.heap.size (by rw [← e1'.out]; exact hnl'.out) hn1 hsz hown hg2l)
      have hBw := Lib.hid hW.below
      clear hown hW
      go_wp2_with fail
      refine hJ.out.mono ?_
      rintro e w' ⟨rfl, y1, rfl⟩
      clear hix
      have hBx := hBw.out.trans ((below_plus wr y1).mono hBw.out.size)
      have hB13 := Lib.hid (hB12.out.trans (hBx.mono hB12.out.size))
      have hBx0 := Lib.hid (hB2.out.trans (hBx.mono hB2.out.size))
      clear hBw hBx hJ
      generalize Go.Proofs.YtiodfenkbhlpdaaDoor.plus wr y1 = W4 at hB13 hBx0 ⊢
      have q3 := eql_fv3 0 0 0
      go_wp2_with fail
      refine (hLA'.out W4 (hS'.out.below hBx0.out)).mono ?_
      rintro e W5 ⟨v2, rfl, own2, hB5⟩
      obtain ⟨V, hV⟩ : ∃ V, V = W5.alloc (.cells #[.int .i64 0, .int .i64 0, .int .i64 0] 28) := ⟨_, rfl⟩
      have hBV0 : Hid (Below w.heap.size w V) := by
        show Below _ _ _
        rw [hV]
        exact (hBx0.out.trans (hB5.mono hBx0.out.size)).alloc (Nat.le_trans hBx0.out.size hB5.size) _
      have hB15 : Below W1.heap.size W1 V := by
        rw [hV]
        exact (hB13.out.trans (hB5.mono hB13.out.size)).alloc (Nat.le_trans hB13.out.size hB5.size) _
      have ow1 := own_below hown1.out hB15 (Nat.le_refl _)
      have ow2 : V.ownsRow W4.heap.size 35 6 v2 (us ++ [endTok (body (sepAt K) rs)]).length ((us ++ [endTok (body (sepAt K) rs)]).flatMap tokL) := by rw [hV]; exact own2.alloc _
      have hSm := same_alike l (us ++ [endTok (body (sepAt K) rs)]) _ v2 _ _ V (by rw [e1'.out]; simp [hul'.out]) (by rw [hnl'.out]; exact hn) (by rw [hnl'.out]; omega) ow1 ow2 (by rw [e1'.out]; exact fun j t u => alike_end hul'.out hal j t u)
      rw [hnl'.out] at hSm
      have hSm' := Lib.hid hSm
      have hV' := Lib.hid hV
      clear own2 hB5 hB15 ow1 ow2 hSm hV
      go_wp2_with fail
      refine abs_calls3 (T := fun U => U = V) ?_ hV'.out.symm
      rintro _ rfl
      refine hSm'.out.mono ?_
      rintro e w' ⟨rfl, y2, rfl⟩
      clear hV' hSm'
      go_wp2_with fail
      refine (hK'.out.at _ (hS'.out.below hBV0.out) _).mono ?_
      rintro e w' ⟨rfl, y3, rfl⟩
      go_wp2
      go_ret
      exact ⟨rfl, plus_of_below (hBV0.out.trans ((below_plus _ y3).mono hBV0.out.size))⟩
theorem back_walk (s : ByteArray) (b : Int) (hb0 : 0 ≤ b) (hb1 : b ≤ 255) : PureS 3 #[.string s, .int .u8 b] (.bool true) := by
  by_cases h : 1500 < s.size
  · exact back_long s b h
  · by_cases h0 : (lexR s).2.2 = 0
    · exact back_ok s b hb0 hb1 h h0
    · exact back_fault s b h h0
end Go.Proofs.YtiodfenkbhlpdaaDoor
