/-
  WHAT IS PROVED HERE: a part of the proof of the claim's theorem: NetT; NetU.
-/
import Derived.Test.YtkffjjlmoojffaaGreatDoorRows
import Derived.Test.YtkffjjlmoojffaaGreatDoorB27
import Derived.Test.YtkffjjlmoojffaaGreatDoorB6
set_option linter.all false
namespace Go.Proofs.YtkffjjlmoojffaaGreatDoor
open Go.RowKit
section
variable {rb cb : Nat} {s : ByteArray} {g cap : Nat} {l : List Tok} {W5 w0 W W' : World} {sw po li lk : Value} {pvs : List Sl3} {n : Net'} {linked : List End'} {k : Nat}
theorem Rp.put {sw' po' li' lk' : Value} (h : Rp W rb cb sw po li lk) (i : Nat) (u : Value) (e : [.pointer (some ⟨cb, 0, none⟩), sw', po', li', lk'] = [.pointer (some ⟨cb, 0, none⟩), sw, po, li, lk].set i u) : Rp (W.setCell ⟨rb, i, none⟩ u) rb cb sw' po' li' lk' := by
  have old : ∀ j v, [.pointer (some ⟨cb, 0, none⟩), sw, po, li, lk][j]? = some v → W.cell? ⟨rb, j, none⟩ = some v := by
    intro j v hv
    match j, hv with
    | 0, hv => exact h.c0.trans hv
    | 1, hv => exact h.c1.trans hv
    | 2, hv => exact h.c2.trans hv
    | 3, hv => exact h.c3.trans hv
    | 4, hv => exact h.c4.trans hv
    | j + 5, hv => simp at hv
  have c : ∀ j v, [.pointer (some ⟨cb, 0, none⟩), sw', po', li', lk'][j]? = some v → (W.setCell ⟨rb, i, none⟩ u).cell? ⟨rb, j, none⟩ = some v := by
    intro j v hv
    rw [e, List.getElem?_set] at hv
    split at hv
    · rename_i hij
      subst hij
      split at hv
      · rename_i hi
        obtain rfl := Option.some.inj hv
        exact World.cell?_setCell_same _ _ _ (old i _ (List.getElem?_eq_getElem hi))
      · cases hv
    · rename_i hij
      rw [World.cell?_setCell_other _ _ _ _ (fun e => hij (congrArg Addr.off e))]
      exact old j v hv
  exact ⟨by simpa using h.lt, c 0 _ rfl, c 1 _ rfl, c 2 _ rfl, c 3 _ rfl, c 4 _ rfl, fun o => by rw [World.frozen?_setCell]; exact h.fz o⟩
theorem PI.row (h : PI rb cb s g cap l W5 sw po li lk pvs n linked k W) {r : Option Nat} (hg : W.grownBy W' r) (hr : ∀ k, r = some k → rb + 1 ≤ k) (hnn : ∀ z c fr, W.heap[z]? = some (.cells c 27 fr) → r ≠ some z) {sw' po' li' lk' : Value} {pvs' : List Sl3} {n' : Net'} {linked' : List End'}
    (hni : NI (rb + 1) W' sw' po' li' pvs' n') (hlk : Own W' (rb + 1) 41 2 endC lk' linked') (i : Nat) (u : Value) (e : [.pointer (some ⟨cb, 0, none⟩), sw', po', li', lk'] = [.pointer (some ⟨cb, 0, none⟩), sw, po, li, lk].set i u) : PI rb cb s g cap l W5 sw' po' li' lk' pvs' n' linked' k (W'.setCell ⟨rb, i, none⟩ u) := by
  have hcr := h.cr
  have hsz := h.cu.lt
  have hgb := h.gb
  have hB := h.below.grown hg (by omega) (fun k e => by have := hr k e; omega)
  have hC : Cu W' cb s g cap l k := h.cu.keep hg.size (hg.block cb h.cu.lt (fun e => by have := hr cb e.symm; omega)) (hg.block g (by omega) (fun e => by have := hr g e.symm; omega))
  have hR : Rp W' rb cb sw po li lk := h.rp.block hg.size (hg.block rb h.rp.lt (fun e => by have := hr rb e.symm; omega))
  exact ⟨hB.setCell (p := ⟨rb, i, none⟩) (by show cb ≤ rb; omega) _, h.size, h.gb, h.cr, hC.set (by omega) (by omega) _ _, hR.put i u e, hni.up (Nat.lt_succ_self rb) (grown_put _ _ _ _), hlk.kept (grown_put W' rb i u) (own_block hlk rb (Nat.lt_succ_self rb)), (h.kp.grown hg (fun z c fr _ hh => hnn z c fr hh)).set (.inl (Nat.le_refl rb)) _ _⟩
theorem PI.rpr (h : PI rb cb s g cap l W5 sw po li lk pvs n linked k W) {r : Option Nat} (hg : W.grownBy W' r) (hr : ∀ k, r = some k → rb + 1 ≤ k) : Rp W' rb cb sw po li lk :=
  h.rp.block hg.size (hg.block rb h.rp.lt (fun e => by have := hr rb e.symm; omega))
set_option maxRecDepth 100000 in
set_option maxHeartbeats 16000000 in
theorem tp_link (hl : TL l s.size) (hs : s.size ≤ 140737488355328) (h : PI rb cb s g cap l W5 sw po li lk pvs n linked k w0) (hk : k < l.length) (hb1 : n.names.length ≤ 1048576) (hb2 : n.ports.length ≤ 1048576) (hb3 : linked.length ≤ 1048574) (hb4 : n.links.length ≤ 1048576) :
    Calls Tryz.prog 44 #[.pointer (some ⟨rb, 0, none⟩)] w0 (PEnds rb cb s g cap l W5 (linkM l k n linked) (fun _ => .tuple #[]) Prod.fst Prod.snd (fun _ => True)) := by
  obtain ⟨RT, hRT⟩ : ∃ R, linkM l k n linked = R := ⟨_, rfl⟩
  rw [hRT]
  unfold linkM at hRT
  have hW := cu_want hl hs wLink w_ok.2.1 (h.cu.alloc (.cells #[.string ⟨#[108, 105, 110, 107]⟩] 9)) hk w0.heap.size (cell_new w0 #[.string ⟨#[108, 105, 110, 107]⟩] 9 w0.heap.size 0 rfl)
  obtain ⟨RW, hRW⟩ : ∃ R, wantM l k wLink = R := ⟨_, rfl⟩
  rw [hRW] at hRT hW
  have r0 := h.rp.c0
  have hH := Lib.hid (h.alloc (.cells #[.string ⟨#[108, 105, 110, 107]⟩] 9))
  have hl' := Lib.hid hl
  have hs' := Lib.hid hs
  have hbs : Hid (n.names.length ≤ 1048576 ∧ n.ports.length ≤ 1048576 ∧ linked.length ≤ 1048574 ∧ n.links.length ≤ 1048576) := Lib.hid ⟨hb1, hb2, hb3, hb4⟩
  replace hRT := Lib.hid hRT
  replace hW := Lib.hid hW
  clear hl hs h hk hb1 hb2 hb3 hb4 hRW
  go_enter Tryz.func44, Tryz.ntmps44
  go_wp2_with fail
  refine hW.out.mono ?_
  rintro e V1 ⟨hE, hlt⟩
  cases RW with
  | bad q E =>
    obtain ⟨rfl, hg9⟩ := hE
    obtain rfl : RT = .bad q E := hRT.out.symm
    have hB := Lib.hid (hH.out.below.grown hg9 (by have := hH.out.cu.lt; omega) (fun k e => by have := Option.some.inj e; omega))
    clear hg9 hlt r0
    go_wp2
    exact ⟨rfl, rfl, hB.out⟩
  | ok u1 k1 =>
    obtain ⟨rfl, hg9, hX1⟩ := hE
    have hk1 := hlt _ _ rfl
    have hP1 := hH.out.step hg9 hX1
    have hRT1 := hRT.out
    rw [Rs.bind_ok rfl] at hRT1
    have hF := tp_freeEnd hl'.out hs'.out hP1 hk1 hbs.out.1 hbs.out.2.1 (by have := hbs.out.2.2.1; omega)
    obtain ⟨RA, hRA⟩ : ∃ R, endM l k1 n linked = R := ⟨_, rfl⟩
    rw [hRA] at hRT1 hF
    have hAl : Hid (∀ a k2, RA = .ok a k2 → k2 < l.length) := Lib.hid (fun a k2 e => endM_lt hl'.out hk1 (hRA.trans e))
    replace hRT1 := Lib.hid hRT1
    replace hF := Lib.hid hF
    clear hg9 hlt hX1 hk1 hP1 hRA r0 hRT hW hH
    go_wp2_with fail
    refine hF.out.mono ?_
    intro e V2 hE
    clear hF
    cases RA with
    | bad q E =>
      obtain ⟨rfl, hB0⟩ := hE
      obtain rfl : RT = .bad q E := hRT1.out.symm
      have hB := Lib.hid hB0
      clear hB0
      go_wp2
      exact ⟨rfl, rfl, hB.out⟩
    | ok a k2 =>
      obtain ⟨rfl, ⟨sw2, po2, li2, lk2, pvs2, hP2⟩, -⟩ := hE
      have hk2 := hAl.out _ _ rfl
      have hRT2 := hRT1.out
      rw [Rs.bind_ok rfl] at hRT2
      unfold endV
      have hP2a := hP2.alloc (.cells #[.int .i64 a.sw, .int .i64 a.po] 41)
      have hza := (Kn.nil cb V2).new hP2.cu.lt [.int .i64 a.sw, .int .i64 a.po] 41
      change Kn cb _ (V2.alloc (.cells #[.int .i64 a.sw, .int .i64 a.po] 41)) at hza
      have hne : Hid (V2.heap.size ≠ cb ∧ V2.heap.size ≠ rb ∧ lk2.ownBlock ≠ some V2.heap.size) := Lib.hid ⟨by have := hP2.cu.lt; omega, by have := hP2.rp.lt; omega, fun e => by have := (hP2.lk.lt _ e).2; omega⟩
      have hF := tp_freeEnd hl'.out hs'.out hP2a hk2 hbs.out.1 hbs.out.2.1 (by have := hbs.out.2.2.1; simp; omega)
      obtain ⟨RB, hRB⟩ : ∃ R, endM l k2 n (linked ++ [a]) = R := ⟨_, rfl⟩
      rw [hRB] at hRT2 hF
      have hBl : Hid (∀ a k2, RB = .ok a k2 → k2 < l.length) := Lib.hid (fun a k3 e => endM_lt hl'.out hk2 (hRB.trans e))
      replace hRT2 := Lib.hid hRT2
      go_upto_region 2 with (fail)
      obtain ⟨V2a, hV2a⟩ : ∃ W, V2.alloc (.cells #[.int .i64 a.sw, .int .i64 a.po] 41) = W := ⟨_, rfl⟩
      rw [hV2a] at hza hF ⊢
      generalize V2.heap.size = za at hza hne ⊢
      replace hF := Lib.hid hF
      replace hza := Lib.hid hza
      clear hV2a hP2a hP2 hk2 hRB hRT1 hAl
      go_wp2_with fail
      refine hF.out.mono ?_
      intro e V3 hE
      clear hF
      cases RB with
      | bad q E =>
        obtain ⟨rfl, hB0⟩ := hE
        obtain rfl : RT = .bad q E := hRT2.out.symm
        have hB := Lib.hid hB0
        clear hB0
        go_wp2
        exact ⟨rfl, rfl, hB.out⟩
      | ok b k3 =>
        obtain ⟨rfl, ⟨sw3, po3, li3, lk3, pvs3, hP3⟩, hSt⟩ := hE
        have hk3 := hBl.out _ _ rfl
        have hRT3 := hRT2.out
        rw [Rs.bind_ok rfl] at hRT3
        unfold endV
        have hza3 := hza.out.still hSt (fun z cs hz => by obtain ⟨rfl, -⟩ := Prod.mk.inj (List.mem_singleton.1 hz); exact hne.out)
        have hzb := hza3.new hP3.cu.lt [.int .i64 b.sw, .int .i64 b.po] 41
        change Kn cb _ (V3.alloc (.cells #[.int .i64 b.sw, .int .i64 b.po] 41)) at hzb
        have hPb := hP3.alloc (.cells #[.int .i64 b.sw, .int .i64 b.po] 41)
        replace hRT3 := Lib.hid hRT3
        go_upto_region 3 with (fail)
        obtain ⟨Vb, hVb⟩ : ∃ W, V3.alloc (.cells #[.int .i64 b.sw, .int .i64 b.po] 41) = W := ⟨_, rfl⟩
        rw [hVb] at hzb hPb ⊢
        generalize V3.heap.size = zb at hzb ⊢
        have hW := cu_want hl'.out hs'.out wSemi w_ok.2.2.2.2.1 (hPb.cu.alloc (.cells #[.string ⟨#[59]⟩] 9)) hk3 Vb.heap.size (cell_new Vb #[.string ⟨#[59]⟩] 9 Vb.heap.size 0 rfl)
        obtain ⟨RS, hRS⟩ : ∃ R, wantM l k3 wSemi = R := ⟨_, rfl⟩
        have hRT4 := hRT3.out
        rw [hRS] at hRT4 hW
        replace hRT4 := Lib.hid hRT4
        have r0 := hPb.rp.c0
        have hH := Lib.hid (hPb.alloc (.cells #[.string ⟨#[59]⟩] 9))
        have hzc := Lib.hid (hzb.grown (grown_alloc Vb (.cells #[.string ⟨#[59]⟩] 9) (some cb)))
        replace hW := Lib.hid hW
        clear hVb hP3 hSt hk3 hza3 hzb hPb hza hRT2 hRT3 hBl hRS
        go_wp2_with fail
        refine hW.out.mono ?_
        rintro e V4 ⟨hE, -⟩
        clear hW
        cases RS with
        | bad q E =>
          obtain ⟨rfl, hg9⟩ := hE
          obtain rfl : RT = .bad q E := hRT4.out.symm
          have hB := Lib.hid (hH.out.below.grown hg9 (by have := hH.out.cu.lt; omega) (fun k e => by have := Option.some.inj e; omega))
          clear hg9 r0
          go_wp2
          exact ⟨rfl, rfl, hB.out⟩
        | ok u4 k4 =>
          obtain ⟨rfl, hg9, hX4⟩ := hE
          have hP4 := hH.out.step hg9 hX4
          have hz4 := hzc.out.grown hg9
          obtain rfl : RT = .ok (⟨n.names, n.ports, n.links ++ [(a, b)]⟩, linked ++ [a, b]) k4 := hRT4.out.symm
          clear hg9 hX4 hH hzc r0 hRT4
          obtain ⟨p3, c3, rfl⟩ := own_sl3 hP4.ni.li
          obtain ⟨n3, hn3⟩ : ∃ m, n.links.length = m := ⟨_, rfl⟩
          rw [hn3] at hP4
          replace hn3 := Lib.hid hn3
          go_upto_region 4 with (fail)
          have r3 := fun o => (hP4.alloc o).rp.c3
          have r3' := hP4.rp.c3
          have a0 := fun o => (hz4.grown (grown_alloc V4 o (some cb))).cell za _ (.tail _ (.head _)) 0 _ rfl
          have a1 := fun o => (hz4.grown (grown_alloc V4 o (some cb))).cell za _ (.tail _ (.head _)) 1 _ rfl
          have b0 := fun o => (hz4.grown (grown_alloc V4 o (some cb))).cell zb _ (.head _) 0 _ rfl
          have b1 := fun o => (hz4.grown (grown_alloc V4 o (some cb))).cell zb _ (.head _) 1 _ rfl
          have a0' := hz4.cell za _ (.tail _ (.head _)) 0 _ rfl
          have a1' := hz4.cell za _ (.tail _ (.head _)) 1 _ rfl
          have b0' := hz4.cell zb _ (.head _) 0 _ rfl
          have b1' := hz4.cell zb _ (.head _) 1 _ rfl
          have hRA : Hid (∀ o, PI rb cb s g cap l W5 sw3 po3 (.slice p3 n3 c3) lk3 pvs3 n (linked ++ [a] ++ [b]) k4 (V4.alloc o).drew) := Lib.hid (fun o => (hP4.alloc o).drew)
          have hown : Hid (∀ o, (V4.alloc o).drew.ownsRow (rb + 1) 68 4 (.slice p3 n3 c3) n3 ((n.links.map linkC).flatten)) := Lib.hid (fun o => by have := (hRA.out o).ni.li; unfold Own at this; rwa [hn3.out] at this)
          have hszE : Hid (rb + 1 ≤ V4.heap.size) := Lib.hid hP4.rp.lt
          have hv : Hid (∀ k, (Value.slice p3 n3 c3).ownBlock = some k → rb + 1 ≤ k) := Lib.hid (fun k e => (hP4.ni.li.lt k e).1)
          clear hP4 hz4
          go_region_law (go_loud (refine rowStep2 linkC 68 25 4 32 (.agg #[.int .i64 0, .int .i64 0, .int .i64 0, .int .i64 0]) Tryz.underlying25 link_info rfl (by decide) (by decide) linkC_len linkC_one p3 n3 c3 hn3.out (hown.out (.cells #[.int .i64 a.sw, .int .i64 a.po, .int .i64 b.sw, .int .i64 b.po] 68)) (by have := hszE.out; simp; omega) hbs.out.2.2.2 (a, b) V4.heap.size (fun j u hu => (cell_new V4 _ _ _ j rfl).trans (by simpa [linkC] using hu)) rfl (.tmp 25) (.tmp 29) rfl (by simp [Act.eval]) (by simp [Act.eval]) ?_; intro g9 c9 w9 h2 h3 h4; have hR9 := (hRA.out (.cells #[.int .i64 a.sw, .int .i64 a.po, .int .i64 b.sw, .int .i64 b.po] 68)).rpr h3 hv.out; have f2 := hR9.c3; have f3 := hR9.fz; have h2' := Lib.hid h2; have h3' := Lib.hid h3; clear h2 h3 h4 hR9))
          all_goals
            have hI := (hRA.out (.cells #[.int .i64 a.sw, .int .i64 a.po, .int .i64 b.sw, .int .i64 b.po] 68)).row h3'.out hv.out (fun _ _ _ hh => own_nonet (hRA.out (.cells #[.int .i64 a.sw, .int .i64 a.po, .int .i64 b.sw, .int .i64 b.po] 68)).ni.li (by decide) hh) ((hRA.out (.cells #[.int .i64 a.sw, .int .i64 a.po, .int .i64 b.sw, .int .i64 b.po] 68)).ni.link h3'.out h2'.out) (own_other (hRA.out (.cells #[.int .i64 a.sw, .int .i64 a.po, .int .i64 b.sw, .int .i64 b.po] 68)).lk h3'.out (own_type (hRA.out (.cells #[.int .i64 a.sw, .int .i64 a.po, .int .i64 b.sw, .int .i64 b.po] 68)).lk (hRA.out (.cells #[.int .i64 a.sw, .int .i64 a.po, .int .i64 b.sw, .int .i64 b.po] 68)).ni.li (by decide))) 3 (.slice (some ⟨g9, 0, none⟩) (n3 + 1) c9) rfl
            rw [List.append_assoc] at hI
            replace hI := Lib.hid hI
            clear f2 f3 h2' h3' r3 r3' a0 a1 b0 b1 a0' a1' b0' b1' hRA hown hszE
            go_wp2
            refine bodyPost_ret (v := .tuple #[]) ?_ rfl ⟨rfl, ⟨_, _, _, _, _, hI.out⟩, trivial⟩
            simp [results, Tryz.results44, go_sem]
end
end Go.Proofs.YtkffjjlmoojffaaGreatDoor
namespace Go.Proofs.YtkffjjlmoojffaaGreatDoor
open Go.RowKit
theorem flat_int (zs : List Int) : (zs.map intC).flatten = zs.map (Value.int .i64) := by
  induction zs with
  | nil => rfl
  | cons x xs ih => rw [List.map_cons, List.flatten_cons, ih]; rfl
theorem tp_sort {w : World} {base : Nat} (v : Value) (zs : List Int) (h : Own w base 3 1 intC v zs) (hb : zs.length ≤ 1048576) :
    Calls Tryz.prog 68 #[v] w fun e w' => e = .returned (.tuple #[]) ∧ w.grownBy w' v.ownBlock ∧ Own w' base 3 1 intC v (sortF zs) := by
  obtain ⟨hl, h2⟩ := h
  rcases h2 with ⟨rfl, hn⟩ | ⟨g, cap, cur, rfl, hbg, hh, hnc, hcm, hcs, htk⟩
  · obtain rfl : zs = [] := List.length_eq_zero_iff.1 hn
    refine (Tryz.slices_Sort_int_none none 0 w).mono ?_
    rintro e w' ⟨rfl, rfl⟩
    exact ⟨rfl, grown_refl _ _, by rw [show sortF [] = [] by simp [sortF]]; exact World.ownsRow_nil _ _ _ _⟩
  · rw [flat_int] at htk hl
    rw [Nat.mul_one] at htk hl hcs
    have hgl : g < w.heap.size := by
      have := (Array.getElem?_eq_some_iff.1 hh).1
      exact this
    have hcur : ∀ (j : Nat), j < zs.length → cur[j]? = some (.int .i64 (zs.toArray[j]!)) := fun j hj => by
      have h1 : (cur.toList.take zs.length)[j]? = (zs.map (Value.int .i64))[j]? := by rw [htk]
      rw [List.getElem?_take, if_pos hj, List.getElem?_map, List.getElem?_eq_getElem hj] at h1
      simpa [hj] using h1
    have hH : Go.Sort.Holds (Value.int .i64) w g 0 zs.toArray := fun j hj => by
      have hj' : j < zs.length := by simpa using hj
      rw [Nat.zero_add]
      refine ⟨?_, ?_⟩
      · rw [cell_of_row w g j cur _ _ hh]; exact hcur j hj'
      · exact frozen_of_row w g j cur _ hh
    refine (Tryz.slices_Sort_int g 0 cap zs w hH hgl (by omega)).mono ?_
    rintro e w' ⟨rfl, m, os, rfl⟩
    have hlen : (sortF zs).length = zs.length := List.length_mergeSort _
    have hk : ∀ k, k < w.heap.size → (Go.Sort.grow (Go.Sort.putRow (Value.int .i64) (Go.Sort.ahead w m) g 0 (sortF zs).toArray) os).heap[k]? = if g = k then (w.heap[k]?).map (Go.Sort.onCells (Go.Sort.putCells (Value.int .i64) 0 (sortF zs).toArray)) else w.heap[k]? := fun k hk => by
      show ((w.heap.modify g _) ++ os)[k]? = _
      rw [Array.getElem?_append_left (by simpa using hk), Array.getElem?_modify]
    change _ ∧ w.grownBy (Go.Sort.grow (Go.Sort.putRow (Value.int .i64) (Go.Sort.ahead w m) g 0 (sortF zs).toArray) os) _ ∧ Own (Go.Sort.grow (Go.Sort.putRow (Value.int .i64) (Go.Sort.ahead w m) g 0 (sortF zs).toArray) os) _ _ _ _ _ _
    refine ⟨rfl, ⟨rfl, rfl, rfl, ?_, fun k hk1 hk2 => ?_⟩, ?_, .inr ⟨g, cap, Go.Sort.putCells (Value.int .i64) 0 (sortF zs).toArray cur, by rw [hlen], hbg, ?_, by rw [hlen]; exact hnc, hcm, ?_, ?_⟩⟩
    · show w.heap.size ≤ ((w.heap.modify g _) ++ os).size
      simp
    · rw [hk k hk1, if_neg (fun e => hk2 (by rw [e]; rfl))]
    · rw [flat_int, List.length_map, Nat.mul_one]
    · rw [hk g hgl, if_pos rfl, hh]; rfl
    · simp [Go.Sort.putCells, hcs]
    · rw [flat_int, Nat.mul_one, hlen]
      apply List.ext_getElem?
      intro j
      rw [List.getElem?_take, List.getElem?_map]
      by_cases hj : j < zs.length
      · rw [if_pos hj]
        have hj2 : j < cur.size := by omega
        have hj3 : j < (sortF zs).length := by omega
        simp [Go.Sort.putCells, hj2, hj3]
      · rw [if_neg hj, List.getElem?_eq_none (by omega)]
        rfl
end Go.Proofs.YtkffjjlmoojffaaGreatDoor
