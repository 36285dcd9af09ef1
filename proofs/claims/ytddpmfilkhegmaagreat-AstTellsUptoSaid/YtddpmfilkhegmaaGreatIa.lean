/-
  WHAT IS PROVED HERE: plain facts of trees: what is the same is the same as itself, both ways, may be or not alike, and has as many items; what may be is no deeper than its room. Nothing of any program's walk.
-/
import Derived.Test.YtddpmfilkhegmaaGreatRows
import Derived.Test.YtddpmfilkhegmaaGreatHL
import Derived.Test.YtddpmfilkhegmaaGreatHo
import Derived.Test.YtddpmfilkhegmaaGreatHP
namespace Go.Proofs.YtddpmfilkhegmaaGreat
open Go.RowKit
section
variable {α : Type} {f : α → α → Bool}
theorem eqAll_refl : ∀ l : List α, (∀ x ∈ l, f x x = true) → eqAll f l l = true
  | [], _ => by rw [eqAll]
  | x :: l, h => by rw [eqAll, h x List.mem_cons_self, eqAll_refl l (fun y hy => h y (List.mem_cons_of_mem _ hy))]; rfl
theorem eqAll_symm : ∀ l r : List α, (∀ x ∈ l, ∀ y, f x y = f y x) → eqAll f l r = eqAll f r l
  | [], [], _ => rfl
  | [], _ :: _, _ => by rw [eqAll, eqAll]
  | _ :: _, [], _ => by rw [eqAll, eqAll]
  | x :: l, y :: r, h => by rw [eqAll, eqAll, h x List.mem_cons_self y, eqAll_symm l r (fun z hz => h z (List.mem_cons_of_mem _ hz))]
theorem eqAll_len {l r : List α} (h : eqAll f l r = true) : l.length = r.length := by
  by_cases hl : l.length = r.length
  · exact hl
  · rw [eqAll_length f l r hl] at h; cases h
theorem eqAll_all {m : α → Bool} : ∀ l r : List α, (∀ x ∈ l, ∀ y, f x y = true → m x = m y) → eqAll f l r = true → l.all m = r.all m
  | [], [], _, _ => rfl
  | [], _ :: _, _, h => by rw [eqAll] at h; cases h
  | _ :: _, [], _, h => by rw [eqAll] at h; cases h
  | x :: l, y :: r, hm, h => by
    rw [eqAll, Bool.and_eq_true] at h
    rw [List.all_cons, List.all_cons, hm x List.mem_cons_self y h.1, eqAll_all l r (fun z hz => hm z (List.mem_cons_of_mem _ hz)) h.2]
theorem eqAll_each {m : α → Bool} {l r : List α} (lo hi : Int) (hm : ∀ x ∈ l, ∀ y, f x y = true → m x = m y) (h : eqAll f l r = true) : eachB lo hi m l = eachB lo hi m r := by
  unfold eachB
  rw [eqAll_len h, eqAll_all l r hm h]
theorem eqAll_sum {g : α → Nat} : ∀ l r : List α, (∀ x ∈ l, ∀ y, f x y = true → g x = g y) → eqAll f l r = true → (l.map g).sum = (r.map g).sum
  | [], [], _, _ => rfl
  | [], _ :: _, _, h => by rw [eqAll] at h; cases h
  | _ :: _, [], _, h => by rw [eqAll] at h; cases h
  | x :: l, y :: r, hm, h => by
    rw [eqAll, Bool.and_eq_true] at h
    simp only [List.map_cons, List.sum_cons]
    rw [hm x List.mem_cons_self y h.1, eqAll_sum l r (fun z hz => hm z (List.mem_cons_of_mem _ hz)) h.2]
end
theorem beqC {α : Type} [BEq α] [LawfulBEq α] (a b : α) : (a == b) = (b == a) := by
  rw [Bool.eq_iff_iff, beq_iff_eq, beq_iff_eq]; exact ⟨Eq.symm, Eq.symm⟩
theorem eqStr_refl (a : ByteArray) : eqStr a a = true := by simp [eqStr]
theorem eqStr_symm (a b : ByteArray) : eqStr a b = eqStr b a := beqC _ _
theorem eqStr_eq {a b : ByteArray} (h : eqStr a b = true) : a = b := by
  unfold eqStr at h
  rw [str_beq, decide_eq_true_eq] at h
  exact h
theorem eqFd_refl (a : Fd) : eqFd a a = true := by simp [eqFd]
theorem eqFd_symm (a b : Fd) : eqFd a b = eqFd b a := by unfold eqFd; rw [beqC a.name.toList, beqC a.w]
theorem eqFd_eq {a b : Fd} (h : eqFd a b = true) : a = b := by
  unfold eqFd at h
  rw [Bool.and_eq_true] at h
  obtain ⟨an, aw⟩ := a
  obtain ⟨bn, bw⟩ := b
  have h1 : an = bn := eqStr_eq h.1
  have h2 : aw = bw := by simpa using h.2
  rw [h1, h2]
theorem eqLt_refl (a : Lt) : eqLt a a = true := by simp [eqLt]
theorem eqLt_symm (a b : Lt) : eqLt a b = eqLt b a := by unfold eqLt; rw [beqC a.w, beqC a.h, beqC a.l]
theorem eqLt_eq {a b : Lt} (h : eqLt a b = true) : a = b := by
  unfold eqLt at h
  simp only [Bool.and_eq_true, beq_iff_eq] at h
  obtain ⟨aw, ah, al⟩ := a
  obtain ⟨bw, bh, bl⟩ := b
  obtain ⟨h1, h2, h3⟩ := h
  simp only at h1 h2 h3
  rw [h1, h2, h3]
theorem eqSe_refl (a : Se) : eqSe a a = true := by simp [eqSe, eqLt_refl]
theorem eqSe_symm (a b : Se) : eqSe a b = eqSe b a := by unfold eqSe; rw [beqC a.kind, eqLt_symm a.v, eqLt_symm a.m]
theorem eqSe_eq {a b : Se} (h : eqSe a b = true) : a = b := by
  unfold eqSe at h
  simp only [Bool.and_eq_true, beq_iff_eq] at h
  obtain ⟨⟨h1, h2⟩, h3⟩ := h
  obtain ⟨ak, av, am⟩ := a
  obtain ⟨bk, bv, bm⟩ := b
  have h2 := eqLt_eq h2
  have h3 := eqLt_eq h3
  simp only at h1 h2 h3
  rw [h1, h2, h3]
theorem Ex.same_refl : ∀ e : Ex, e.same e = true := fun e => Ex.ind (Q := fun e => e.same e = true) (fun e ih => by
  rw [Ex.same_eq, Ex.sames_eq, eqAll_refl _ ih]
  simp [Ex.top]) e
theorem Ex.top_symm (a b : Ex) : Ex.top a b = Ex.top b a := by
  unfold Ex.top
  rw [beqC a.op, beqC a.lit.w, beqC a.lit.h, beqC a.lit.l, beqC a.head.toList, beqC a.name.toList, beqC a.hi, beqC a.lo]
theorem Ex.same_symm : ∀ a b : Ex, a.same b = b.same a := fun a => Ex.ind (Q := fun a => ∀ b, a.same b = b.same a) (fun a ih b => by
  rw [Ex.same_eq, Ex.same_eq, Ex.sames_eq, Ex.sames_eq, Ex.top_symm, eqAll_symm _ _ ih]) a
theorem St.same_refl : ∀ s : St, s.same s = true := fun s => St.ind (Q := fun s => s.same s = true) (fun s h1 h2 => by
  rw [St.same_eq, St.sames_eq, St.sames_eq, eqAll_refl _ h1, eqAll_refl _ h2, Ex.same_refl]
  simp) s
theorem St.same_symm : ∀ a b : St, a.same b = b.same a := fun a => St.ind (Q := fun a => ∀ b, a.same b = b.same a) (fun a h1 h2 b => by
  rw [St.same_eq, St.same_eq, St.sames_eq, St.sames_eq, St.sames_eq, St.sames_eq, eqAll_symm _ _ h1, eqAll_symm _ _ h2, Ex.same_symm, beqC a.kind, beqC a.head.toList, beqC a.name.toList]) a
theorem eqPr_refl (p : Pr) : eqPr p p = true := by
  unfold eqPr
  rw [eqAll_refl _ (fun x _ => show eqHr x x = true by unfold eqHr; rw [eqStr_refl, eqAll_refl _ (fun y _ => eqFd_refl y)]; rfl),
    eqAll_refl _ (fun y _ => eqFd_refl y),
    eqAll_refl _ (fun x _ => show eqSa x x = true by
      unfold eqSa
      rw [eqStr_refl, eqStr_refl, eqAll_refl _ (fun y _ => eqStr_refl y), eqAll_refl _ (fun y _ => Ex.same_refl y), eqAll_refl _ (fun y _ => show eqCa y y = true by unfold eqCa; rw [eqStr_refl, eqAll_refl _ (fun z _ => eqSe_refl z)]; simp)]
      rfl),
    eqAll_refl _ (fun x _ => show eqAc x x = true by unfold eqAc; rw [eqStr_refl, St.sames_eq, eqAll_refl _ (fun y _ => eqFd_refl y), eqAll_refl _ (fun y _ => St.same_refl y)]; rfl),
    eqAll_refl _ (fun x _ => show eqTa x x = true by
      unfold eqTa
      rw [eqStr_refl, eqStr_refl, eqAll_refl _ (fun y _ => eqStr_refl y), eqAll_refl _ (fun y _ => eqLt_refl y), eqAll_refl _ (fun y _ => show eqKe y y = true by unfold eqKe; rw [Ex.same_refl]; simp)]
      rfl),
    St.sames_eq, eqAll_refl _ (fun y _ => St.same_refl y), eqAll_refl _ (fun y _ => eqStr_refl y)]
  rfl
theorem eqPr_symm (p q : Pr) : eqPr p q = eqPr q p := by
  unfold eqPr
  rw [eqAll_symm p.headers.l _ (fun x _ y => show eqHr x y = eqHr y x by unfold eqHr; rw [eqStr_symm, eqAll_symm _ _ (fun a _ b => eqFd_symm a b)]),
    eqAll_symm p.metas.l _ (fun a _ b => eqFd_symm a b),
    eqAll_symm p.states.l _ (fun x _ y => show eqSa x y = eqSa y x by
      unfold eqSa
      rw [eqStr_symm x.name, eqStr_symm x.to, eqAll_symm x.takes.l _ (fun a _ b => eqStr_symm a b), eqAll_symm x.keys.l _ (fun a _ b => Ex.same_symm a b), eqAll_symm x.cases.l _ (fun a _ b => show eqCa a b = eqCa b a by unfold eqCa; rw [beqC a.dflt, eqStr_symm, eqAll_symm _ _ (fun c _ d => eqSe_symm c d)])]),
    eqAll_symm p.actions.l _ (fun x _ y => show eqAc x y = eqAc y x by unfold eqAc; rw [eqStr_symm, St.sames_eq, St.sames_eq, eqAll_symm x.params.l _ (fun a _ b => eqFd_symm a b), eqAll_symm x.body.l _ (fun a _ b => St.same_symm a b)]),
    eqAll_symm p.tables.l _ (fun x _ y => show eqTa x y = eqTa y x by
      unfold eqTa
      rw [eqStr_symm x.name, eqStr_symm x.dflt.name, eqAll_symm x.actions.l _ (fun a _ b => eqStr_symm a b), eqAll_symm x.dflt.args.l _ (fun a _ b => eqLt_symm a b), eqAll_symm x.keys.l _ (fun a _ b => show eqKe a b = eqKe b a by unfold eqKe; rw [beqC a.kind, Ex.same_symm])]),
    St.sames_eq, St.sames_eq, eqAll_symm p.control.l _ (fun a _ b => St.same_symm a b), eqAll_symm p.emit.l _ (fun a _ b => eqStr_symm a b)]
theorem Ex.dp_pos (e : Ex) : 1 ≤ e.dp := by rw [Ex.dp_dm]; omega
theorem Ex.dm_le (n : Nat) : ∀ (l : List Ex) (m : Nat), m ≤ n → (∀ x ∈ l, x.dp ≤ n) → Ex.dm m l ≤ n
  | [], m, h, _ => by rw [Ex.dm]; exact h
  | x :: l, m, h, hx => by
    rw [Ex.dm]
    have := hx x List.mem_cons_self
    exact Ex.dm_le n l _ (by omega) (fun y hy => hx y (List.mem_cons_of_mem _ hy))
theorem Ex.may_dp : ∀ (n : Nat) (e : Ex), Ex.may n e = true → e.dp ≤ n
  | 0, e, h => by rw [Ex.may] at h; cases h
  | n + 1, e, h => by
    rw [Ex.may] at h
    simp only [Bool.and_eq_true, eachB, List.all_eq_true] at h
    have := Ex.dm_le n e.args 0 (Nat.zero_le _) (fun x hx => Ex.may_dp n x (h.2.2.2 x hx))
    rw [Ex.dp_dm]
    omega
theorem Ex.top_eq {a b : Ex} (h : Ex.top a b = true) : a.op = b.op ∧ a.lit = b.lit ∧ a.head = b.head ∧ a.name = b.name ∧ a.hi = b.hi ∧ a.lo = b.lo := by
  unfold Ex.top at h
  simp only [Bool.and_eq_true, beq_iff_eq] at h
  obtain ⟨⟨⟨⟨⟨h1, h2, h3, h4⟩, h5⟩, h6⟩, h7⟩, h8⟩ := h
  refine ⟨h1, ?_, eqStr_eq (by unfold eqStr; rw [h5]; simp), eqStr_eq (by unfold eqStr; rw [h6]; simp), h7, h8⟩
  have : eqLt a.lit b.lit = true := by unfold eqLt; rw [h2, h3, h4]; simp
  exact eqLt_eq this
theorem amtB_same {a b : Ex} (h : a.same b = true) : amtB a = amtB b := by
  rw [Ex.same_eq, Bool.and_eq_true] at h
  obtain ⟨h1, h2, _⟩ := Ex.top_eq h.1
  unfold amtB
  rw [h1, h2]
theorem amt2_same : ∀ l r : List Ex, eqAll Ex.same l r = true → amt2 l = amt2 r
  | [], [], _ => rfl
  | [], _ :: _, h => by rw [eqAll] at h; cases h
  | _ :: _, [], h => by rw [eqAll] at h; cases h
  | [_], [_], _ => rfl
  | [_], _ :: _ :: _, h => by rw [eqAll, eqAll] at h; simp at h
  | _ :: _ :: _, [_], h => by rw [eqAll, eqAll] at h; simp at h
  | [_, x], [_, y], h => by
    rw [eqAll, eqAll, Bool.and_eq_true, Bool.and_eq_true] at h
    exact amtB_same h.2.1
  | [_, _], _ :: _ :: _ :: _, h => by rw [eqAll, eqAll, eqAll] at h; simp at h
  | _ :: _ :: _ :: _, [_, _], h => by rw [eqAll, eqAll, eqAll] at h; simp at h
  | _ :: _ :: _ :: _, _ :: _ :: _ :: _, _ => rfl
theorem fits_same {a b : Ex} (h : a.same b = true) : a.fits = b.fits := by
  rw [Ex.same_eq, Ex.sames_eq, Bool.and_eq_true] at h
  obtain ⟨h1, h2, h3, h4, h5, h6⟩ := Ex.top_eq h.1
  unfold Ex.fits
  rw [h1, h2, h3, h4, h5, h6, eqAll_len h.2, amt2_same _ _ h.2]
theorem Ex.may_same : ∀ (n : Nat) (a b : Ex), a.same b = true → Ex.may n a = Ex.may n b
  | 0, _, _, _ => rfl
  | n + 1, a, b, h => by
    have hf := fits_same h
    rw [Ex.same_eq, Ex.sames_eq, Bool.and_eq_true] at h
    rw [Ex.may, Ex.may, hf, (Ex.top_eq h.1).1, eqAll_each _ _ (fun x _ y hxy => Ex.may_same n x y hxy) h.2]
theorem Ex.same_trans_zero {a b : Ex} (h : a.same b = true) : ∀ c, a.same c = b.same c := by
  revert b
  refine Ex.ind (Q := fun a => ∀ {b : Ex}, a.same b = true → ∀ c, a.same c = b.same c) (fun a ih b h c => ?_) a
  rw [Ex.same_eq, Ex.sames_eq, Bool.and_eq_true] at h
  obtain ⟨h1, h2, h3, h4, h5, h6⟩ := Ex.top_eq h.1
  rw [Ex.same_eq, Ex.same_eq, Ex.sames_eq, Ex.sames_eq]
  have ht : Ex.top a c = Ex.top b c := by unfold Ex.top; rw [h1, h2, h3, h4, h5, h6]
  have key : ∀ (l r s : List Ex), (∀ x ∈ l, ∀ {y : Ex}, x.same y = true → ∀ c, x.same c = y.same c) → eqAll Ex.same l r = true → eqAll Ex.same l s = eqAll Ex.same r s := by
    intro l
    induction l with
    | nil =>
      intro r s _ h
      cases r with
      | nil => rfl
      | cons _ _ => rw [eqAll] at h; cases h
    | cons x l ihl =>
      intro r s hx h
      cases r with
      | nil => rw [eqAll] at h; cases h
      | cons y r =>
        rw [eqAll, Bool.and_eq_true] at h
        cases s with
        | nil => rw [eqAll, eqAll]
        | cons z s => rw [eqAll, eqAll, hx x List.mem_cons_self h.1 z, ihl r s (fun w hw => hx w (List.mem_cons_of_mem _ hw)) h.2]
  rw [ht, key _ _ _ ih h.2]
theorem St.one_same {a b : St} (h : a.same b = true) : a.one = b.one := by
  rw [St.same_eq, St.sames_eq, St.sames_eq] at h
  simp only [Bool.and_eq_true, beq_iff_eq] at h
  obtain ⟨h1, h2, h3, h4, h5, h6⟩ := h
  have h2 : a.head = b.head := eqStr_eq (by unfold eqStr; rw [h2]; simp)
  have h3 : a.name = b.name := eqStr_eq (by unfold eqStr; rw [h3]; simp)
  unfold St.one St.fits
  rw [h1, h2, h3, eqAll_len h5, eqAll_len h6, Ex.may_same 16 _ _ h4, Ex.same_trans_zero h4]
theorem St.mayB_same : ∀ (n : Nat) (l r : List St), eqAll St.same l r = true → St.mayB n l = St.mayB n r
  | 0, l, r, h => by rw [St.mayB, St.mayB, eqAll_len h]
  | n + 1, l, r, h => by
    rw [St.mayB, St.mayB]
    refine eqAll_each _ _ (fun x _ y hxy => ?_) h
    have h1 := St.one_same hxy
    rw [St.same_eq, St.sames_eq, St.sames_eq] at hxy
    simp only [Bool.and_eq_true] at hxy
    rw [h1, St.mayB_same n _ _ hxy.2.2.2.2.1, St.mayB_same n _ _ hxy.2.2.2.2.2]
theorem St.its_same : ∀ a b : St, a.same b = true → St.its a.thn = St.its b.thn ∧ St.its a.els = St.its b.els := fun a => St.ind (Q := fun a => ∀ b, a.same b = true → St.its a.thn = St.its b.thn ∧ St.its a.els = St.its b.els) (fun a h1 h2 b h => by
  rw [St.same_eq, St.sames_eq, St.sames_eq] at h
  simp only [Bool.and_eq_true] at h
  rw [St.its_sum, St.its_sum, St.its_sum, St.its_sum, eqAll_len h.2.2.2.2.1, eqAll_len h.2.2.2.2.2,
    eqAll_sum a.thn b.thn (g := St.more) (fun x hx y hxy => by unfold St.more; rw [(h1 x hx y hxy).1, (h1 x hx y hxy).2]) h.2.2.2.2.1,
    eqAll_sum a.els b.els (g := St.more) (fun x hx y hxy => by unfold St.more; rw [(h2 x hx y hxy).1, (h2 x hx y hxy).2]) h.2.2.2.2.2]
  exact ⟨rfl, rfl⟩) a
theorem its_eq {l r : List St} (h : eqAll St.same l r = true) : St.its l = St.its r := by
  rw [St.its_sum, St.its_sum, eqAll_len h, eqAll_sum l r (g := St.more) (fun x _ y hxy => by unfold St.more; rw [(St.its_same x y hxy).1, (St.its_same x y hxy).2]) h]
theorem eqAll_eq {α : Type} {f : α → α → Bool} (hf : ∀ x y, f x y = true → x = y) : ∀ l r : List α, eqAll f l r = true → l = r
  | [], [], _ => rfl
  | [], _ :: _, h => by rw [eqAll] at h; cases h
  | _ :: _, [], h => by rw [eqAll] at h; cases h
  | x :: l, y :: r, h => by
    rw [eqAll, Bool.and_eq_true] at h
    rw [hf x y h.1, eqAll_eq hf l r h.2]
theorem caB_same {a b : Ca} (n : Int) (h : eqCa a b = true) : caB n a = caB n b := by
  unfold eqCa at h
  simp only [Bool.and_eq_true, beq_iff_eq] at h
  unfold caB caK
  rw [eqAll_eq (fun _ _ => eqSe_eq) _ _ h.2.1, eqStr_eq h.2.2, h.1]
theorem saB_same {a b : Sa} (h : eqSa a b = true) : saB a = saB b := by
  unfold eqSa at h
  simp only [Bool.and_eq_true] at h
  obtain ⟨h1, h2, h3, h4, h5⟩ := h
  unfold saB saT
  rw [eqStr_eq h1, eqAll_eq (fun _ _ => eqStr_eq) _ _ h2, eqStr_eq h3, eqAll_len h4, eqAll_len h5, eqAll_each 1 4 (fun x _ y hxy => Ex.may_same 16 x y hxy) h4, eqAll_each 1 16 (fun x _ y hxy => caB_same _ hxy) h5]
theorem acB_same {a b : Ac} (h : eqAc a b = true) : acB a = acB b := by
  unfold eqAc at h
  simp only [Bool.and_eq_true, St.sames_eq] at h
  unfold acB
  rw [eqStr_eq h.1, eqAll_eq (fun _ _ => eqFd_eq) _ _ h.2.1, St.mayB_same 8 _ _ h.2.2]
theorem keB_same {a b : Ke} (h : eqKe a b = true) : keB a = keB b := by
  unfold eqKe at h
  simp only [Bool.and_eq_true, beq_iff_eq] at h
  unfold keB
  rw [h.1, Ex.may_same 16 _ _ h.2]
theorem taB_same {a b : Ta} (h : eqTa a b = true) : taB a = taB b := by
  unfold eqTa at h
  simp only [Bool.and_eq_true] at h
  obtain ⟨h1, h2, h3, h4, h5⟩ := h
  unfold taB
  rw [eqStr_eq h1, eqAll_eq (fun _ _ => eqStr_eq) _ _ h3, eqStr_eq h4, eqAll_eq (fun _ _ => eqLt_eq) _ _ h5, eqAll_each 1 4 (fun x _ y hxy => keB_same hxy) h2]
theorem hr_eq {a b : Hr} (h : eqHr a b = true) : a.name = b.name ∧ a.fields.l = b.fields.l := by
  unfold eqHr at h
  rw [Bool.and_eq_true] at h
  exact ⟨eqStr_eq h.1, eqAll_eq (fun _ _ => eqFd_eq) _ _ h.2⟩
theorem prB_same {a b : Pr} (h : eqPr a b = true) : prB a = prB b := by
  unfold eqPr at h
  simp only [Bool.and_eq_true, St.sames_eq] at h
  obtain ⟨h1, h2, h3, h4, h5, h6, h7⟩ := h
  unfold prB
  rw [eqAll_each 0 8 (fun x _ y hxy => show hrB x = hrB y by unfold hrB; rw [(hr_eq hxy).1, (hr_eq hxy).2]) h1, eqAll_eq (fun _ _ => eqFd_eq) _ _ h2, eqAll_each 1 16 (fun x _ y hxy => saB_same hxy) h3,
    eqAll_each 0 16 (fun x _ y hxy => acB_same hxy) h4, eqAll_each 0 8 (fun x _ y hxy => taB_same hxy) h5, St.mayB_same 8 _ _ h6, eqAll_eq (fun _ _ => eqStr_eq) _ _ h7]
theorem prI_same {a b : Pr} (h : eqPr a b = true) : prI a = prI b := by
  unfold eqPr at h
  simp only [Bool.and_eq_true, St.sames_eq] at h
  obtain ⟨h1, h2, h3, h4, h5, h6, h7⟩ := h
  unfold prI prN
  rw [eqAll_len h1, eqAll_len h2, eqAll_len h3, eqAll_len h4, eqAll_len h5, eqAll_len h7, its_eq h6,
    eqAll_sum _ _ (g := hrN) (fun x _ y hxy => by unfold hrN; rw [(hr_eq hxy).2]) h1,
    eqAll_sum _ _ (g := saN) (fun x _ y hxy => by
      unfold eqSa at hxy
      simp only [Bool.and_eq_true] at hxy
      unfold saN; rw [eqAll_len hxy.2.1, eqAll_len hxy.2.2.2.2]) h3,
    eqAll_sum _ _ (g := acN) (fun x _ y hxy => by
      unfold eqAc at hxy
      simp only [Bool.and_eq_true, St.sames_eq] at hxy
      unfold acN; rw [eqAll_len hxy.2.1, its_eq hxy.2.2]) h4,
    eqAll_sum _ _ (g := taN) (fun x _ y hxy => by
      unfold eqTa at hxy
      simp only [Bool.and_eq_true] at hxy
      unfold taN; rw [eqAll_len hxy.2.1, eqAll_len hxy.2.2.1]) h5]
/-- With one name more to be emitted. -/
def Pr.withX (p : Pr) (q : Option Addr) (cap : Nat) (x : ByteArray) : Pr := { p with emit := ⟨q, cap, p.emit.l ++ [x]⟩ }
theorem eqPr_withX (p : Pr) (q : Option Addr) (cap : Nat) (x : ByteArray) : eqPr p (p.withX q cap x) = false := by
  have : eqAll eqStr p.emit.l (p.withX q cap x).emit.l = false := eqAll_length _ _ _ (by simp [Pr.withX])
  unfold eqPr
  rw [this]
  simp
theorem prI_withX (p : Pr) (q : Option Addr) (cap : Nat) (x : ByteArray) : prI (p.withX q cap x) = prI p + 1 := by
  have h : prN (p.withX q cap x) = prN p + 1 := by simp [prN, Pr.withX]; omega
  unfold prI
  rw [h]
  show prN p + 1 + _ + _ + _ + _ = _
  simp only [Pr.withX]
  omega
end Go.Proofs.YtddpmfilkhegmaaGreat
