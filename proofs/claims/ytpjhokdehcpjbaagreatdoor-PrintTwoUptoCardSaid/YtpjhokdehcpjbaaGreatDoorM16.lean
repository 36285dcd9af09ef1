/-
  WHAT IS PROVED HERE: a part of the proof (made narrower and merged by program; the parts: HP Ho Ia).
-/
import Derived.Test.YtpjhokdehcpjbaaGreatDoorRows
import Derived.WalkKit
import Derived.Lib.Hide
import Derived.WalkSpells
import Derived.WalkLawsBesides
import Derived.Laws.EntriesVeiled
import Derived.Shelf.Abstract
import Derived.Test.YtpjhokdehcpjbaaGreatDoorM15
import Derived.Test.YtpjhokdehcpjbaaGreatDoorM3
import Derived.Test.YtpjhokdehcpjbaaGreatDoorM7
import Derived.Test.YtpjhokdehcpjbaaGreatDoorM10
namespace Go.Proofs.YtpjhokdehcpjbaaGreatDoor
open Go.RowKit
/-- The deepest of these, and of so much. -/
def Ex.dm (m:Nat):List Ex → Nat
 | []=>m
 | e :: l=>Ex.dm (max m e.dp) l
theorem Ex.dps_dm:∀ (l:List Ex) (m:Nat),Ex.dps (m + 1) l = Ex.dm m l + 1
 | [],m=>by rw [Ex.dps,Ex.dm]
 | e :: l,m=>by
  rw [Ex.dps,Ex.dm]
  have:(if m + 1 < 1 + e.dp then 1 + e.dp else m + 1) = max m e.dp + 1:=by split <;> omega
  rw [this,Ex.dps_dm l]
theorem Ex.dp_dm (e:Ex):e.dp = Ex.dm 0 e.args + 1:=by rw [Ex.dp_eq,show (1:Nat) = 0 + 1 from rfl,Ex.dps_dm]
section
variable {α:Type} {f:α → α → Bool}
theorem eqAll_symm:∀ l r:List α,(∀ x ∈ l,∀ y,f x y = f y x) → eqAll f l r = eqAll f r l
 | [],[],_=>rfl
 | [],_ :: _,_=>by rw [eqAll,eqAll]
 | _ :: _,[],_=>by rw [eqAll,eqAll]
 | x :: l,y :: r,h=>by rw [eqAll,eqAll,h x List.mem_cons_self y,eqAll_symm l r (fun z hz=>h z (List.mem_cons_of_mem _ hz))]
theorem eqAll_len {l r:List α} (h:eqAll f l r = true):l.length = r.length:=by
 by_cases hl:l.length = r.length
 ·exact hl
 ·rw [eqAll_length f l r hl] at h;cases h
end
theorem beqC {α:Type} [BEq α] [LawfulBEq α] (a b:α):(a == b) = (b == a):=by
 rw [Bool.eq_iff_iff,beq_iff_eq,beq_iff_eq];exact ⟨Eq.symm,Eq.symm⟩
theorem eqStr_refl (a:ByteArray):eqStr a a = true:=by simp [eqStr]
theorem eqStr_eq {a b:ByteArray} (h:eqStr a b = true):a = b:=by
 unfold eqStr at h
 rw [str_beq,decide_eq_true_eq] at h
 exact h
theorem eqFd_eq {a b:Fd} (h:eqFd a b = true):a = b:=by
 unfold eqFd at h
 rw [Bool.and_eq_true] at h
 obtain ⟨an,aw⟩:=a
 obtain ⟨bn,bw⟩:=b
 have h1:an = bn:=eqStr_eq h.1
 have h2:aw = bw:=by simpa using h.2
 rw [h1,h2]
theorem eqLt_refl (a:Lt):eqLt a a = true:=by simp [eqLt]
theorem eqLt_eq {a b:Lt} (h:eqLt a b = true):a = b:=by
 unfold eqLt at h
 simp only [Bool.and_eq_true,beq_iff_eq] at h
 obtain ⟨aw,ah,al⟩:=a
 obtain ⟨bw,bh,bl⟩:=b
 obtain ⟨h1,h2,h3⟩:=h
 simp only at h1 h2 h3
 rw [h1,h2,h3]
theorem eqSe_eq {a b:Se} (h:eqSe a b = true):a = b:=by
 unfold eqSe at h
 simp only [Bool.and_eq_true,beq_iff_eq] at h
 obtain ⟨⟨h1,h2⟩,h3⟩:=h
 obtain ⟨ak,av,am⟩:=a
 obtain ⟨bk,bv,bm⟩:=b
 have h2:=eqLt_eq h2
 have h3:=eqLt_eq h3
 simp only at h1 h2 h3
 rw [h1,h2,h3]
theorem Ex.top_symm (a b:Ex):Ex.top a b = Ex.top b a:=by
 unfold Ex.top
 rw [beqC a.op,beqC a.lit.w,beqC a.lit.h,beqC a.lit.l,beqC a.head.toList,beqC a.name.toList,beqC a.hi,beqC a.lo]
theorem Ex.same_symm:∀ a b:Ex,a.same b = b.same a:=fun a=>Ex.ind (Q:=fun a=>∀ b,a.same b = b.same a) (fun a ih b=>by
 rw [Ex.same_eq,Ex.same_eq,Ex.sames_eq,Ex.sames_eq,Ex.top_symm,eqAll_symm _ _ ih]) a
theorem Ex.dp_pos (e:Ex):1 ≤ e.dp:=by rw [Ex.dp_dm];omega
theorem Ex.top_eq {a b:Ex} (h:Ex.top a b = true):a.op = b.op ∧ a.lit = b.lit ∧ a.head = b.head ∧ a.name = b.name ∧ a.hi = b.hi ∧ a.lo = b.lo:=by
 unfold Ex.top at h
 simp only [Bool.and_eq_true,beq_iff_eq] at h
 obtain ⟨⟨⟨⟨⟨h1,h2,h3,h4⟩,h5⟩,h6⟩,h7⟩,h8⟩:=h
 refine ⟨h1,?_,eqStr_eq (by unfold eqStr;rw [h5];simp),eqStr_eq (by unfold eqStr;rw [h6];simp),h7,h8⟩
 have:eqLt a.lit b.lit = true:=by unfold eqLt;rw [h2,h3,h4];simp
 exact eqLt_eq this
theorem Ex.same_trans_zero {a b:Ex} (h:a.same b = true):∀ c,a.same c = b.same c:=by
 revert b
 refine Ex.ind (Q:=fun a=>∀ {b:Ex},a.same b = true → ∀ c,a.same c = b.same c) (fun a ih b h c=>?_) a
 rw [Ex.same_eq,Ex.sames_eq,Bool.and_eq_true] at h
 obtain ⟨h1,h2,h3,h4,h5,h6⟩:=Ex.top_eq h.1
 rw [Ex.same_eq,Ex.same_eq,Ex.sames_eq,Ex.sames_eq]
 have ht:Ex.top a c = Ex.top b c:=by unfold Ex.top;rw [h1,h2,h3,h4,h5,h6]
 have key:∀ (l r s:List Ex),(∀ x ∈ l,∀ {y:Ex},x.same y = true → ∀ c,x.same c = y.same c) → eqAll Ex.same l r = true → eqAll Ex.same l s = eqAll Ex.same r s:=by
  intro l
  induction l with
  | nil =>
   intro r s _ h
   cases r with
   | nil=>rfl
   | cons _ _=>rw [eqAll] at h;cases h
  | cons x l ihl =>
   intro r s hx h
   cases r with
   | nil=>rw [eqAll] at h;cases h
   | cons y r =>
    rw [eqAll,Bool.and_eq_true] at h
    cases s with
    | nil=>rw [eqAll,eqAll]
    | cons z s=>rw [eqAll,eqAll,hx x List.mem_cons_self h.1 z,ihl r s (fun w hw=>hx w (List.mem_cons_of_mem _ hw)) h.2]
 rw [ht,key _ _ _ ih h.2]
theorem eqAll_eq {α:Type} {f:α → α → Bool} (hf:∀ x y,f x y = true → x = y):∀ l r:List α,eqAll f l r = true → l = r
 | [],[],_=>rfl
 | [],_ :: _,h=>by rw [eqAll] at h;cases h
 | _ :: _,[],h=>by rw [eqAll] at h;cases h
 | x :: l,y :: r,h=>by
  rw [eqAll,Bool.and_eq_true] at h
  rw [hf x y h.1,eqAll_eq hf l r h.2]
theorem hr_eq {a b:Hr} (h:eqHr a b = true):a.name = b.name ∧ a.fields.l = b.fields.l:=by
 unfold eqHr at h
 rw [Bool.and_eq_true] at h
 exact ⟨eqStr_eq h.1,eqAll_eq (fun _ _=>eqFd_eq) _ _ h.2⟩
end Go.Proofs.YtpjhokdehcpjbaaGreatDoor
