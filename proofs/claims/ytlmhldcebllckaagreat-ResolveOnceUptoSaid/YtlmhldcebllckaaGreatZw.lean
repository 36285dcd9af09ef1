/-
  WHAT IS PROVED HERE: plain: a program has as many items as the document counts.
-/
import Derived.Test.YtlmhldcebllckaaGreatRows
import Derived.Test.YtlmhldcebllckaaGreatZv
import Derived.Test.YtlmhldcebllckaaGreatHP
namespace Go.Proofs.YtlmhldcebllckaaGreat
open Go.RowKit Go.Shelf
theorem St.enc_its (a : Int) : ∀ s : St, (s.enc a).length = s.it := fun s => St.ind (Q := fun s => (s.enc a).length = s.it) (fun s h1 h2 => by
  have q : ∀ l : List St, (∀ x ∈ l, (x.enc a).length = x.it) → (St.encs a l).length = St.its l := fun l => by
    induction l with
    | nil => intro _; rw [St.encs, St.its]; rfl
    | cons x l ih =>
      intro h
      rw [St.encs, St.its, List.length_append, h x (List.mem_cons_self ..), ih fun y hy => h y (List.mem_cons_of_mem _ hy)]
  rw [St.enc_eq, St.it_eq, List.length_cons, List.length_append, q _ h1, q _ h2]
  omega) s
theorem St.encs_its (a : Int) : ∀ l : List St, (St.encs a l).length = St.its l
  | [] => by rw [St.encs, St.its]; rfl
  | x :: l => by rw [St.encs, St.its, List.length_append, St.enc_its, St.encs_its a l]
theorem sum_plus {α : Type} (f g : α → Nat) (c : Nat) (h : ∀ x, g x = f x + c) : ∀ l : List α, (l.map g).sum = (l.map f).sum + c * l.length
  | [] => by simp
  | x :: l => by
    simp only [List.map_cons, List.sum_cons, List.length_cons, h x, sum_plus f g c h l, Nat.mul_add]
    omega
theorem sum_one {α : Type} : ∀ l : List α, (l.map fun _ => 1).sum = l.length
  | [] => rfl
  | x :: l => by rw [List.map_cons, List.sum_cons, sum_one l, List.length_cons, Nat.add_comm]
theorem encP_its (p : Pr) : (encP p).length = prI p := by
  have l1 : (e1 p).length = (p.headers.l.map lenH).sum := flI_len _ _ (fun a x => encH_len a x) _ _
  have l2 : (e2 p).length = (p.metas.l.map fun _ => 1).sum := flI_len (fun a (_ : Fd) => [It.num 3 a 0]) (fun _ => 1) (fun _ _ => rfl) _ _
  have l3 : (e3 p).length = (p.states.l.map lenS).sum := flI_len _ _ (fun a x => encS_len a x) _ _
  have l4 : (e4 p).length = (p.actions.l.map lenA).sum := flI_len _ _ (fun a x => encA_len a x) _ _
  have l5 : (e5 p).length = (p.tables.l.map lenT).sum := flI_len _ _ (fun a x => encT_len a x) _ _
  have l6 : (e6 p).length = St.its p.control.l := St.encs_its _ _
  have l7 : (e7 p).length = (p.emit.l.map fun _ => 1).sum := flI_len (fun a (_ : ByteArray) => [It.num 15 a 0]) (fun _ => 1) (fun _ _ => rfl) _ _
  have s1 := sum_plus hrN lenH 1 (fun x => rfl) p.headers.l
  have s3 := sum_plus saN lenS 2 (fun x => rfl) p.states.l
  have s4 := sum_plus acN lenA 1 (fun x => by unfold lenA acN; rw [St.encs_its]) p.actions.l
  have s5 := sum_plus taN lenT 2 (fun x => rfl) p.tables.l
  unfold encP prI prN
  simp only [List.length_append, l1, l2, l3, l4, l5, l6, l7, s1, s3, s4, s5, sum_one]
  omega
end Go.Proofs.YtlmhldcebllckaaGreat
