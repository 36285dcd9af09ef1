/-
  WHAT IS PROVED HERE: a part of the proof (made narrower and merged by program; the parts: Ec).
-/
import Derived.Test.YtobhijbncchpiaaGreatM35
import Derived.Test.YtobhijbncchpiaaGreatM31
namespace Go.Proofs.YtobhijbncchpiaaGreat
open Go.RowKit
/-- The first item of these with which something is wrong, the n-th and so on, and what; or how many there are. -/
def scanT (p:Pr):List It→Nat→Nat × Int
 | [],n=>(n,0)
 | z :: l,n=>if tyI p z=0 then scanT p l (n+1) else (n,tyI p z)
theorem scanT_some (p:Pr):∀ (l:List It) (n k:Nat) (z:It),l[k]?=some z→(∀ (j:Nat) (y:It),j < k→l[j]?=some y→tyI p y=0)→tyI p z≠0→scanT p l n=(n+k,tyI p z)
 | [],_,k,z,h,_,_=>by simp at h
 | y :: l,n,0,z,h,_,hz=>by
  obtain rfl:y=z:=by simpa using h
  rw [scanT,if_neg hz]
  rfl
 | y :: l,n,k+1,z,h,hj,hz=>by
  rw [scanT,if_pos (hj 0 y (Nat.succ_pos k) rfl),scanT_some p l (n+1) k z (by simpa using h) (fun j u hlt hu=>hj (j+1) u (Nat.succ_lt_succ hlt) (by simpa using hu)) hz]
  rw [show n+1+k=n+(k+1) by omega]
theorem scanT_none (p:Pr):∀ (l:List It) (n:Nat),(∀ (j:Nat) (y:It),l[j]?=some y→tyI p y=0)→scanT p l n=(n+l.length,0)
 | [],_,_=>rfl
 | y :: l,n,h=>by
  rw [scanT,if_pos (h 0 y rfl),scanT_none p l (n+1) fun j u hu=>h (j+1) u (by simpa using hu)]
  rw [List.length_cons,show n+1+l.length=n+(l.length+1) by omega]
theorem scanT_zero (p:Pr):∀ (l:List It) (n:Nat),(scanT p l n).2=0→∀ z ∈ l,tyI p z=0
 | [],_,_,z,h=>by cases h
 | y :: l,n,h,z,hz=>by
  rw [scanT] at h
  by_cases e:tyI p y=0
  ·rw [if_pos e] at h
   rcases List.mem_cons.1 hz with rfl | hz
   ·exact e
   ·exact scanT_zero p l (n+1) h z hz
  ·rw [if_neg e] at h
   exact absurd h e
/-- Wherever a case stands, its own state's transition has stood, and no other one since. -/
def Nx (l:List It):Prop:=∀ (j a b:Nat),l[j]?=some (.num 7 a b)→∃ i:Nat,i < j∧l[i]?=some (.num 6 a 0)∧∀ i':Nat,i < i'→i' < j→∀ a':Nat,l[i']?≠some (.num 6 a' 0)
theorem Nx.none {l:List It} (h:∀ a b,It.num 7 a b ∉ l):Nx l:=fun _ a b hj=>absurd (List.mem_of_getElem? hj) (h a b)
theorem Nx.app {x y:List It} (hx:Nx x) (hy:Nx y):Nx (x++y):=fun j a b hj=>by
 by_cases h:j < x.length
 ·rw [List.getElem?_append_left h] at hj
  obtain⟨i,h1,h2,h3⟩:=hx j a b hj
  refine⟨i,h1,by rw [List.getElem?_append_left (by omega)];exact h2,fun i' q1 q2 a'=>?_⟩
  rw [List.getElem?_append_left (by omega)]
  exact h3 i' q1 q2 a'
 ·rw [List.getElem?_append_right (by omega)] at hj
  obtain⟨i,h1,h2,h3⟩:=hy _ a b hj
  refine⟨x.length+i,by omega,by rw [List.getElem?_append_right (by omega),show x.length+i - x.length=i by omega];exact h2,fun i' q1 q2 a'=>?_⟩
  rw [List.getElem?_append_right (by omega)]
  exact h3 _ (by omega) (by omega) a'
theorem Nx.fl {α:Type} (f:Nat→α→List It):∀ (l:List α) (b:Nat),(∀ i x,Nx (f i x))→Nx (flI f b l)
 | [],_,_=>.none fun _ _ h=>by simp [flI] at h
 | x :: l,b,h=>by
  unfold flI
  exact (h b x).app (Nx.fl f l (b+1) h)
theorem Nx.kd {l:List It} (h:∀ z ∈ l,z.kd≠7):Nx l:=.none fun _ _ hm=>h _ hm rfl
theorem nx_state (a n m:Nat):Nx (encS a n m):=by
 have q:encS a n m=(.num 4 a 0 :: ptI 5 a n)++(.num 6 a 0 :: ptI 7 a m):=by simp [encS]
 rw [q]
 refine (Nx.kd fun z hz=>?_).app fun j a' b hj=>?_
 ·rcases List.mem_cons.1 hz with rfl | hz
  ·simp [It.kd]
  ·rw [kd_pt hz];decide
 ·cases j with
  | zero=>simp at hj
  | succ j =>
   rw [List.getElem?_cons_succ] at hj
   obtain⟨c,-,e⟩:=mem_ptI (List.mem_of_getElem? hj)
   injection e with _ e2 _
   subst e2
   refine⟨0,Nat.succ_pos _,rfl,fun i' h1 h2 a2 h3=>?_⟩
   obtain⟨i2,rfl⟩:∃ i2,i'=i2+1:=⟨i' - 1,by omega⟩
   rw [List.getElem?_cons_succ] at h3
   have:=kd_pt (List.mem_of_getElem? h3)
   simp [It.kd] at this
theorem nx_prog (p:Pr):Nx (encP p):=by
 unfold encP
 refine Nx.app (Nx.fl _ _ _ fun i x=>Nx.kd fun z hm=>?_) (Nx.app (Nx.fl _ _ _ fun i x=>Nx.kd fun z hm=>?_) (Nx.app (Nx.fl _ _ _ fun i x=>nx_state _ _ _) (Nx.app (Nx.fl _ _ _ fun i x=>Nx.kd fun z hm=>?_) (Nx.app (Nx.fl _ _ _ fun i x=>Nx.kd fun z hm=>?_) (Nx.app (Nx.kd fun z hm=>?_) (Nx.fl _ _ _ fun i x=>Nx.kd fun z hm=>?_))))))
 ·rcases List.mem_cons.1 hm with rfl | hm
  ·simp [It.kd]
  ·rw [kd_pt hm];decide
 ·obtain rfl:=List.mem_singleton.1 hm
  simp [It.kd]
 ·rcases List.mem_cons.1 hm with rfl | hm
  ·simp [It.kd]
  rcases List.mem_append.1 hm with hm | hm
  ·rw [kd_pt hm];decide
  ·rw [kd_block _ _ z hm];decide
 ·rcases List.mem_cons.1 hm with rfl | hm
  ·simp [It.kd]
  rcases List.mem_append.1 hm with hm | hm
  ·rw [kd_pt hm];decide
  rcases List.mem_append.1 hm with hm | hm
  ·rw [kd_pt hm];decide
  ·obtain rfl:=List.mem_singleton.1 hm
   simp [It.kd]
 ·rw [kd_block _ _ z hm];decide
 ·obtain rfl:=List.mem_singleton.1 hm
  simp [It.kd]
end Go.Proofs.YtobhijbncchpiaaGreat
