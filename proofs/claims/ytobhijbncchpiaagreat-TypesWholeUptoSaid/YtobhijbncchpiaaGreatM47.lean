/-
  WHAT IS PROVED HERE: a part of the proof (made narrower and merged by program; the parts: Wn).
-/
import Derived.Test.YtobhijbncchpiaaGreatM46
namespace Go.Proofs.YtobhijbncchpiaaGreat
open Go.RowKit
theorem flI_take {α:Type} (f:Nat→α→List It):∀ (l:List α) (b k:Nat) (x:α),l[k]?=some x→flI f b (l.take (k+1))=flI f b (l.take k)++f (b+k) x
 | [],b,k,x,h=>by simp at h
 | y :: l,b,0,x,h=>by
  obtain rfl:y=x:=by simpa using h
  simp [flI]
 | y :: l,b,k+1,x,h=>by
  have:=flI_take f l (b+1) k x (by simpa using h)
  rw [List.take_succ_cons,List.take_succ_cons,flI,flI,this,List.append_assoc,show b+1+k=b+(k+1) by omega]
theorem flI_take_le {α:Type} (f:Nat→α→List It):∀ (l:List α) (b k:Nat),(flI f b (l.take k)).length≤(flI f b l).length
 | [],b,k=>by simp
 | y :: l,b,0=>by simp [flI]
 | y :: l,b,k+1=>by
  have:=flI_take_le f l (b+1) k
  rw [List.take_succ_cons,flI,flI,List.length_append,List.length_append]
  omega
theorem owi_from {w U W:World} {v:Value} {l:List It} (h:OwI U W v l) (hU:Below w.heap.size w U):OwI w W v l :=
 ⟨hU.trans (h.below.mono hU.size),by
  obtain⟨hl,h2⟩:=h.own
  refine⟨hl,?_⟩
  rcases h2 with h2 | ⟨g,cap,cur,hv,hg,h3⟩
  ·exact .inl h2
  ·exact .inr ⟨g,cap,cur,hv,Nat.le_trans hU.size hg,h3⟩⟩
set_option maxRecDepth 100000 in
set_option maxHeartbeats 64000000 in
theorem r_items (p:Pr) (w:World) (hin:p.In w) (hz:p.sz≤1048576):Calls Tryz.prog 9 #[.agg #[.slice p.headers.p p.headers.l.length p.headers.cap,.slice p.metas.p p.metas.l.length p.metas.cap,.slice p.states.p p.states.l.length p.states.cap,.slice p.actions.p p.actions.l.length p.actions.cap,.slice p.tables.p p.tables.l.length p.tables.cap,.slice p.control.p p.control.l.length p.control.cap,.slice p.emit.p p.emit.l.length p.emit.cap]] w fun e w'=>∃ v,e=.returned v∧OwI w w' v (encP p):=by
 have hin':=Lib.hid hin
 have hz':=Lib.hid hz
 clear hin hz
 go_enter Tryz.func9,Tryz.ntmps9
 go_upto_region 1 with (fail)
 generalize hU0:w.alloc _=U
 have hU:=Lib.hid (show Below w.heap.size w U from hU0 ▸ (Below.refl _ w).alloc (Nat.le_refl _) _)
 have hinU:=Lib.hid (show p.In U from by obtain⟨z,h⟩:=plus_of_below hU.out;rw [h];exact hin'.out.plus z)
 obtain⟨b,hb⟩:∃ b,w.heap.size=b:=⟨_,rfl⟩
 have cpU:=Lib.hid (show ∀ j v,p.cells[j]?=some v→U.cell? ⟨b,j,none⟩=some v from fun j v hj=>by rw [← hU0,← hb];exact (cell_new w _ _ _ j rfl).trans (by simpa [Pr.cells,Sl.v] using hj))
 rw [hb]
 clear hb hU0 hin'
 have hT:=Lib.hid (show []++(e1 p++(e2 p++(e3 p++(e4 p++(e5 p++(e6 p++e7 p))))))=encP p from rfl)
 have hJ2:=Lib.hid (owi_nil U)
 go_wp2
 obtain⟨n1,hn1⟩:∃ n,p.headers.l.length=n:=⟨_,rfl⟩
 have hn1':=Lib.hid hn1
 have hl1':=Lib.hid (show n1≤1048576 from by rw [← hn1];obtain⟨_,_,_,_,_,_⟩:=pr_len1 hz'.out;assumption)
 have hTb:=Lib.hid (show (([]:List It)++flI (fun a h=>encH a h.fields.l.length) 0 p.headers.l).length≤2097152 from by have h1:=encP_len p hz'.out;rw [← hT.out] at h1;rw [List.length_append,List.length_append] at h1;rw [List.length_append];have h2:(flI (fun a h=>encH a h.fields.l.length) 0 p.headers.l).length=(e1 p).length:=rfl;omega)
 clear hn1
 go_loopw [3,4] (fun ov iv wr=>∃ k:Nat,k≤n1∧iv=.int .i64 (k:Int)∧OwI U wr ov (([]:List It)++flI (fun a h=>encH a h.fields.l.length) 0 (p.headers.l.take k))) (fun _ iv _=>n1 - (intOf iv).toNat)
 case atStart=>exact⟨0,Nat.zero_le _,rfl,by simpa [flI] using hJ2.out⟩
 case round =>
  obtain⟨k,hk,rfl,hI⟩:=hrel
  by_cases hlt:k < n1
  ·obtain⟨x,hx⟩:∃ x,p.headers.l[k]?=some x:=⟨p.headers.l[k]'(by rw [hn1'.out];exact hlt),List.getElem?_eq_getElem _⟩
   have hmem:=List.mem_of_getElem? hx
   obtain⟨pa,hpa0,hc⟩:=hinU.out.headers.row k x hx
   have hpa:=Lib.hid hpa0
   clear hpa0
   have hF':=Lib.hid (show ∀ v1 w1 l1,OwI U w1 v1 l1→w1.cell? ⟨b,0,none⟩=some p.headers.v∧CellsAt w1 (pa.add (k*2)) (Hr.cells x)∧∃ z,w1=plus U z from fun v1 w1 l1 h1=>by obtain⟨z,rfl⟩:=h1.plus;exact⟨cell_keep (cpU.out 0 _ rfl) z,hc.plus z,z,rfl⟩)
   have he:=Lib.hid (show ([]:List It)++flI (fun a h=>encH a h.fields.l.length) 0 (p.headers.l.take (k+1))=(([]:List It)++flI (fun a h=>encH a h.fields.l.length) 0 (p.headers.l.take k))++encH k x.fields.l.length from by rw [flI_take (fun a h=>encH a h.fields.l.length) p.headers.l 0 k x hx,← List.append_assoc,Nat.zero_add])
   have hb0:((([]:List It)++flI (fun a h=>encH a h.fields.l.length) 0 (p.headers.l.take k))++encH k x.fields.l.length).length≤2097152:=by rw [← he.out];have h1:=hTb.out;have h2:=flI_take_le (fun a h=>encH a h.fields.l.length) p.headers.l 0 (k+1);rw [List.length_append] at h1 ⊢;omega
   generalize ([]:List It)++flI (fun a h=>encH a h.fields.l.length) 0 (p.headers.l.take k)=Z at hI he hb0
   simp only [encH,List.length_append,List.length_cons,ptI_length] at hb0
   obtain⟨g0,hc0,-⟩:=hF'.out _ _ _ hI
   simp only [Sl.v,hn1'.out,hpa.out] at g0
   have hb':=Lib.hid hb0
   have hI0:=Lib.hid hI
   have a6:=Lib.hid (wr_succ k n1 hlt hl1'.out)
   have hM6:=Lib.hid (fun W=>r_many 2 k x.fields.l.length W (by have h1:=hb'.out;omega))
   clear hI hc hb0 hmem hx
   go_upto_region 6 with (first|(at_builtin;refine its_one hI0.out (.num 1 k 0) _ rfl rfl _ _ rfl rfl rfl (by have:=hb'.out;(try simp only [List.length_append,List.length_cons,List.length_nil,ptI_length]);omega) ?_;intro v5 w5 h5;obtain⟨g5,hc5,hz5⟩:=hF'.out _ _ _ h5;simp only [Sl.v,hn1'.out,hpa.out] at g5;have hz5':=Lib.hid hz5;have hI1:=Lib.hid h5;clear h5 hz5))
   clear g0
   have y6:=hc5.cs 0 _ rfl
   simp only [Sl.v] at y6
   go_wp2_with (first|(go_at_call 24;with_reducible refine (hM6.out _).mono ?_;rintro e u6 ⟨r6,rfl,m6⟩;obtain⟨p6,c6,rfl,t6⟩:=m6.row;have t6':=Lib.hid t6;have m6':=Lib.hid (hI1.out.after m6.below);clear m6 t6)|(at_builtin;refine its_sl m6'.out (ptI 2 k x.fields.l.length) p6 _ c6 rfl t6'.out rfl _ _ rfl rfl rfl (by have:=hb'.out;(try simp only [List.length_append,List.length_cons,List.length_nil,ptI_length]);omega) ?_;intro v6 w6 h6;have hI2:=Lib.hid h6;clear h6))
   go_roundw
   case rel=>exact⟨k+1,hlt,congrArg (Value.int .i64) a6.out,by rw [he.out];simpa [encH,List.append_assoc] using hI2.out⟩
   case measure=>exact step_less k n1 hlt a6.out
  ·obtain rfl:k=n1:=by omega
   rw [List.take_of_length_le (by rw [hn1'.out];exact Nat.le_refl _)] at hI
   obtain⟨zz,hzz⟩:=hI.plus
   have gx:wr.cell? ⟨b,0,none⟩=some p.headers.v:=by rw [hzz];exact cell_keep (cpU.out 0 _ rfl) zz
   simp only [Sl.v,hn1'.out] at gx
   obtain⟨X2,hX2⟩:∃ Y,([]:List It)++flI (fun a h=>encH a h.fields.l.length) 0 p.headers.l=Y:=⟨_,rfl⟩
   rw [hX2] at hI
   replace hT:=Lib.hid (show X2++(e2 p++(e3 p++(e4 p++(e5 p++(e6 p++e7 p)))))=encP p from by rw [← hX2,List.append_assoc];exact hT.out)
   have hJ2:=Lib.hid hI
   clear hI hX2 hlt hk hTb
   clear hzz
   go_wp2
   clear gx
   obtain⟨n2,hn2⟩:∃ n,p.metas.l.length=n:=⟨_,rfl⟩
   have hn2':=Lib.hid hn2
   have hl2':=Lib.hid (show n2≤1048576 from by rw [← hn2];obtain⟨_,_,_,_,_,_⟩:=pr_len1 hz'.out;assumption)
   have hTb:=Lib.hid (show (X2++flI (fun a (_:Fd)=>[It.num 3 a 0]) 0 p.metas.l).length≤2097152 from by have h1:=encP_len p hz'.out;rw [← hT.out] at h1;rw [List.length_append,List.length_append] at h1;rw [List.length_append];have h2:(flI (fun a (_:Fd)=>[It.num 3 a 0]) 0 p.metas.l).length=(e2 p).length:=rfl;omega)
   clear hn2
   go_loopw [3,5] (fun ov iv wr=>∃ k:Nat,k≤n2∧iv=.int .i64 (k:Int)∧OwI U wr ov (X2++flI (fun a (_:Fd)=>[It.num 3 a 0]) 0 (p.metas.l.take k))) (fun _ iv _=>n2 - (intOf iv).toNat)
   case atStart=>exact⟨0,Nat.zero_le _,rfl,by simpa [flI] using hJ2.out⟩
   case round =>
    obtain⟨k,hk,rfl,hI⟩:=hrel
    by_cases hlt:k < n2
    ·obtain⟨x,hx⟩:∃ x,p.metas.l[k]?=some x:=⟨p.metas.l[k]'(by rw [hn2'.out];exact hlt),List.getElem?_eq_getElem _⟩
     have hmem:=List.mem_of_getElem? hx
     obtain⟨pa,hpa0,hc⟩:=hinU.out.metas.row k x hx
     have hpa:=Lib.hid hpa0
     clear hpa0
     have hF':=Lib.hid (show ∀ v1 w1 l1,OwI U w1 v1 l1→w1.cell? ⟨b,1,none⟩=some p.metas.v∧CellsAt w1 (pa.add (k*2)) (Fd.cells x)∧∃ z,w1=plus U z from fun v1 w1 l1 h1=>by obtain⟨z,rfl⟩:=h1.plus;exact⟨cell_keep (cpU.out 1 _ rfl) z,hc.plus z,z,rfl⟩)
     have he:=Lib.hid (show X2++flI (fun a (_:Fd)=>[It.num 3 a 0]) 0 (p.metas.l.take (k+1))=(X2++flI (fun a (_:Fd)=>[It.num 3 a 0]) 0 (p.metas.l.take k))++[It.num 3 k 0] from by rw [flI_take (fun a (_:Fd)=>[It.num 3 a 0]) p.metas.l 0 k x hx,← List.append_assoc,Nat.zero_add])
     have hb0:((X2++flI (fun a (_:Fd)=>[It.num 3 a 0]) 0 (p.metas.l.take k))++[It.num 3 k 0]).length≤2097152:=by rw [← he.out];have h1:=hTb.out;have h2:=flI_take_le (fun a (_:Fd)=>[It.num 3 a 0]) p.metas.l 0 (k+1);rw [List.length_append] at h1 ⊢;omega
     generalize X2++flI (fun a (_:Fd)=>[It.num 3 a 0]) 0 (p.metas.l.take k)=Z at hI he hb0
     simp only [List.length_append,List.length_cons,List.length_nil] at hb0
     obtain⟨g0,hc0,-⟩:=hF'.out _ _ _ hI
     simp only [Sl.v,hn2'.out,hpa.out] at g0
     have hb':=Lib.hid hb0
     have hI0:=Lib.hid hI
     have a6:=Lib.hid (wr_succ k n2 hlt hl2'.out)
     clear hI hc hb0 hmem hx
     go_wp2_with (first|(at_builtin;refine its_one hI0.out (.num 3 k 0) _ rfl rfl _ _ rfl rfl rfl (by have:=hb'.out;(try simp only [List.length_append,List.length_cons,List.length_nil,ptI_length]);omega) ?_;intro v10 w10 h10;have hI1:=Lib.hid h10;clear h10))
     go_roundw
     case rel=>exact⟨k+1,hlt,congrArg (Value.int .i64) a6.out,by rw [he.out];simpa [List.append_assoc] using hI1.out⟩
     case measure=>exact step_less k n2 hlt a6.out
    ·obtain rfl:k=n2:=by omega
     rw [List.take_of_length_le (by rw [hn2'.out];exact Nat.le_refl _)] at hI
     obtain⟨zz,hzz⟩:=hI.plus
     have gx:wr.cell? ⟨b,1,none⟩=some p.metas.v:=by rw [hzz];exact cell_keep (cpU.out 1 _ rfl) zz
     simp only [Sl.v,hn2'.out] at gx
     obtain⟨X2,hX2⟩:∃ Y,X2++flI (fun a (_:Fd)=>[It.num 3 a 0]) 0 p.metas.l=Y:=⟨_,rfl⟩
     rw [hX2] at hI
     replace hT:=Lib.hid (show X2++(e3 p++(e4 p++(e5 p++(e6 p++e7 p))))=encP p from by rw [← hX2,List.append_assoc];exact hT.out)
     have hJ2:=Lib.hid hI
     clear hI hX2 hlt hk hTb
     clear hzz
     go_wp2
     clear gx
     obtain⟨n3,hn3⟩:∃ n,p.states.l.length=n:=⟨_,rfl⟩
     have hn3':=Lib.hid hn3
     have hl3':=Lib.hid (show n3≤1048576 from by rw [← hn3];obtain⟨_,_,_,_,_,_⟩:=pr_len1 hz'.out;assumption)
     have hTb:=Lib.hid (show (X2++flI (fun a s=>encS a s.takes.l.length s.cases.l.length) 0 p.states.l).length≤2097152 from by have h1:=encP_len p hz'.out;rw [← hT.out] at h1;rw [List.length_append,List.length_append] at h1;rw [List.length_append];have h2:(flI (fun a s=>encS a s.takes.l.length s.cases.l.length) 0 p.states.l).length=(e3 p).length:=rfl;omega)
     clear hn3
     go_loopw [3,6] (fun ov iv wr=>∃ k:Nat,k≤n3∧iv=.int .i64 (k:Int)∧OwI U wr ov (X2++flI (fun a s=>encS a s.takes.l.length s.cases.l.length) 0 (p.states.l.take k))) (fun _ iv _=>n3 - (intOf iv).toNat)
     case atStart=>exact⟨0,Nat.zero_le _,rfl,by simpa [flI] using hJ2.out⟩
     case round =>
      obtain⟨k,hk,rfl,hI⟩:=hrel
      by_cases hlt:k < n3
      ·obtain⟨x,hx⟩:∃ x,p.states.l[k]?=some x:=⟨p.states.l[k]'(by rw [hn3'.out];exact hlt),List.getElem?_eq_getElem _⟩
       have hmem:=List.mem_of_getElem? hx
       obtain⟨pa,hpa0,hc⟩:=hinU.out.states.row k x hx
       have hpa:=Lib.hid hpa0
       clear hpa0
       have hF':=Lib.hid (show ∀ v1 w1 l1,OwI U w1 v1 l1→w1.cell? ⟨b,2,none⟩=some p.states.v∧CellsAt w1 (pa.add (k*5)) (Sa.cells x)∧∃ z,w1=plus U z from fun v1 w1 l1 h1=>by obtain⟨z,rfl⟩:=h1.plus;exact⟨cell_keep (cpU.out 2 _ rfl) z,hc.plus z,z,rfl⟩)
       have he:=Lib.hid (show X2++flI (fun a s=>encS a s.takes.l.length s.cases.l.length) 0 (p.states.l.take (k+1))=(X2++flI (fun a s=>encS a s.takes.l.length s.cases.l.length) 0 (p.states.l.take k))++encS k x.takes.l.length x.cases.l.length from by rw [flI_take (fun a s=>encS a s.takes.l.length s.cases.l.length) p.states.l 0 k x hx,← List.append_assoc,Nat.zero_add])
       have hb0:((X2++flI (fun a s=>encS a s.takes.l.length s.cases.l.length) 0 (p.states.l.take k))++encS k x.takes.l.length x.cases.l.length).length≤2097152:=by rw [← he.out];have h1:=hTb.out;have h2:=flI_take_le (fun a s=>encS a s.takes.l.length s.cases.l.length) p.states.l 0 (k+1);rw [List.length_append] at h1 ⊢;omega
       generalize X2++flI (fun a s=>encS a s.takes.l.length s.cases.l.length) 0 (p.states.l.take k)=Z at hI he hb0
       simp only [encS,List.length_append,List.length_cons,ptI_length] at hb0
       obtain⟨g0,hc0,-⟩:=hF'.out _ _ _ hI
       simp only [Sl.v,hn3'.out,hpa.out] at g0
       have hb':=Lib.hid hb0
       have hI0:=Lib.hid hI
       have a6:=Lib.hid (wr_succ k n3 hlt hl3'.out)
       have hM15:=Lib.hid (fun W=>r_many 5 k x.takes.l.length W (by have h1:=hb'.out;omega))
       have hM17:=Lib.hid (fun W=>r_many 7 k x.cases.l.length W (by have h1:=hb'.out;omega))
       clear hI hc hb0 hmem hx
       go_upto_region 15 with (first|(at_builtin;refine its_one hI0.out (.num 4 k 0) _ rfl rfl _ _ rfl rfl rfl (by have:=hb'.out;(try simp only [List.length_append,List.length_cons,List.length_nil,ptI_length]);omega) ?_;intro v14 w14 h14;obtain⟨g14,hc14,hz14⟩:=hF'.out _ _ _ h14;simp only [Sl.v,hn3'.out,hpa.out] at g14;have hz14':=Lib.hid hz14;have hI1:=Lib.hid h14;clear h14 hz14))
       clear g0
       have y15:=hc14.cs 0 _ rfl
       simp only [Sl.v] at y15
       go_upto_region 16 with (first|(go_at_call 24;with_reducible refine (hM15.out _).mono ?_;rintro e u15 ⟨r15,rfl,m15⟩;obtain⟨p15,c15,rfl,t15⟩:=m15.row;have t15':=Lib.hid t15;have m15':=Lib.hid (hI1.out.after m15.below);clear m15 t15)|(at_builtin;refine its_sl m15'.out (ptI 5 k x.takes.l.length) p15 _ c15 rfl t15'.out rfl _ _ rfl rfl rfl (by have:=hb'.out;(try simp only [List.length_append,List.length_cons,List.length_nil,ptI_length]);omega) ?_;intro v15 w15 h15;obtain⟨g15,hc15,hz15⟩:=hF'.out _ _ _ h15;simp only [Sl.v,hn3'.out,hpa.out] at g15;have hz15':=Lib.hid hz15;have hI2:=Lib.hid h15;clear h15 hz15))
       clear y15 g14
       go_upto_region 17 with (first|(at_builtin;refine its_one hI2.out (.num 6 k 0) _ rfl rfl _ _ rfl rfl rfl (by have:=hb'.out;(try simp only [List.length_append,List.length_cons,List.length_nil,ptI_length]);omega) ?_;intro v16 w16 h16;obtain⟨g16,hc16,hz16⟩:=hF'.out _ _ _ h16;simp only [Sl.v,hn3'.out,hpa.out] at g16;have hz16':=Lib.hid hz16;have hI3:=Lib.hid h16;clear h16 hz16))
       clear g15
       have y17:=hc16.cs 3 _ rfl
       simp only [Sl.v] at y17
       go_wp2_with (first|(go_at_call 24;with_reducible refine (hM17.out _).mono ?_;rintro e u17 ⟨r17,rfl,m17⟩;obtain⟨p17,c17,rfl,t17⟩:=m17.row;have t17':=Lib.hid t17;have m17':=Lib.hid (hI3.out.after m17.below);clear m17 t17)|(at_builtin;refine its_sl m17'.out (ptI 7 k x.cases.l.length) p17 _ c17 rfl t17'.out rfl _ _ rfl rfl rfl (by have:=hb'.out;(try simp only [List.length_append,List.length_cons,List.length_nil,ptI_length]);omega) ?_;intro v17 w17 h17;have hI4:=Lib.hid h17;clear h17))
       go_roundw
       case rel=>exact⟨k+1,hlt,congrArg (Value.int .i64) a6.out,by rw [he.out];simpa [encS,List.append_assoc] using hI4.out⟩
       case measure=>exact step_less k n3 hlt a6.out
      ·obtain rfl:k=n3:=by omega
       rw [List.take_of_length_le (by rw [hn3'.out];exact Nat.le_refl _)] at hI
       obtain⟨zz,hzz⟩:=hI.plus
       have gx:wr.cell? ⟨b,2,none⟩=some p.states.v:=by rw [hzz];exact cell_keep (cpU.out 2 _ rfl) zz
       simp only [Sl.v,hn3'.out] at gx
       obtain⟨X2,hX2⟩:∃ Y,X2++flI (fun a s=>encS a s.takes.l.length s.cases.l.length) 0 p.states.l=Y:=⟨_,rfl⟩
       rw [hX2] at hI
       replace hT:=Lib.hid (show X2++(e4 p++(e5 p++(e6 p++e7 p)))=encP p from by rw [← hX2,List.append_assoc];exact hT.out)
       have hJ2:=Lib.hid hI
       clear hI hX2 hlt hk hTb
       clear hzz
       go_wp2
       clear gx
       obtain⟨n4,hn4⟩:∃ n,p.actions.l.length=n:=⟨_,rfl⟩
       have hn4':=Lib.hid hn4
       have hl4':=Lib.hid (show n4≤1048576 from by rw [← hn4];obtain⟨_,_,_,_,_,_⟩:=pr_len1 hz'.out;assumption)
       have hTb:=Lib.hid (show (X2++flI encA 0 p.actions.l).length≤2097152 from by have h1:=encP_len p hz'.out;rw [← hT.out] at h1;rw [List.length_append,List.length_append] at h1;rw [List.length_append];have h2:(flI encA 0 p.actions.l).length=(e4 p).length:=rfl;omega)
       clear hn4
       go_loopw [3,7] (fun ov iv wr=>∃ k:Nat,k≤n4∧iv=.int .i64 (k:Int)∧OwI U wr ov (X2++flI encA 0 (p.actions.l.take k))) (fun _ iv _=>n4 - (intOf iv).toNat)
       case atStart=>exact⟨0,Nat.zero_le _,rfl,by simpa [flI] using hJ2.out⟩
       case round =>
        obtain⟨k,hk,rfl,hI⟩:=hrel
        by_cases hlt:k < n4
        ·obtain⟨x,hx⟩:∃ x,p.actions.l[k]?=some x:=⟨p.actions.l[k]'(by rw [hn4'.out];exact hlt),List.getElem?_eq_getElem _⟩
         have hmem:=List.mem_of_getElem? hx
         obtain⟨pa,hpa0,hc⟩:=hinU.out.actions.row k x hx
         have hpa:=Lib.hid hpa0
         clear hpa0
         have hF':=Lib.hid (show ∀ v1 w1 l1,OwI U w1 v1 l1→w1.cell? ⟨b,3,none⟩=some p.actions.v∧CellsAt w1 (pa.add (k*3)) (Ac.cells x)∧∃ z,w1=plus U z from fun v1 w1 l1 h1=>by obtain⟨z,rfl⟩:=h1.plus;exact⟨cell_keep (cpU.out 3 _ rfl) z,hc.plus z,z,rfl⟩)
         have he:=Lib.hid (show X2++flI encA 0 (p.actions.l.take (k+1))=(X2++flI encA 0 (p.actions.l.take k))++encA k x from by rw [flI_take encA p.actions.l 0 k x hx,← List.append_assoc,Nat.zero_add])
         have hb0:((X2++flI encA 0 (p.actions.l.take k))++encA k x).length≤2097152:=by rw [← he.out];have h1:=hTb.out;have h2:=flI_take_le encA p.actions.l 0 (k+1);rw [List.length_append] at h1 ⊢;omega
         generalize X2++flI encA 0 (p.actions.l.take k)=Z at hI he hb0
         simp only [encA,List.length_append,List.length_cons,ptI_length] at hb0
         obtain⟨g0,hc0,-⟩:=hF'.out _ _ _ hI
         simp only [Sl.v,hn4'.out,hpa.out] at g0
         have hb':=Lib.hid hb0
         have hI0:=Lib.hid hI
         have a6:=Lib.hid (wr_succ k n4 hlt hl4'.out)
         have hM22:=Lib.hid (fun W=>r_many 9 k x.params.l.length W (by have h1:=hb'.out;omega))
         have hS23:=Lib.hid (show ∀ W,(∃ z,W=plus U z)→Calls Tryz.prog 25 #[.int .i64 (k:Int),.slice x.body.p x.body.l.length x.body.cap] W (fun e w'=>∃ v,e=.returned v∧OwI W w' v (St.encs (k:Int) x.body.l)) from fun W ⟨z,h⟩=>by subst h;exact r_stmts x.body (k:Int) (plus U z) (((hinU.out.plus z).actions.kids x hmem).body) (by have:=le_sum_of Ac.sz p.actions.l x hmem;have:=hz'.out;unfold Pr.sz Ac.sz Sl.size at *;omega))
         clear hI hc hb0 hmem hx
         go_upto_region 22 with (first|(at_builtin;refine its_one hI0.out (.num 8 k 0) _ rfl rfl _ _ rfl rfl rfl (by have:=hb'.out;(try simp only [List.length_append,List.length_cons,List.length_nil,ptI_length]);omega) ?_;intro v21 w21 h21;obtain⟨g21,hc21,hz21⟩:=hF'.out _ _ _ h21;simp only [Sl.v,hn4'.out,hpa.out] at g21;have hz21':=Lib.hid hz21;have hI1:=Lib.hid h21;clear h21 hz21))
         clear g0
         have y22:=hc21.cs 0 _ rfl
         simp only [Sl.v] at y22
         go_upto_region 23 with (first|(go_at_call 24;with_reducible refine (hM22.out _).mono ?_;rintro e u22 ⟨r22,rfl,m22⟩;obtain⟨p22,c22,rfl,t22⟩:=m22.row;have t22':=Lib.hid t22;have m22':=Lib.hid (hI1.out.after m22.below);clear m22 t22)|(at_builtin;refine its_sl m22'.out (ptI 9 k x.params.l.length) p22 _ c22 rfl t22'.out rfl _ _ rfl rfl rfl (by have:=hb'.out;(try simp only [List.length_append,List.length_cons,List.length_nil,ptI_length]);omega) ?_;intro v22 w22 h22;obtain⟨g22,hc22,hz22⟩:=hF'.out _ _ _ h22;simp only [Sl.v,hn4'.out,hpa.out] at g22;have hz22':=Lib.hid hz22;have hI2:=Lib.hid h22;clear h22 hz22))
         clear y22 g21
         have y23:=hc22.cs 1 _ rfl
         simp only [Sl.v] at y23
         go_wp2_with (first|(go_at_call 25;with_reducible refine (hS23.out _ hz22'.out).mono ?_;rintro e u23 ⟨r23,rfl,m23⟩;obtain⟨p23,c23,rfl,t23⟩:=m23.row;have t23':=Lib.hid t23;have m23':=Lib.hid (hI2.out.after m23.below);clear m23 t23)|(at_builtin;refine its_sl m23'.out (St.encs (k:Int) x.body.l) p23 _ c23 rfl t23'.out rfl _ _ rfl rfl rfl (by have:=hb'.out;(try simp only [List.length_append,List.length_cons,List.length_nil,ptI_length]);omega) ?_;intro v23 w23 h23;have hI3:=Lib.hid h23;clear h23))
         go_roundw
         case rel=>exact⟨k+1,hlt,congrArg (Value.int .i64) a6.out,by rw [he.out];simpa [encA,List.append_assoc] using hI3.out⟩
         case measure=>exact step_less k n4 hlt a6.out
        ·obtain rfl:k=n4:=by omega
         rw [List.take_of_length_le (by rw [hn4'.out];exact Nat.le_refl _)] at hI
         obtain⟨zz,hzz⟩:=hI.plus
         have gx:wr.cell? ⟨b,3,none⟩=some p.actions.v:=by rw [hzz];exact cell_keep (cpU.out 3 _ rfl) zz
         simp only [Sl.v,hn4'.out] at gx
         obtain⟨X2,hX2⟩:∃ Y,X2++flI encA 0 p.actions.l=Y:=⟨_,rfl⟩
         rw [hX2] at hI
         replace hT:=Lib.hid (show X2++(e5 p++(e6 p++e7 p))=encP p from by rw [← hX2,List.append_assoc];exact hT.out)
         have hJ2:=Lib.hid hI
         clear hI hX2 hlt hk hTb
         clear hzz
         go_wp2
         clear gx
         obtain⟨n5,hn5⟩:∃ n,p.tables.l.length=n:=⟨_,rfl⟩
         have hn5':=Lib.hid hn5
         have hl5':=Lib.hid (show n5≤1048576 from by rw [← hn5];obtain⟨_,_,_,_,_,_⟩:=pr_len1 hz'.out;assumption)
         have hTb:=Lib.hid (show (X2++flI (fun a x=>encT a x.keys.l.length x.actions.l.length) 0 p.tables.l).length≤2097152 from by have h1:=encP_len p hz'.out;rw [← hT.out] at h1;rw [List.length_append,List.length_append] at h1;rw [List.length_append];have h2:(flI (fun a x=>encT a x.keys.l.length x.actions.l.length) 0 p.tables.l).length=(e5 p).length:=rfl;omega)
         clear hn5
         go_loopw [3,8] (fun ov iv wr=>∃ k:Nat,k≤n5∧iv=.int .i64 (k:Int)∧OwI U wr ov (X2++flI (fun a x=>encT a x.keys.l.length x.actions.l.length) 0 (p.tables.l.take k))) (fun _ iv _=>n5 - (intOf iv).toNat)
         case atStart=>exact⟨0,Nat.zero_le _,rfl,by simpa [flI] using hJ2.out⟩
         case round =>
          obtain⟨k,hk,rfl,hI⟩:=hrel
          by_cases hlt:k < n5
          ·obtain⟨x,hx⟩:∃ x,p.tables.l[k]?=some x:=⟨p.tables.l[k]'(by rw [hn5'.out];exact hlt),List.getElem?_eq_getElem _⟩
           have hmem:=List.mem_of_getElem? hx
           obtain⟨pa,hpa0,hc⟩:=hinU.out.tables.row k x hx
           have hpa:=Lib.hid hpa0
           clear hpa0
           have hF':=Lib.hid (show ∀ v1 w1 l1,OwI U w1 v1 l1→w1.cell? ⟨b,4,none⟩=some p.tables.v∧CellsAt w1 (pa.add (k*5)) (Ta.cells x)∧∃ z,w1=plus U z from fun v1 w1 l1 h1=>by obtain⟨z,rfl⟩:=h1.plus;exact⟨cell_keep (cpU.out 4 _ rfl) z,hc.plus z,z,rfl⟩)
           have he:=Lib.hid (show X2++flI (fun a x=>encT a x.keys.l.length x.actions.l.length) 0 (p.tables.l.take (k+1))=(X2++flI (fun a x=>encT a x.keys.l.length x.actions.l.length) 0 (p.tables.l.take k))++encT k x.keys.l.length x.actions.l.length from by rw [flI_take (fun a x=>encT a x.keys.l.length x.actions.l.length) p.tables.l 0 k x hx,← List.append_assoc,Nat.zero_add])
           have hb0:((X2++flI (fun a x=>encT a x.keys.l.length x.actions.l.length) 0 (p.tables.l.take k))++encT k x.keys.l.length x.actions.l.length).length≤2097152:=by rw [← he.out];have h1:=hTb.out;have h2:=flI_take_le (fun a x=>encT a x.keys.l.length x.actions.l.length) p.tables.l 0 (k+1);rw [List.length_append] at h1 ⊢;omega
           generalize X2++flI (fun a x=>encT a x.keys.l.length x.actions.l.length) 0 (p.tables.l.take k)=Z at hI he hb0
           simp only [encT,List.length_append,List.length_cons,List.length_nil,ptI_length] at hb0
           obtain⟨g0,hc0,-⟩:=hF'.out _ _ _ hI
           simp only [Sl.v,hn5'.out,hpa.out] at g0
           have hb':=Lib.hid hb0
           have hI0:=Lib.hid hI
           have a6:=Lib.hid (wr_succ k n5 hlt hl5'.out)
           have hM28:=Lib.hid (fun W=>r_many 12 k x.keys.l.length W (by have h1:=hb'.out;omega))
           have hM29:=Lib.hid (fun W=>r_many 13 k x.actions.l.length W (by have h1:=hb'.out;omega))
           clear hI hc hb0 hmem hx
           go_upto_region 28 with (first|(at_builtin;refine its_one hI0.out (.num 11 k 0) _ rfl rfl _ _ rfl rfl rfl (by have:=hb'.out;(try simp only [List.length_append,List.length_cons,List.length_nil,ptI_length]);omega) ?_;intro v27 w27 h27;obtain⟨g27,hc27,hz27⟩:=hF'.out _ _ _ h27;simp only [Sl.v,hn5'.out,hpa.out] at g27;have hz27':=Lib.hid hz27;have hI1:=Lib.hid h27;clear h27 hz27))
           clear g0
           have y28:=hc27.cs 0 _ rfl
           simp only [Sl.v] at y28
           go_upto_region 29 with (first|(go_at_call 24;with_reducible refine (hM28.out _).mono ?_;rintro e u28 ⟨r28,rfl,m28⟩;obtain⟨p28,c28,rfl,t28⟩:=m28.row;have t28':=Lib.hid t28;have m28':=Lib.hid (hI1.out.after m28.below);clear m28 t28)|(at_builtin;refine its_sl m28'.out (ptI 12 k x.keys.l.length) p28 _ c28 rfl t28'.out rfl _ _ rfl rfl rfl (by have:=hb'.out;(try simp only [List.length_append,List.length_cons,List.length_nil,ptI_length]);omega) ?_;intro v28 w28 h28;obtain⟨g28,hc28,hz28⟩:=hF'.out _ _ _ h28;simp only [Sl.v,hn5'.out,hpa.out] at g28;have hz28':=Lib.hid hz28;have hI2:=Lib.hid h28;clear h28 hz28))
           clear y28 g27
           have y29:=hc28.cs 1 _ rfl
           simp only [Sl.v] at y29
           go_upto_region 30 with (first|(go_at_call 24;with_reducible refine (hM29.out _).mono ?_;rintro e u29 ⟨r29,rfl,m29⟩;obtain⟨p29,c29,rfl,t29⟩:=m29.row;have t29':=Lib.hid t29;have m29':=Lib.hid (hI2.out.after m29.below);clear m29 t29)|(at_builtin;refine its_sl m29'.out (ptI 13 k x.actions.l.length) p29 _ c29 rfl t29'.out rfl _ _ rfl rfl rfl (by have:=hb'.out;(try simp only [List.length_append,List.length_cons,List.length_nil,ptI_length]);omega) ?_;intro v29 w29 h29;obtain⟨g29,hc29,hz29⟩:=hF'.out _ _ _ h29;simp only [Sl.v,hn5'.out,hpa.out] at g29;have hz29':=Lib.hid hz29;have hI3:=Lib.hid h29;clear h29 hz29))
           clear y29 g28
           go_wp2_with (first|(at_builtin;refine its_one hI3.out (.num 14 k 0) _ rfl rfl _ _ rfl rfl rfl (by have:=hb'.out;(try simp only [List.length_append,List.length_cons,List.length_nil,ptI_length]);omega) ?_;intro v30 w30 h30;have hI4:=Lib.hid h30;clear h30))
           go_roundw
           case rel=>exact⟨k+1,hlt,congrArg (Value.int .i64) a6.out,by rw [he.out];simpa [encT,List.append_assoc] using hI4.out⟩
           case measure=>exact step_less k n5 hlt a6.out
          ·obtain rfl:k=n5:=by omega
           rw [List.take_of_length_le (by rw [hn5'.out];exact Nat.le_refl _)] at hI
           obtain⟨zz,hzz⟩:=hI.plus
           have gx:wr.cell? ⟨b,4,none⟩=some p.tables.v:=by rw [hzz];exact cell_keep (cpU.out 4 _ rfl) zz
           simp only [Sl.v,hn5'.out] at gx
           have g5:wr.cell? ⟨b,5,none⟩=some p.control.v:=by rw [hzz];exact cell_keep (cpU.out 5 _ rfl) zz
           simp only [Sl.v] at g5
           have hS31:=Lib.hid (show Calls Tryz.prog 25 #[.int .i64 (-1),.slice p.control.p p.control.l.length p.control.cap] wr (fun e w'=>∃ v,e=.returned v∧OwI wr w' v (St.encs (-1) p.control.l)) from by rw [hzz];exact r_stmts p.control (-1) (plus U zz) (hinU.out.plus zz).control (by have:=hz'.out;unfold Pr.sz at this;omega))
           obtain⟨X2,hX2⟩:∃ Y,X2++flI (fun a x=>encT a x.keys.l.length x.actions.l.length) 0 p.tables.l=Y:=⟨_,rfl⟩
           rw [hX2] at hI
           have hT2:=Lib.hid (show X2++(e6 p++e7 p)=encP p from by rw [← hX2,List.append_assoc];exact hT.out)
           have hb2:=Lib.hid (show X2.length+(St.encs (-1) p.control.l).length≤2097152 from by have h1:=encP_len p hz'.out;rw [← hT2.out,List.length_append,List.length_append] at h1;have h2:(St.encs (-1) p.control.l).length=(e6 p).length:=rfl;omega)
           have hJ:=Lib.hid hI
           clear hI hX2 hT hzz hlt hk hTb
           go_upto_region 32 with (first|(go_at_call 25;with_reducible refine hS31.out.mono ?_;rintro e u31 ⟨r31,rfl,m31⟩;obtain⟨p31,c31,rfl,t31⟩:=m31.row;have t31':=Lib.hid t31;have m31':=Lib.hid (hJ.out.after m31.below);clear m31 t31)|(at_builtin;refine its_sl m31'.out (St.encs (-1) p.control.l) p31 _ c31 rfl t31'.out rfl _ _ rfl rfl rfl (by have:=hb2.out;omega) ?_;intro v31 w31 h31;have hJ2:=Lib.hid h31;clear h31))
           clear g5 gx
           have hT:=Lib.hid (show (X2++St.encs (-1) p.control.l)++(e7 p++[])=encP p from by rw [List.append_nil,List.append_assoc];exact hT2.out)
           obtain⟨X3,hX3⟩:∃ Y,X2++St.encs (-1) p.control.l=Y:=⟨_,rfl⟩
           rw [hX3] at hT hJ2
           clear hX3
           obtain⟨zz,hzz⟩:=hJ2.out.plus
           clear hzz
           go_wp2
           obtain⟨n6,hn6⟩:∃ n,p.emit.l.length=n:=⟨_,rfl⟩
           have hn6':=Lib.hid hn6
           have hl6':=Lib.hid (show n6≤1048576 from by rw [← hn6];obtain⟨_,_,_,_,_,_⟩:=pr_len1 hz'.out;assumption)
           have hTb:=Lib.hid (show (X3++flI (fun a (_:ByteArray)=>[It.num 15 a 0]) 0 p.emit.l).length≤2097152 from by have h1:=encP_len p hz'.out;rw [← hT.out] at h1;rw [List.length_append,List.length_append] at h1;rw [List.length_append];have h2:(flI (fun a (_:ByteArray)=>[It.num 15 a 0]) 0 p.emit.l).length=(e7 p).length:=rfl;omega)
           clear hn6
           go_loopw [3,9] (fun ov iv wr=>∃ k:Nat,k≤n6∧iv=.int .i64 (k:Int)∧OwI U wr ov (X3++flI (fun a (_:ByteArray)=>[It.num 15 a 0]) 0 (p.emit.l.take k))) (fun _ iv _=>n6 - (intOf iv).toNat)
           case atStart=>exact⟨0,Nat.zero_le _,rfl,by simpa [flI] using hJ2.out⟩
           case round =>
            obtain⟨k,hk,rfl,hI⟩:=hrel
            by_cases hlt:k < n6
            ·obtain⟨x,hx⟩:∃ x,p.emit.l[k]?=some x:=⟨p.emit.l[k]'(by rw [hn6'.out];exact hlt),List.getElem?_eq_getElem _⟩
             have hmem:=List.mem_of_getElem? hx
             obtain⟨pa,hpa0,hc⟩:=hinU.out.emit.row k x hx
             have hpa:=Lib.hid hpa0
             clear hpa0
             have hF':=Lib.hid (show ∀ v1 w1 l1,OwI U w1 v1 l1→w1.cell? ⟨b,6,none⟩=some p.emit.v∧CellsAt w1 (pa.add (k*1)) (strCells x)∧∃ z,w1=plus U z from fun v1 w1 l1 h1=>by obtain⟨z,rfl⟩:=h1.plus;exact⟨cell_keep (cpU.out 6 _ rfl) z,hc.plus z,z,rfl⟩)
             have he:=Lib.hid (show X3++flI (fun a (_:ByteArray)=>[It.num 15 a 0]) 0 (p.emit.l.take (k+1))=(X3++flI (fun a (_:ByteArray)=>[It.num 15 a 0]) 0 (p.emit.l.take k))++[It.num 15 k 0] from by rw [flI_take (fun a (_:ByteArray)=>[It.num 15 a 0]) p.emit.l 0 k x hx,← List.append_assoc,Nat.zero_add])
             have hb0:((X3++flI (fun a (_:ByteArray)=>[It.num 15 a 0]) 0 (p.emit.l.take k))++[It.num 15 k 0]).length≤2097152:=by rw [← he.out];have h1:=hTb.out;have h2:=flI_take_le (fun a (_:ByteArray)=>[It.num 15 a 0]) p.emit.l 0 (k+1);rw [List.length_append] at h1 ⊢;omega
             generalize X3++flI (fun a (_:ByteArray)=>[It.num 15 a 0]) 0 (p.emit.l.take k)=Z at hI he hb0
             simp only [List.length_append,List.length_cons,List.length_nil] at hb0
             obtain⟨g0,hc0,-⟩:=hF'.out _ _ _ hI
             simp only [Sl.v,hn6'.out,hpa.out] at g0
             have hb':=Lib.hid hb0
             have hI0:=Lib.hid hI
             have a6:=Lib.hid (wr_succ k n6 hlt hl6'.out)
             clear hI hc hb0 hmem hx
             go_wp2_with (first|(at_builtin;refine its_one hI0.out (.num 15 k 0) _ rfl rfl _ _ rfl rfl rfl (by have:=hb'.out;(try simp only [List.length_append,List.length_cons,List.length_nil,ptI_length]);omega) ?_;intro v35 w35 h35;have hI1:=Lib.hid h35;clear h35))
             go_roundw
             case rel=>exact⟨k+1,hlt,congrArg (Value.int .i64) a6.out,by rw [he.out];simpa [List.append_assoc] using hI1.out⟩
             case measure=>exact step_less k n6 hlt a6.out
            ·obtain rfl:k=n6:=by omega
             rw [List.take_of_length_le (by rw [hn6'.out];exact Nat.le_refl _)] at hI
             obtain⟨zz,hzz⟩:=hI.plus
             have gx:wr.cell? ⟨b,6,none⟩=some p.emit.v:=by rw [hzz];exact cell_keep (cpU.out 6 _ rfl) zz
             simp only [Sl.v,hn6'.out] at gx
             have hfin:=Lib.hid (show OwI U wr _ (encP p) from by rw [← hT.out,List.append_nil];exact hI)
             clear hI hlt hk hTb hzz
             go_wp2
             go_ret
             exact⟨_,rfl,owi_from hfin.out hU.out⟩
end Go.Proofs.YtobhijbncchpiaaGreat
