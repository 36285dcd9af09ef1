/-
  WHAT IS PROVED HERE: a part of the proof (made narrower and merged by program; the parts: Jj).
-/
import Derived.Test.YtpjhokdehcpjbaaGreatDoorRows
import Derived.Test.YtpjhokdehcpjbaaGreatDoorM24
import Derived.Test.YtpjhokdehcpjbaaGreatDoorM25
import Derived.Test.YtpjhokdehcpjbaaGreatDoorM23
import Derived.Test.YtpjhokdehcpjbaaGreatDoorM21
namespace Go.Proofs.YtpjhokdehcpjbaaGreatDoor
open Go.RowKit
theorem name_nil {s:ByteArray} (h:(s.toList == []) = true):nameB s = false:=by
 have h1:s.toList = []:=by simpa using h
 rw [ByteArray.toList_eq] at h1
 have h2:s.size = 0:=by rw [← data_len,h1];rfl
 unfold nameB
 rw [decide_eq_false (by omega)]
 rfl
theorem nm1' (s:ByteArray):nmB s 1 = nameB s:=by
 rw [nm1]
 cases h:(s.toList == []) with
 | true=>rw [name_nil h];rfl
 | false=>rfl
theorem nm2 (s:ByteArray):nmB s 2 = ((s.toList == []) || nameB s):=by unfold nmB;cases (s.toList == []) <;> simp
theorem St.mayB_nil (n:Nat):St.mayB n [] = true:=by cases n <;> simp [St.mayB,eachB]
theorem e_none (e:Ex):(!((e.op != 0) || (decide ((0:Int) < (e.args.length:Int)) || !e.same zeroEx))) = e.same zeroEx:=by
 cases h:e.same zeroEx with
 | false=>simp
 | true =>
  rw [Ex.same_eq,Bool.and_eq_true] at h
  obtain ⟨h1,h2⟩:=h
  have h3:e.args = []:=by
   cases h4:e.args with
   | nil=>rfl
   | cons a l=>rw [h4] at h2;simp [zeroEx,Ex.args,Ex.sames] at h2
  have h5:e.op = 0:=by
   unfold Ex.top at h1
   simp only [Bool.and_eq_true,beq_iff_eq] at h1
   exact h1.1.1.1.1.1
  rw [h3,h5]
  rfl
theorem St.one_eq (s:St):s.one = (tIs s.kind && ((nmB s.head (tHead s.kind) && (nmB s.name (tName s.kind) && (tBlocks s.kind || (((s.thn.length:Int) == 0) && ((s.els.length:Int) == 0))))) && cond (tExpr s.kind) (Ex.may 16 s.e) (s.e.same zeroEx))):=by
 unfold St.one St.fits
 cases tExpr s.kind <;> rfl
/-- Blocks, or none. -/
theorem lens_none (n:Nat) (l r:List St) (x y:Bool):(!(decide ((0:Int) < (l.length:Int)) || decide ((0:Int) < (r.length:Int))) && (x && y)) = ((x && ((y && (((l.length:Int) == 0) && ((r.length:Int) == 0))) && true)) && (St.mayB n l && St.mayB n r)):=by
 cases l with
 | cons a l =>
  have h1:decide ((0:Int) < ((a :: l).length:Int)) = true:=decide_eq_true (by simp only [List.length_cons];omega)
  have h2:(((a :: l).length:Int) == 0) = false:=by simp only [List.length_cons,beq_eq_false_iff_ne];omega
  rw [h1,h2]
  cases x <;> cases y <;> rfl
 | nil =>
  cases r with
  | cons a l =>
   have h1:decide ((0:Int) < ((a :: l).length:Int)) = true:=decide_eq_true (by simp only [List.length_cons];omega)
   have h2:(((a :: l).length:Int) == 0) = false:=by simp only [List.length_cons,beq_eq_false_iff_ne];omega
   rw [h1,h2]
   cases x <;> cases y <;> rfl
  | nil =>
   rw [St.mayB_nil]
   cases x <;> cases y <;> rfl
theorem rstmt_at (s:St) (n:Nat) (deep:Int) (r:Int) (w:World) (h:s.In w) (hz:s.sz ≤ 1048576) (hr:wrap64 (deep + 1) = r)
  (ht:Kp Tryz.prog w 49 #[s.thnS.v,.int .i64 r] (.bool (St.mayB n s.thn)))
  (he:Kp Tryz.prog w 49 #[s.elsS.v,.int .i64 r] (.bool (St.mayB n s.els))) :
  Kp Tryz.prog w 130 #[.agg s.cells.toArray,.int .i64 deep] (.bool (s.one && (St.mayB n s.thn && St.mayB n s.els))):=by
 have e1:=St.sz_eq s
 have hE:=h.inE
 have kh:=rname_in s.head w
 have kn:=rname_in s.name w
 have km:=rmay_in s.e w hE (by omega)
 have ks:Kp Tryz.prog w 19 #[s.e.val,zeroEx.val] (.bool (s.e.same zeroEx)):=Kp.ofPure fun y=>same_expr_at s.e zeroEx _ (hE.plus y) (zeroEx_in _) (by omega) (by decide)
 obtain ⟨k,hd,nm,e,sp,scap,thn,sq,scbp,els⟩:=s
 obtain ⟨op,⟨lw,lh,ll⟩,eh,en,ei,el,ep,ecap,args⟩:=e
 have hN:(!((op != 0) || (decide ((0:Int) < (args.length:Int)) || !Ex.same (.mk op ⟨lw,lh,ll⟩ eh en ei el ep ecap args) zeroEx))) = Ex.same (.mk op ⟨lw,lh,ll⟩ eh en ei el ep ecap args) zeroEx:=e_none (.mk op ⟨lw,lh,ll⟩ eh en ei el ep ecap args)
 rw [St.one_eq]
 simp only [St.kind,St.head,St.name,St.e,St.thn,St.els] at kh kn km ks ht he ⊢
 by_cases c1:k = 1
 ·subst c1
  refine (rstmt_1 hd nm op lw lh ll eh en ei el ep args.length ecap sp thn.length scap sq els.length scbp deep _ _ _ _ w ks kn kh km).eqv ?_
  rw [show tIs 1 = true from rfl,show tHead 1 = 2 from rfl,show tName 1 = 1 from rfl,show tBlocks 1 = false from rfl,show tExpr 1 = true from rfl,cond_true,nm2,nm1']
  have:=lens_none n thn els (nameB nm && ((hd.toList == []) || nameB hd)) (Ex.may 16 (.mk op ⟨lw,lh,ll⟩ eh en ei el ep ecap args))
  congr 1
  revert this
  generalize (decide ((0:Int) < (thn.length:Int)) || decide ((0:Int) < (els.length:Int))) = B
  generalize (((thn.length:Int) == 0) && ((els.length:Int) == 0)) = L
  generalize (St.mayB n thn && St.mayB n els) = M
  generalize Ex.may 16 _ = x
  generalize nameB nm = y
  generalize ((hd.toList == []) || nameB hd) = z
  cases B <;> cases L <;> cases M <;> cases x <;> cases y <;> cases z <;> simp
 by_cases c2:k = 2
 ·subst c2
  refine (rstmt_2 hd nm op lw lh ll eh en ei el ep args.length ecap sp thn.length scap sq els.length scbp deep r _ _ _ _ w hr ks km ht he).eqv ?_
  rw [show tIs 2 = true from rfl,show tHead 2 = 0 from rfl,show tName 2 = 0 from rfl,show tBlocks 2 = true from rfl,show tExpr 2 = true from rfl,cond_true,nm0,nm0]
  generalize St.mayB n thn = L
  generalize St.mayB n els = M
  generalize Ex.may 16 _ = x
  generalize (nm.toList == []) = y
  generalize (hd.toList == []) = z
  cases L <;> cases M <;> cases x <;> cases y <;> cases z <;> simp
 by_cases c3:k = 3
 ·subst c3
  refine (rstmt_3 hd nm op lw lh ll eh en ei el ep args.length ecap sp thn.length scap sq els.length scbp deep _ _ w ks kn).eqv ?_
  rw [show tIs 3 = true from rfl,show tHead 3 = 0 from rfl,show tName 3 = 1 from rfl,show tBlocks 3 = false from rfl,show tExpr 3 = false from rfl,cond_false,nm0,nm1']
  rw [hN]
  have:=lens_none n thn els (nameB nm && (hd.toList == [])) (Ex.same (.mk op ⟨lw,lh,ll⟩ eh en ei el ep ecap args) zeroEx)
  congr 1
  revert this
  generalize (decide ((0:Int) < (thn.length:Int)) || decide ((0:Int) < (els.length:Int))) = B
  generalize (((thn.length:Int) == 0) && ((els.length:Int) == 0)) = L
  generalize (St.mayB n thn && St.mayB n els) = M
  generalize Ex.same _ zeroEx = x
  generalize nameB nm = y
  generalize (hd.toList == []) = z
  cases B <;> cases L <;> cases M <;> cases x <;> cases y <;> cases z <;> simp
 by_cases c4:k = 4
 ·subst c4
  refine (rstmt_4 hd nm op lw lh ll eh en ei el ep args.length ecap sp thn.length scap sq els.length scbp deep _ w ks).eqv ?_
  rw [show tIs 4 = true from rfl,show tHead 4 = 0 from rfl,show tName 4 = 0 from rfl,show tBlocks 4 = false from rfl,show tExpr 4 = false from rfl,cond_false,nm0,nm0]
  rw [hN]
  have:=lens_none n thn els ((nm.toList == []) && (hd.toList == [])) (Ex.same (.mk op ⟨lw,lh,ll⟩ eh en ei el ep ecap args) zeroEx)
  congr 1
  revert this
  generalize (decide ((0:Int) < (thn.length:Int)) || decide ((0:Int) < (els.length:Int))) = B
  generalize (((thn.length:Int) == 0) && ((els.length:Int) == 0)) = L
  generalize (St.mayB n thn && St.mayB n els) = M
  generalize Ex.same _ zeroEx = x
  generalize (nm.toList == []) = y
  generalize (hd.toList == []) = z
  cases B <;> cases L <;> cases M <;> cases x <;> cases y <;> cases z <;> simp
 by_cases c5:k = 5
 ·subst c5
  refine (rstmt_5 hd nm op lw lh ll eh en ei el ep args.length ecap sp thn.length scap sq els.length scbp deep _ _ w ks km).eqv ?_
  rw [show tIs 5 = true from rfl,show tHead 5 = 0 from rfl,show tName 5 = 0 from rfl,show tBlocks 5 = false from rfl,show tExpr 5 = true from rfl,cond_true,nm0,nm0]
  have:=lens_none n thn els ((nm.toList == []) && (hd.toList == [])) (Ex.may 16 (.mk op ⟨lw,lh,ll⟩ eh en ei el ep ecap args))
  congr 1
  revert this
  generalize (decide ((0:Int) < (thn.length:Int)) || decide ((0:Int) < (els.length:Int))) = B
  generalize (((thn.length:Int) == 0) && ((els.length:Int) == 0)) = L
  generalize (St.mayB n thn && St.mayB n els) = M
  generalize Ex.may 16 _ = x
  generalize (nm.toList == []) = y
  generalize (hd.toList == []) = z
  cases B <;> cases L <;> cases M <;> cases x <;> cases y <;> cases z <;> simp
 by_cases c6:k = 6
 ·subst c6
  refine (rstmt_6 hd nm op lw lh ll eh en ei el ep args.length ecap sp thn.length scap sq els.length scbp deep _ _ w ks kh).eqv ?_
  rw [show tIs 6 = true from rfl,show tHead 6 = 1 from rfl,show tName 6 = 0 from rfl,show tBlocks 6 = false from rfl,show tExpr 6 = false from rfl,cond_false,nm0,nm1']
  rw [hN]
  have:=lens_none n thn els (nameB hd && (nm.toList == [])) (Ex.same (.mk op ⟨lw,lh,ll⟩ eh en ei el ep ecap args) zeroEx)
  congr 1
  revert this
  generalize (decide ((0:Int) < (thn.length:Int)) || decide ((0:Int) < (els.length:Int))) = B
  generalize (((thn.length:Int) == 0) && ((els.length:Int) == 0)) = L
  generalize (St.mayB n thn && St.mayB n els) = M
  generalize Ex.same _ zeroEx = x
  generalize nameB hd = y
  generalize (nm.toList == []) = z
  cases B <;> cases L <;> cases M <;> cases x <;> cases y <;> cases z <;> simp
 by_cases c7:k = 7
 ·subst c7
  refine (rstmt_7 hd nm op lw lh ll eh en ei el ep args.length ecap sp thn.length scap sq els.length scbp deep _ _ w ks kh).eqv ?_
  rw [show tIs 7 = true from rfl,show tHead 7 = 1 from rfl,show tName 7 = 0 from rfl,show tBlocks 7 = false from rfl,show tExpr 7 = false from rfl,cond_false,nm0,nm1']
  rw [hN]
  have:=lens_none n thn els (nameB hd && (nm.toList == [])) (Ex.same (.mk op ⟨lw,lh,ll⟩ eh en ei el ep ecap args) zeroEx)
  congr 1
  revert this
  generalize (decide ((0:Int) < (thn.length:Int)) || decide ((0:Int) < (els.length:Int))) = B
  generalize (((thn.length:Int) == 0) && ((els.length:Int) == 0)) = L
  generalize (St.mayB n thn && St.mayB n els) = M
  generalize Ex.same _ zeroEx = x
  generalize nameB hd = y
  generalize (nm.toList == []) = z
  cases B <;> cases L <;> cases M <;> cases x <;> cases y <;> cases z <;> simp
 refine (rstmt_0 k hd nm op lw lh ll eh en ei el ep args.length ecap sp thn.length scap sq els.length scbp deep _ w (by omega) ks).eqv ?_
 rw [show tIs k = false by unfold tIs;exact decide_eq_false (by omega)]
 rfl
/-- MayBlock, of a block so deep. -/
theorem rblock_at:∀ (n:Nat),n ≤ 8 → ∀ (L:Sl St) (deep:Int) (w:World),deep = 9 - (n:Int) → L.In w 14 St.cells (St.In w) → L.size St.sz ≤ 1048576 →
  Kp Tryz.prog w 49 #[L.v,.int .i64 deep] (.bool (St.mayB n L.l))
 | 0,_,L,deep,w,hd,h,_=>by
  refine (rblock_of deep (fun _=>true) (St.In w) w L h (fun h8=>absurd h8 (by omega))).eqv ?_
  rw [decide_eq_false (show ¬ deep ≤ 8 by omega),Bool.false_and,Bool.or_false]
  congr 1
  unfold St.mayB
  by_cases h0:L.l.length = 0
  ·rw [h0];rfl
  ·rw [decide_eq_false h0,Bool.and_false]
   symm
   rw [beq_eq_false_iff_ne]
   omega
 | n + 1,hn,L,deep,w,hd,h,hz=>by
  refine (rblock_of deep (fun s=>s.one && (St.mayB n s.thn && St.mayB n s.els)) (St.In w) w L h (fun _ x hx=>?_)).eqv ?_
  ·have hi:=h.kids x hx
   have hsz:=one_sz hz hx
   have e1:=St.sz_eq x
   exact rstmt_at x n deep (9 - (n:Int)) w hi hsz (by rw [wr_in _ (by omega)];omega)
    (rblock_at n (by omega) x.thnS _ w rfl hi.inThn (show (x.thn.map St.sz).sum ≤ _ by omega))
    (rblock_at n (by omega) x.elsS _ w rfl hi.inEls (show (x.els.map St.sz).sum ≤ _ by omega))
  ·rw [decide_eq_true (show deep ≤ 8 by omega),Bool.true_and]
   congr 1
   rw [St.mayB]
   unfold eachB
   by_cases h0:L.l.length = 0
   ·rw [List.eq_nil_of_length_eq_zero h0];rfl
   ·rw [decide_eq_false h0,Bool.false_or,show decide ((0:Int) ≤ (L.l.length:Int)) = true from decide_eq_true (by omega),Bool.true_and]
    congr 1
    rw [decide_eq_decide]
    omega
end Go.Proofs.YtpjhokdehcpjbaaGreatDoor
