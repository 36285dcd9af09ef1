/-
  WHAT IS PROVED HERE: a part of the proof (made narrower and merged by program; the parts: Jj Jk).
-/
import Derived.Test.YtlmhldcebllckaaGreatRows
import Derived.WalkKit
import Derived.Lib.Hide
import Derived.WalkSpells
import Derived.WalkLawsBesides
import Derived.Laws.EntriesVeiled
import Derived.Shelf.Abstract
import Derived.Deep.CutRange
import Derived.Test.YtlmhldcebllckaaGreatM45
import Derived.Test.YtlmhldcebllckaaGreatM46
import Derived.Test.YtlmhldcebllckaaGreatM44
import Derived.Test.YtlmhldcebllckaaGreatM43
namespace Go.Proofs.YtlmhldcebllckaaGreat
open Go.RowKit
theorem name_nil {s:ByteArray} (h:(s.toList == []) = true):nameB s = false:=by
 have h1:s.toList = []:=by simpa using h
 rw [ByteArray.toList_eq] at h1
 have h2:s.size = 0:=by rw [← data_len,h1];rfl
 unfold nameB
 rw [decide_eq_false (by omega)]
 rfl
theorem nm1' (s:ByteArray):nmB s 1 = nameB s:=by
 rw [nm1]
 cases h:(s.toList == []) with
 | true=>rw [name_nil h];rfl
 | false=>rfl
theorem nm2 (s:ByteArray):nmB s 2 = ((s.toList == []) || nameB s):=by unfold nmB;cases (s.toList == []) <;> simp
theorem St.mayB_nil (n:Nat):St.mayB n [] = true:=by cases n <;> simp [St.mayB,eachB]
theorem e_none (e:Ex):(!((e.op != 0) || (decide ((0:Int) < (e.args.length:Int)) || !e.same zeroEx))) = e.same zeroEx:=by
 cases h:e.same zeroEx with
 | false=>simp
 | true =>
  rw [Ex.same_eq,Bool.and_eq_true] at h
  obtain ⟨h1,h2⟩:=h
  have h3:e.args = []:=by
   cases h4:e.args with
   | nil=>rfl
   | cons a l=>rw [h4] at h2;simp [zeroEx,Ex.args,Ex.sames] at h2
  have h5:e.op = 0:=by
   unfold Ex.top at h1
   simp only [Bool.and_eq_true,beq_iff_eq] at h1
   exact h1.1.1.1.1.1
  rw [h3,h5]
  rfl
theorem St.one_eq (s:St):s.one = (tIs s.kind && ((nmB s.head (tHead s.kind) && (nmB s.name (tName s.kind) && (tBlocks s.kind || (((s.thn.length:Int) == 0) && ((s.els.length:Int) == 0))))) && cond (tExpr s.kind) (Ex.may 16 s.e) (s.e.same zeroEx))):=by
 unfold St.one St.fits
 cases tExpr s.kind <;> rfl
/-- Blocks, or none. -/
theorem lens_none (n:Nat) (l r:List St) (x y:Bool):(!(decide ((0:Int) < (l.length:Int)) || decide ((0:Int) < (r.length:Int))) && (x && y)) = ((x && ((y && (((l.length:Int) == 0) && ((r.length:Int) == 0))) && true)) && (St.mayB n l && St.mayB n r)):=by
 cases l with
 | cons a l =>
  have h1:decide ((0:Int) < ((a :: l).length:Int)) = true:=decide_eq_true (by simp only [List.length_cons];omega)
  have h2:(((a :: l).length:Int) == 0) = false:=by simp only [List.length_cons,beq_eq_false_iff_ne];omega
  rw [h1,h2]
  cases x <;> cases y <;> rfl
 | nil =>
  cases r with
  | cons a l =>
   have h1:decide ((0:Int) < ((a :: l).length:Int)) = true:=decide_eq_true (by simp only [List.length_cons];omega)
   have h2:(((a :: l).length:Int) == 0) = false:=by simp only [List.length_cons,beq_eq_false_iff_ne];omega
   rw [h1,h2]
   cases x <;> cases y <;> rfl
  | nil =>
   rw [St.mayB_nil]
   cases x <;> cases y <;> rfl
theorem rstmt_at (s:St) (n:Nat) (deep:Int) (r:Int) (w:World) (h:s.In w) (hz:s.sz ≤ 1048576) (hr:wrap64 (deep + 1) = r)
  (ht:Kp Tryz.prog w 78 #[s.thnS.v,.int .i64 r] (.bool (St.mayB n s.thn)))
  (he:Kp Tryz.prog w 78 #[s.elsS.v,.int .i64 r] (.bool (St.mayB n s.els))) :
  Kp Tryz.prog w 121 #[.agg s.cells.toArray,.int .i64 deep] (.bool (s.one && (St.mayB n s.thn && St.mayB n s.els))):=by
 have e1:=St.sz_eq s
 have hE:=h.inE
 have kh:=rname_in s.head w
 have kn:=rname_in s.name w
 have km:=rmay_in s.e w hE (by omega)
 have ks:Kp Tryz.prog w 147 #[s.e.val,zeroEx.val] (.bool (s.e.same zeroEx)):=Kp.ofPure fun y=>same_expr_at s.e zeroEx _ (hE.plus y) (zeroEx_in _) (by omega) (by decide)
 obtain ⟨k,hd,nm,e,sp,scap,thn,sq,scbp,els⟩:=s
 obtain ⟨op,⟨lw,lh,ll⟩,eh,en,ei,el,ep,ecap,args⟩:=e
 have hN:(!((op != 0) || (decide ((0:Int) < (args.length:Int)) || !Ex.same (.mk op ⟨lw,lh,ll⟩ eh en ei el ep ecap args) zeroEx))) = Ex.same (.mk op ⟨lw,lh,ll⟩ eh en ei el ep ecap args) zeroEx:=e_none (.mk op ⟨lw,lh,ll⟩ eh en ei el ep ecap args)
 rw [St.one_eq]
 simp only [St.kind,St.head,St.name,St.e,St.thn,St.els] at kh kn km ks ht he ⊢
 by_cases c1:k = 1
 ·subst c1
  refine (rstmt_1 hd nm op lw lh ll eh en ei el ep args.length ecap sp thn.length scap sq els.length scbp deep _ _ _ _ w ks kn kh km).eqv ?_
  rw [show tIs 1 = true from rfl,show tHead 1 = 2 from rfl,show tName 1 = 1 from rfl,show tBlocks 1 = false from rfl,show tExpr 1 = true from rfl,cond_true,nm2,nm1']
  have:=lens_none n thn els (nameB nm && ((hd.toList == []) || nameB hd)) (Ex.may 16 (.mk op ⟨lw,lh,ll⟩ eh en ei el ep ecap args))
  congr 1
  revert this
  generalize (decide ((0:Int) < (thn.length:Int)) || decide ((0:Int) < (els.length:Int))) = B
  generalize (((thn.length:Int) == 0) && ((els.length:Int) == 0)) = L
  generalize (St.mayB n thn && St.mayB n els) = M
  generalize Ex.may 16 _ = x
  generalize nameB nm = y
  generalize ((hd.toList == []) || nameB hd) = z
  cases B <;> cases L <;> cases M <;> cases x <;> cases y <;> cases z <;> simp
 by_cases c2:k = 2
 ·subst c2
  refine (rstmt_2 hd nm op lw lh ll eh en ei el ep args.length ecap sp thn.length scap sq els.length scbp deep r _ _ _ _ w hr ks km ht he).eqv ?_
  rw [show tIs 2 = true from rfl,show tHead 2 = 0 from rfl,show tName 2 = 0 from rfl,show tBlocks 2 = true from rfl,show tExpr 2 = true from rfl,cond_true,nm0,nm0]
  generalize St.mayB n thn = L
  generalize St.mayB n els = M
  generalize Ex.may 16 _ = x
  generalize (nm.toList == []) = y
  generalize (hd.toList == []) = z
  cases L <;> cases M <;> cases x <;> cases y <;> cases z <;> simp
 by_cases c3:k = 3
 ·subst c3
  refine (rstmt_3 hd nm op lw lh ll eh en ei el ep args.length ecap sp thn.length scap sq els.length scbp deep _ _ w ks kn).eqv ?_
  rw [show tIs 3 = true from rfl,show tHead 3 = 0 from rfl,show tName 3 = 1 from rfl,show tBlocks 3 = false from rfl,show tExpr 3 = false from rfl,cond_false,nm0,nm1']
  rw [hN]
  have:=lens_none n thn els (nameB nm && (hd.toList == [])) (Ex.same (.mk op ⟨lw,lh,ll⟩ eh en ei el ep ecap args) zeroEx)
  congr 1
  revert this
  generalize (decide ((0:Int) < (thn.length:Int)) || decide ((0:Int) < (els.length:Int))) = B
  generalize (((thn.length:Int) == 0) && ((els.length:Int) == 0)) = L
  generalize (St.mayB n thn && St.mayB n els) = M
  generalize Ex.same _ zeroEx = x
  generalize nameB nm = y
  generalize (hd.toList == []) = z
  cases B <;> cases L <;> cases M <;> cases x <;> cases y <;> cases z <;> simp
 by_cases c4:k = 4
 ·subst c4
  refine (rstmt_4 hd nm op lw lh ll eh en ei el ep args.length ecap sp thn.length scap sq els.length scbp deep _ w ks).eqv ?_
  rw [show tIs 4 = true from rfl,show tHead 4 = 0 from rfl,show tName 4 = 0 from rfl,show tBlocks 4 = false from rfl,show tExpr 4 = false from rfl,cond_false,nm0,nm0]
  rw [hN]
  have:=lens_none n thn els ((nm.toList == []) && (hd.toList == [])) (Ex.same (.mk op ⟨lw,lh,ll⟩ eh en ei el ep ecap args) zeroEx)
  congr 1
  revert this
  generalize (decide ((0:Int) < (thn.length:Int)) || decide ((0:Int) < (els.length:Int))) = B
  generalize (((thn.length:Int) == 0) && ((els.length:Int) == 0)) = L
  generalize (St.mayB n thn && St.mayB n els) = M
  generalize Ex.same _ zeroEx = x
  generalize (nm.toList == []) = y
  generalize (hd.toList == []) = z
  cases B <;> cases L <;> cases M <;> cases x <;> cases y <;> cases z <;> simp
 by_cases c5:k = 5
 ·subst c5
  refine (rstmt_5 hd nm op lw lh ll eh en ei el ep args.length ecap sp thn.length scap sq els.length scbp deep _ _ w ks km).eqv ?_
  rw [show tIs 5 = true from rfl,show tHead 5 = 0 from rfl,show tName 5 = 0 from rfl,show tBlocks 5 = false from rfl,show tExpr 5 = true from rfl,cond_true,nm0,nm0]
  have:=lens_none n thn els ((nm.toList == []) && (hd.toList == [])) (Ex.may 16 (.mk op ⟨lw,lh,ll⟩ eh en ei el ep ecap args))
  congr 1
  revert this
  generalize (decide ((0:Int) < (thn.length:Int)) || decide ((0:Int) < (els.length:Int))) = B
  generalize (((thn.length:Int) == 0) && ((els.length:Int) == 0)) = L
  generalize (St.mayB n thn && St.mayB n els) = M
  generalize Ex.may 16 _ = x
  generalize (nm.toList == []) = y
  generalize (hd.toList == []) = z
  cases B <;> cases L <;> cases M <;> cases x <;> cases y <;> cases z <;> simp
 by_cases c6:k = 6
 ·subst c6
  refine (rstmt_6 hd nm op lw lh ll eh en ei el ep args.length ecap sp thn.length scap sq els.length scbp deep _ _ w ks kh).eqv ?_
  rw [show tIs 6 = true from rfl,show tHead 6 = 1 from rfl,show tName 6 = 0 from rfl,show tBlocks 6 = false from rfl,show tExpr 6 = false from rfl,cond_false,nm0,nm1']
  rw [hN]
  have:=lens_none n thn els (nameB hd && (nm.toList == [])) (Ex.same (.mk op ⟨lw,lh,ll⟩ eh en ei el ep ecap args) zeroEx)
  congr 1
  revert this
  generalize (decide ((0:Int) < (thn.length:Int)) || decide ((0:Int) < (els.length:Int))) = B
  generalize (((thn.length:Int) == 0) && ((els.length:Int) == 0)) = L
  generalize (St.mayB n thn && St.mayB n els) = M
  generalize Ex.same _ zeroEx = x
  generalize nameB hd = y
  generalize (nm.toList == []) = z
  cases B <;> cases L <;> cases M <;> cases x <;> cases y <;> cases z <;> simp
 by_cases c7:k = 7
 ·subst c7
  refine (rstmt_7 hd nm op lw lh ll eh en ei el ep args.length ecap sp thn.length scap sq els.length scbp deep _ _ w ks kh).eqv ?_
  rw [show tIs 7 = true from rfl,show tHead 7 = 1 from rfl,show tName 7 = 0 from rfl,show tBlocks 7 = false from rfl,show tExpr 7 = false from rfl,cond_false,nm0,nm1']
  rw [hN]
  have:=lens_none n thn els (nameB hd && (nm.toList == [])) (Ex.same (.mk op ⟨lw,lh,ll⟩ eh en ei el ep ecap args) zeroEx)
  congr 1
  revert this
  generalize (decide ((0:Int) < (thn.length:Int)) || decide ((0:Int) < (els.length:Int))) = B
  generalize (((thn.length:Int) == 0) && ((els.length:Int) == 0)) = L
  generalize (St.mayB n thn && St.mayB n els) = M
  generalize Ex.same _ zeroEx = x
  generalize nameB hd = y
  generalize (nm.toList == []) = z
  cases B <;> cases L <;> cases M <;> cases x <;> cases y <;> cases z <;> simp
 refine (rstmt_0 k hd nm op lw lh ll eh en ei el ep args.length ecap sp thn.length scap sq els.length scbp deep _ w (by omega) ks).eqv ?_
 rw [show tIs k = false by unfold tIs;exact decide_eq_false (by omega)]
 rfl
/-- MayBlock, of a block so deep. -/
theorem rblock_at:∀ (n:Nat),n ≤ 8 → ∀ (L:Sl St) (deep:Int) (w:World),deep = 9 - (n:Int) → L.In w 14 St.cells (St.In w) → L.size St.sz ≤ 1048576 →
  Kp Tryz.prog w 78 #[L.v,.int .i64 deep] (.bool (St.mayB n L.l))
 | 0,_,L,deep,w,hd,h,_=>by
  refine (rblock_of deep (fun _=>true) (St.In w) w L h (fun h8=>absurd h8 (by omega))).eqv ?_
  rw [decide_eq_false (show ¬ deep ≤ 8 by omega),Bool.false_and,Bool.or_false]
  congr 1
  unfold St.mayB
  by_cases h0:L.l.length = 0
  ·rw [h0];rfl
  ·rw [decide_eq_false h0,Bool.and_false]
   symm
   rw [beq_eq_false_iff_ne]
   omega
 | n + 1,hn,L,deep,w,hd,h,hz=>by
  refine (rblock_of deep (fun s=>s.one && (St.mayB n s.thn && St.mayB n s.els)) (St.In w) w L h (fun _ x hx=>?_)).eqv ?_
  ·have hi:=h.kids x hx
   have hsz:=one_sz hz hx
   have e1:=St.sz_eq x
   exact rstmt_at x n deep (9 - (n:Int)) w hi hsz (by rw [wr_in _ (by omega)];omega)
    (rblock_at n (by omega) x.thnS _ w rfl hi.inThn (show (x.thn.map St.sz).sum ≤ _ by omega))
    (rblock_at n (by omega) x.elsS _ w rfl hi.inEls (show (x.els.map St.sz).sum ≤ _ by omega))
  ·rw [decide_eq_true (show deep ≤ 8 by omega),Bool.true_and]
   congr 1
   rw [St.mayB]
   unfold eachB
   by_cases h0:L.l.length = 0
   ·rw [List.eq_nil_of_length_eq_zero h0];rfl
   ·rw [decide_eq_false h0,Bool.false_or,show decide ((0:Int) ≤ (L.l.length:Int)) = true from decide_eq_true (by omega),Bool.true_and]
    congr 1
    rw [decide_eq_decide]
    omega
theorem ndec (a b:Int):(!decide (a < b)) = decide (b ≤ a):=by
 rw [← decide_not,decide_eq_decide,Int.not_lt]
set_option maxRecDepth 100000 in
set_option maxHeartbeats 8000000 in
theorem rtable_in (t:Ta) (w:World) (h:t.In w) (hz:t.sz ≤ 1048576):Kp Tryz.prog w 79 #[.agg t.cells.toArray] (.bool (taB t)):=by
 intro y0
 have h:=h.plus y0
 obtain ⟨V,hV⟩:∃ V,plus w y0 = V:=⟨_,rfl⟩
 rw [hV] at h ⊢
 clear hV
 unfold Ta.sz Cl.sz at hz
 have hks:t.keys.size Ke.sz ≤ 1048576:=by omega
 have bkn:t.keys.l.length ≤ 1048576:=len_le Ke.sz sz_pos_ke _ hks
 have bgn:t.dflt.args.l.length ≤ 1048576:=lt_sz _ (by omega)
 have c0:=rname_in t.name V
 have c1:=rnames_in t.actions V h.actions (by omega)
 have c2:=rname_in t.dflt.name V
 have ck:=fun x (hx:x ∈ t.keys.l)=>rmay_in (Ke.e x) V (h.keys.kids x hx).e (by have:=one_sz hks hx;unfold Ke.sz at this;omega)
 have cg:=fun x (hx:x ∈ t.dflt.args.l)=>rlit_in x V (h.dflt.args.kids x hx)
 have rk:=h.keys.row
 have rg:=h.dflt.args.row
 obtain ⟨nm,⟨kp,kc,kl⟩,⟨ap,ac,al⟩,⟨dn,⟨gp,gc,gl⟩⟩⟩:=t
 simp only [Sl.v] at bkn bgn c0 c1 c2 ck cg rk rg
 clear h hz hks
 have e0:decide ((0:Int) ≤ (gl.length:Int)) = true:=decide_eq_true (by omega)
 have hT:taB ⟨nm,⟨kp,kc,kl⟩,⟨ap,ac,al⟩,⟨dn,⟨gp,gc,gl⟩⟩⟩ = ((nameB nm && ((!decide ((kl.length:Int) < 1)) && ((!decide ((4:Int) < (kl.length:Int))) && ((!decide ((al.length:Int) < 1)) && ((!decide ((16:Int) < (al.length:Int))) && (al.all nameB && (nameB dn && (!decide ((8:Int) < (gl.length:Int)))))))))) && (kl.all keB && gl.all ltB)):=by
  simp only [taB,eachB,ndec,e0,Bool.true_and]
  ac_rfl
 rw [hT]
 clear hT e0
 show Calls Tryz.prog 79 #[.agg #[.string nm,.slice kp kl.length kc,.slice ap al.length ac,.string dn,.slice gp gl.length gc]] V _
 generalize nameB nm = s0 at c0 ⊢
 generalize al.all nameB = s1 at c1 ⊢
 generalize nameB dn = s2 at c2 ⊢
 obtain ⟨kn,hkn⟩:∃ n,kl.length = n:=⟨_,rfl⟩
 obtain ⟨gn,hgn⟩:∃ n,gl.length = n:=⟨_,rfl⟩
 generalize al.length = an at c1 ⊢
 rw [hkn] at bkn ⊢
 rw [hgn] at bgn ⊢
 obtain ⟨A,hA⟩:∃ A,kl.all keB = A:=⟨_,rfl⟩
 obtain ⟨T,hT⟩:∃ A,gl.all ltB = A:=⟨_,rfl⟩
 obtain ⟨G,hG⟩:∃ A,(s0 && ((!decide ((kn:Int) < 1)) && ((!decide ((4:Int) < (kn:Int))) && ((!decide ((an:Int) < 1)) && ((!decide ((16:Int) < (an:Int))) && (s1 && (s2 && (!decide ((8:Int) < (gn:Int)))))))))) = A:=⟨_,rfl⟩
 obtain ⟨R,hR⟩:∃ B,(G && (A && T)) = B:=⟨_,rfl⟩
 obtain ⟨C,hC⟩:∃ A,(!G) = A:=⟨_,rfl⟩
 rw [hA,hT,hG,hR]
 have bkn':=Lib.hid bkn
 have bgn':=Lib.hid bgn
 have c0':=Lib.hid c0
 have c1':=Lib.hid c1
 have c2':=Lib.hid c2
 have ck':=Lib.hid ck
 have cg':=Lib.hid cg
 have rk':=Lib.hid rk
 have rg':=Lib.hid rg
 have hkn':=Lib.hid hkn
 have hgn':=Lib.hid hgn
 have hA':=Lib.hid hA
 have hT':=Lib.hid hT
 have hG':=Lib.hid hG
 have hR':=Lib.hid hR
 have hC':=Lib.hid hC
 clear bkn bgn c0 c1 c2 ck cg rk rg hkn hgn hA hT hG hR hC
 go_enter Tryz.func79,Tryz.ntmps79
 go_upto_region 1 with (fail)
 obtain ⟨W,yy,hW,⟨z,hz⟩,cb0⟩:=box1n V _ 48
 rw [hW]
 have e0_0:=cb0 0 _ rfl
 have e0_1:=cb0 1 _ rfl
 have e0_2:=cb0 2 _ rfl
 have e0_3:=cb0 3 _ rfl
 have e0_4:=cb0 4 _ rfl
 have q0c:=Lib.hid (kp_at hz c0'.out)
 have q1c:=Lib.hid (kp_at hz c1'.out)
 have q2c:=Lib.hid (kp_at hz c2'.out)
 have hz':=Lib.hid hz
 clear hW hz cb0 c0' c1' c2'
 go_cut [52] from 5 to 52 (fun v wx=>v = .bool C ∧ ∃ y,wx = plus W y)
 case first =>
  cases s0
  case false =>
   have hF:=Lib.hid (show (true) = C by rw [← hC'.out,← hG'.out];simp)
   go_wp2_with (first | (go_at_call 75;with_reducible refine (q0c.out _).mono ?_;rintro r w' ⟨rfl,x,rfl⟩))
   go_meet
   first | exact ⟨congrArg Value.bool hF.out,_,rfl⟩ | exact ⟨congrArg Value.bool (Eq.trans (by simp) hF.out),_,rfl⟩
  case true =>
   by_cases q1:(kn:Int) < 1
   case pos =>
    have hF:=Lib.hid (show (true) = C by rw [← hC'.out,← hG'.out];simp [q1])
    go_wp2_with (first | (go_at_call 75;with_reducible refine (q0c.out _).mono ?_;rintro r w' ⟨rfl,x,rfl⟩))
    go_meet
    first | exact ⟨congrArg Value.bool hF.out,_,rfl⟩ | exact ⟨congrArg Value.bool (Eq.trans (by simp [q1]) hF.out),_,rfl⟩
   case neg =>
    by_cases q2:(4:Int) < (kn:Int)
    case pos =>
     have hF:=Lib.hid (show (true) = C by rw [← hC'.out,← hG'.out];simp [q1,q2])
     go_wp2_with (first | (go_at_call 75;with_reducible refine (q0c.out _).mono ?_;rintro r w' ⟨rfl,x,rfl⟩))
     go_meet
     first | exact ⟨congrArg Value.bool hF.out,_,rfl⟩ | exact ⟨congrArg Value.bool (Eq.trans (by simp [q1,q2]) hF.out),_,rfl⟩
    case neg =>
     by_cases q3:(an:Int) < 1
     case pos =>
      have hF:=Lib.hid (show (true) = C by rw [← hC'.out,← hG'.out];simp [q1,q2,q3])
      go_wp2_with (first | (go_at_call 75;with_reducible refine (q0c.out _).mono ?_;rintro r w' ⟨rfl,x,rfl⟩))
      go_meet
      first | exact ⟨congrArg Value.bool hF.out,_,rfl⟩ | exact ⟨congrArg Value.bool (Eq.trans (by simp [q1,q2,q3]) hF.out),_,rfl⟩
     case neg =>
      by_cases q4:(16:Int) < (an:Int)
      case pos =>
       have hF:=Lib.hid (show (true) = C by rw [← hC'.out,← hG'.out];simp [q1,q2,q3,q4])
       go_wp2_with (first | (go_at_call 75;with_reducible refine (q0c.out _).mono ?_;rintro r w' ⟨rfl,x,rfl⟩))
       go_meet
       first | exact ⟨congrArg Value.bool hF.out,_,rfl⟩ | exact ⟨congrArg Value.bool (Eq.trans (by simp [q1,q2,q3,q4]) hF.out),_,rfl⟩
      case neg =>
       cases s1
       case false =>
        have hF:=Lib.hid (show (true) = C by rw [← hC'.out,← hG'.out];simp [q1,q2,q3,q4])
        go_wp2_with (first | (go_at_call 75;with_reducible refine (q0c.out _).mono ?_;rintro r w' ⟨rfl,x,rfl⟩) | (go_at_call 80;with_reducible refine (q1c.out _).mono ?_;rintro r w' ⟨rfl,x,rfl⟩))
        go_meet
        first | exact ⟨congrArg Value.bool hF.out,_,rfl⟩ | exact ⟨congrArg Value.bool (Eq.trans (by simp [q1,q2,q3,q4]) hF.out),_,rfl⟩
       case true =>
        cases s2
        case false =>
         have hF:=Lib.hid (show (true) = C by rw [← hC'.out,← hG'.out];simp [q1,q2,q3,q4])
         go_wp2_with (first | (go_at_call 75;with_reducible refine (q0c.out _).mono ?_;rintro r w' ⟨rfl,x,rfl⟩) | (go_at_call 80;with_reducible refine (q1c.out _).mono ?_;rintro r w' ⟨rfl,x,rfl⟩) | (go_at_call 75;with_reducible refine (q2c.out _).mono ?_;rintro r w' ⟨rfl,x,rfl⟩))
         go_meet
         first | exact ⟨congrArg Value.bool hF.out,_,rfl⟩ | exact ⟨congrArg Value.bool (Eq.trans (by simp [q1,q2,q3,q4]) hF.out),_,rfl⟩
        case true =>
         by_cases q7:(8:Int) < (gn:Int)
         case pos =>
          have hF:=Lib.hid (show (true) = C by rw [← hC'.out,← hG'.out];simp [q1,q2,q3,q4,q7])
          go_wp2_with (first | (go_at_call 75;with_reducible refine (q0c.out _).mono ?_;rintro r w' ⟨rfl,x,rfl⟩) | (go_at_call 80;with_reducible refine (q1c.out _).mono ?_;rintro r w' ⟨rfl,x,rfl⟩) | (go_at_call 75;with_reducible refine (q2c.out _).mono ?_;rintro r w' ⟨rfl,x,rfl⟩))
          go_meet
          first | exact ⟨congrArg Value.bool hF.out,_,rfl⟩ | exact ⟨congrArg Value.bool (Eq.trans (by simp [q1,q2,q3,q4,q7]) hF.out),_,rfl⟩
         case neg =>
          have hF:=Lib.hid (show (false) = C by rw [← hC'.out,← hG'.out];simp [q1,q2,q3,q4,q7])
          go_wp2_with (first | (go_at_call 75;with_reducible refine (q0c.out _).mono ?_;rintro r w' ⟨rfl,x,rfl⟩) | (go_at_call 80;with_reducible refine (q1c.out _).mono ?_;rintro r w' ⟨rfl,x,rfl⟩) | (go_at_call 75;with_reducible refine (q2c.out _).mono ?_;rintro r w' ⟨rfl,x,rfl⟩))
          go_meet
          first | exact ⟨congrArg Value.bool hF.out,_,rfl⟩ | exact ⟨congrArg Value.bool (Eq.trans (by simp [q1,q2,q3,q4,q7]) hF.out),_,rfl⟩
 case rest =>
  obtain ⟨rfl,y1,rfl⟩:=hcut
  clear hG' q0c q1c q2c
  cases G with
  | false =>
   have e:true = C:=hC'.out
   subst e
   have hs2:=Lib.hid (show false = R from hR'.out)
   clear hC'
   go_wp2_with fail
   go_ret
   exact ⟨rb hs2.out,pp hz'.out⟩
  | true =>
   have e:false = C:=hC'.out
   subst e
   have h0:=Lib.hid (show ((kl.drop 0).all keB && T) = R by rw [List.drop_zero,hA'.out,← hR'.out];rfl)
   clear hC' hA' hR'
   go_wp2_with fail
   go_loopw [3] (fun iv wr=>∃ k:Nat,k ≤ kn ∧ iv = .int .i64 (k:Int) ∧ Hid (((kl.drop k).all keB && T) = R) ∧ ∃ y,wr = plus W y) (fun iv _=>kn - (intOf iv).toNat)
   case atStart=>exact ⟨0,Nat.zero_le _,rfl,h0,_,rfl⟩
   case round =>
    obtain ⟨k,hk,rfl,hs,y,rfl⟩:=hrel
    by_cases hlt:k < kn
    ·obtain ⟨a,ha⟩:∃ s,kl[k]? = some s:=⟨kl[k]'(by rw [hkn'.out];exact hlt),List.getElem?_eq_getElem _⟩
     obtain ⟨pa,rfl,hc⟩:=rk'.out k a ha
     have hmem:=List.mem_of_getElem? ha
     have hs1:((keB a && (kl.drop (k + 1)).all keB) && T) = R:=by rw [← all_drop keB kl k a ha];exact hs.out
     have a6:=Lib.hid (wr_succ k kn hlt bkn'.out)
     have hc:=hz'.out ▸ hc.plus z
     have q1:=kp_at hz'.out (ck'.out a hmem)
     obtain ⟨⟨eop,⟨elw,elh,ell⟩,ehd,enm,eeh,eel,ep,ecap,eargs⟩,ekd⟩:=a
     simp only [keB] at q1 hs1
     obtain ⟨Z,hZ⟩:∃ Z,Ex.may 16 (.mk eop ⟨elw,elh,ell⟩ ehd enm eeh eel ep ecap eargs) = Z:=⟨_,rfl⟩
     rw [hZ] at q1 hs1
     have q1:PureIn Tryz.prog W 122 #[.agg #[.int .u8 eop,.int .i64 elw,.int .u64 elh,.int .u64 ell,.string ehd,.string enm,.int .i64 eeh,.int .i64 eel,.slice ep eargs.length ecap]] (.bool Z):=q1
     have d0:=fun y=>(hc.plus y).c0 _ rfl
     have d1:=fun y=>(hc.plus y).cs 0 _ rfl
     have d2:=fun y=>(hc.plus y).cs 1 _ rfl
     have d3:=fun y=>(hc.plus y).cs 2 _ rfl
     have d4:=fun y=>(hc.plus y).cs 3 _ rfl
     have d5:=fun y=>(hc.plus y).cs 4 _ rfl
     have d6:=fun y=>(hc.plus y).cs 5 _ rfl
     have d7:=fun y=>(hc.plus y).cs 6 _ rfl
     have d8:=fun y=>(hc.plus y).cs 7 _ rfl
     have d9:=fun y=>(hc.plus y).cs 8 _ rfl
     simp only [Ex.op,Ex.lit,Ex.head,Ex.name,Ex.hi,Ex.lo,Ex.p,Ex.cap,Ex.args] at d0 d1 d2 d3 d4 d5 d6 d7 d8 d9
     have q1':=Lib.hid q1
     clear q1 hZ hc ha hs hmem
     cases Z with
     | false =>
      have hs2:=Lib.hid (show false = R by rw [← hs1];simp)
      clear hs1
      go_wp2_with (go_at_call 122;refine (q1'.out _).mono ?_;rintro e w' ⟨rfl,x,rfl⟩)
      go_ret
      exact ⟨rb hs2.out,pp hz'.out⟩
     | true =>
      by_cases u1:ekd < 1
      case pos =>
       have u3:decide (1 ≤ ekd) = false:=decide_eq_false (by omega)
       have hs2:=Lib.hid (show false = R by rw [← hs1];simp [u3])
       clear hs1 u3
       go_wp2_with (go_at_call 122;refine (q1'.out _).mono ?_;rintro e w' ⟨rfl,x,rfl⟩)
       go_ret
       exact ⟨rb hs2.out,pp hz'.out⟩
      case neg =>
       by_cases u2:(3:Int) < ekd
       case pos =>
        have u3:decide (ekd ≤ 3) = false:=decide_eq_false (by omega)
        have hs2:=Lib.hid (show false = R by rw [← hs1];simp [u3])
        clear hs1 u3
        go_wp2_with (go_at_call 122;refine (q1'.out _).mono ?_;rintro e w' ⟨rfl,x,rfl⟩)
        go_ret
        exact ⟨rb hs2.out,pp hz'.out⟩
       case neg =>
        have u3:decide (1 ≤ ekd) = true:=decide_eq_true (by omega)
        have u4:decide (ekd ≤ 3) = true:=decide_eq_true (by omega)
        have hs2:=Lib.hid (show ((kl.drop (k + 1)).all keB && T) = R by rw [← hs1];simp [u3,u4])
        clear hs1 u3 u4
        go_wp2_with (go_at_call 122;refine (q1'.out _).mono ?_;rintro e w' ⟨rfl,x,rfl⟩)
        go_roundw
        case rel=>exact ⟨k + 1,hlt,congrArg (Value.int .i64) a6.out,hs2,_,rfl⟩
        case measure=>exact step_less k kn hlt a6.out
    ·obtain rfl:k = kn:=by omega
     have h0:=Lib.hid (show (gl.drop 0).all ltB = R by rw [List.drop_zero,hT'.out,← hs.out,List.drop_of_length_le (by rw [hkn'.out];exact Nat.le_refl _)];rfl)
     clear hs hlt hk
     go_wp2_with fail
     go_loopw [4] (fun iv wr=>∃ k:Nat,k ≤ gn ∧ iv = .int .i64 (k:Int) ∧ Hid ((gl.drop k).all ltB = R) ∧ ∃ y,wr = plus W y) (fun iv _=>gn - (intOf iv).toNat)
     case atStart=>exact ⟨0,Nat.zero_le _,rfl,h0,_,rfl⟩
     case round =>
      obtain ⟨k,hk,rfl,hs,y,rfl⟩:=hrel
      by_cases hlt:k < gn
      ·obtain ⟨a,ha⟩:∃ s,gl[k]? = some s:=⟨gl[k]'(by rw [hgn'.out];exact hlt),List.getElem?_eq_getElem _⟩
       obtain ⟨pa,rfl,hc⟩:=rg'.out k a ha
       have hmem:=List.mem_of_getElem? ha
       have hs1:(ltB a && (gl.drop (k + 1)).all ltB) = R:=by rw [← all_drop ltB gl k a ha];exact hs.out
       have a6:=Lib.hid (wr_succ k gn hlt bgn'.out)
       have hc:=hz'.out ▸ hc.plus z
       have q1:=kp_at hz'.out (cg'.out a hmem)
       obtain ⟨Z,hZ⟩:∃ Z,ltB a = Z:=⟨_,rfl⟩
       rw [hZ] at q1 hs1
       obtain ⟨lw,lh,ll⟩:=a
       have q1:PureIn Tryz.prog W 123 #[.agg #[.int .i64 lw,.int .u64 lh,.int .u64 ll]] (.bool Z):=q1
       have d0:=fun y=>(hc.plus y).c0 _ rfl
       have d1:=fun y=>(hc.plus y).cs 0 _ rfl
       have d2:=fun y=>(hc.plus y).cs 1 _ rfl
       simp only at d0 d1 d2
       have q1':=Lib.hid q1
       clear q1 hZ hc ha hs hmem
       cases Z with
       | false =>
        have hs2:=Lib.hid (show false = R by rw [← hs1];simp)
        clear hs1
        go_wp2_with (go_at_call 123;refine (q1'.out _).mono ?_;rintro e w' ⟨rfl,x,rfl⟩)
        go_ret
        exact ⟨rb hs2.out,pp hz'.out⟩
       | true =>
        have hs2:=Lib.hid (show (gl.drop (k + 1)).all ltB = R by rw [← hs1];simp)
        clear hs1
        go_wp2_with (go_at_call 123;refine (q1'.out _).mono ?_;rintro e w' ⟨rfl,x,rfl⟩)
        go_roundw
        case rel=>exact ⟨k + 1,hlt,congrArg (Value.int .i64) a6.out,hs2,_,rfl⟩
        case measure=>exact step_less k gn hlt a6.out
      ·obtain rfl:k = gn:=by omega
       have hs2:=Lib.hid (show true = R by rw [← hs.out,List.drop_of_length_le (by rw [hgn'.out];exact Nat.le_refl _)];rfl)
       clear hs hlt hk
       go_wp2_with fail
       go_ret
       exact ⟨rb hs2.out,pp hz'.out⟩
end Go.Proofs.YtlmhldcebllckaaGreat
