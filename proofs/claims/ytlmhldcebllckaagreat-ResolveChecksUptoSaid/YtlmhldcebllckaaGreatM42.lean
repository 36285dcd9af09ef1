/-
  WHAT IS PROVED HERE: a part of the proof (made narrower and merged by program; the parts: JA Jd).
-/
import Derived.Test.YtlmhldcebllckaaGreatRows
import Derived.WalkKit
import Derived.Lib.Hide
import Derived.WalkSpells
import Derived.WalkLawsBesides
import Derived.Laws.EntriesVeiled
import Derived.Shelf.Abstract
import Derived.Test.YtlmhldcebllckaaGreatM33
import Derived.Test.YtlmhldcebllckaaGreatM39
import Derived.Test.YtlmhldcebllckaaGreatM37
import Derived.Test.YtlmhldcebllckaaGreatM40
import Derived.Test.YtlmhldcebllckaaGreatM41
namespace Go.Proofs.YtlmhldcebllckaaGreat
open Go.RowKit
set_option maxRecDepth 100000 in
set_option maxHeartbeats 8000000 in
theorem ref_width (a:Int) (w:World) :
  Kp Tryz.prog w 117 #[.int .i64 a] (.bool (decide (0 < a) && decide (a < 129))):=by
 intro y0
 obtain ⟨V,hV⟩:∃ V,plus w y0 = V:=⟨_,rfl⟩
 rw [hV] at ⊢
 clear hV
 obtain ⟨R,hR⟩:∃ R,(decide (0 < a) && decide (a < 129)) = R:=⟨_,rfl⟩
 rw [hR]
 by_cases q1:0 < a
 case neg =>
  have hF:=Lib.hid (show (false) = R by first | exact hR | (rw [← hR];simp [q1]))
  clear hR
  go_enter Tryz.func117,Tryz.ntmps117
  go_wp2_with fail
  go_ret
  exact ⟨rb hF.out,alloc0_plus _⟩
 case pos =>
  by_cases q2:a < 129
  case neg =>
   have hF:=Lib.hid (show (false) = R by first | exact hR | (rw [← hR];simp [q1,q2]))
   clear hR
   go_enter Tryz.func117,Tryz.ntmps117
   go_wp2_with fail
   go_ret
   exact ⟨rb hF.out,alloc0_plus _⟩
  case pos =>
   have hF:=Lib.hid (show (true) = R by first | exact hR | (rw [← hR];simp [q1,q2]))
   clear hR
   go_enter Tryz.func117,Tryz.ntmps117
   go_wp2_with fail
   go_ret
   exact ⟨rb hF.out,alloc0_plus _⟩
set_option maxRecDepth 100000 in
set_option maxHeartbeats 8000000 in
theorem rlit_of (a0:Int) (a1:Int) (a2:Int) (s0 s1:Bool) (w:World)
  (h0:Kp Tryz.prog w 117 #[.int .i64 a0] (.bool s0))
  (h1:Kp Tryz.prog w 150 #[.agg #[.int .u64 a1,.int .u64 a2],.int .i64 a0] (.bool s1)) :
  Kp Tryz.prog w 123 #[.agg #[.int .i64 a0,.int .u64 a1,.int .u64 a2]] (.bool ((a0 == 0) || (s0 && s1))):=by
 intro y0
 have h0:=h0.up y0
 have h1:=h1.up y0
 obtain ⟨V,hV⟩:∃ V,plus w y0 = V:=⟨_,rfl⟩
 rw [hV] at h0 h1 ⊢
 clear hV
 obtain ⟨R,hR⟩:∃ R,((a0 == 0) || (s0 && s1)) = R:=⟨_,rfl⟩
 rw [hR]
 by_cases q1:(a0 == 0) = true
 case neg =>
  have q1:(a0 == 0) = false:=by simpa using q1
  cases s0
  case false =>
   have hF:=Lib.hid (show (false) = R by first | exact hR | (rw [← hR];simp [q1]))
   clear hR
   clear h1
   have h0:=Lib.hid h0
   go_enter Tryz.func123,Tryz.ntmps123
   go_wp2_with fail
   obtain ⟨W,yy,hW,⟨z,hz⟩,cb0⟩:=box1n V _ 66
   rw [hW]
   have c0_0:=cb0 0 _ rfl
   have c0_1:=cb0 1 _ rfl
   have c0_2:=cb0 2 _ rfl
   have q0c:=Lib.hid (kp_at hz h0.out)
   have hz':=Lib.hid hz
   clear hW hz cb0
   refine (q0c.out _).mono ?_
   rintro r w' ⟨rfl,x1,rfl⟩
   go_wp2_with fail
   go_ret
   exact ⟨rb hF.out,pp hz'.out⟩
  case true =>
   cases s1
   case false =>
    have hF:=Lib.hid (show (false) = R by first | exact hR | (rw [← hR];simp [q1]))
    clear hR
    have h0:=Lib.hid h0
    have h1:=Lib.hid h1
    go_enter Tryz.func123,Tryz.ntmps123
    go_wp2_with fail
    obtain ⟨W,yy,hW,⟨z,hz⟩,cb0⟩:=box1n V _ 66
    rw [hW]
    have c0_0:=cb0 0 _ rfl
    have c0_1:=cb0 1 _ rfl
    have c0_2:=cb0 2 _ rfl
    have q0c:=Lib.hid (kp_at hz h0.out)
    have q1c:=Lib.hid (kp_at hz h1.out)
    have hz':=Lib.hid hz
    clear hW hz cb0
    refine (q0c.out _).mono ?_
    rintro r w' ⟨rfl,x1,rfl⟩
    go_wp2_with (first | (go_at_call 150;with_reducible refine (q1c.out _).mono ?_;rintro r w' ⟨rfl,x,rfl⟩))
    go_ret
    exact ⟨rb hF.out,pp hz'.out⟩
   case true =>
    have hF:=Lib.hid (show (true) = R by first | exact hR | (rw [← hR];simp [q1]))
    clear hR
    have h0:=Lib.hid h0
    have h1:=Lib.hid h1
    go_enter Tryz.func123,Tryz.ntmps123
    go_wp2_with fail
    obtain ⟨W,yy,hW,⟨z,hz⟩,cb0⟩:=box1n V _ 66
    rw [hW]
    have c0_0:=cb0 0 _ rfl
    have c0_1:=cb0 1 _ rfl
    have c0_2:=cb0 2 _ rfl
    have q0c:=Lib.hid (kp_at hz h0.out)
    have q1c:=Lib.hid (kp_at hz h1.out)
    have hz':=Lib.hid hz
    clear hW hz cb0
    refine (q0c.out _).mono ?_
    rintro r w' ⟨rfl,x1,rfl⟩
    go_wp2_with (first | (go_at_call 150;with_reducible refine (q1c.out _).mono ?_;rintro r w' ⟨rfl,x,rfl⟩))
    go_ret
    exact ⟨rb hF.out,pp hz'.out⟩
 case pos =>
  have hF:=Lib.hid (show (true) = R by first | exact hR | (rw [← hR];simp [q1]))
  clear hR
  clear h0 h1
  go_enter Tryz.func123,Tryz.ntmps123
  go_wp2_with fail
  go_ret
  exact ⟨rb hF.out,alloc1_plus _ _⟩
set_option maxRecDepth 100000 in
set_option maxHeartbeats 8000000 in
theorem rtarget_of (s:ByteArray) (s0:Bool) (w:World)
  (h0:Kp Tryz.prog w 75 #[.string s] (.bool s0)) :
  Kp Tryz.prog w 118 #[.string s] (.bool (s0 || ((s.toList == [97,99,99,101,112,116]) || (s.toList == [114,101,106,101,99,116])))):=by
 intro y0
 have h0:=h0.up y0
 obtain ⟨V,hV⟩:∃ V,plus w y0 = V:=⟨_,rfl⟩
 rw [hV] at h0 ⊢
 clear hV
 obtain ⟨R,hR⟩:∃ R,(s0 || ((s.toList == [97,99,99,101,112,116]) || (s.toList == [114,101,106,101,99,116]))) = R:=⟨_,rfl⟩
 rw [hR]
 cases s0
 case false =>
  by_cases q1:(s.toList == [97,99,99,101,112,116]) = true
  case neg =>
   have q1:(s.toList == [97,99,99,101,112,116]) = false:=by simpa using q1
   by_cases q2:(s.toList == [114,101,106,101,99,116]) = true
   case neg =>
    have q2:(s.toList == [114,101,106,101,99,116]) = false:=by simpa using q2
    have hF:=Lib.hid (show (false) = R by first | exact hR | (rw [← hR];simp [q1,q2]))
    clear hR
    have h0:=Lib.hid h0
    go_enter Tryz.func118,Tryz.ntmps118
    go_wp2_with fail
    have q0c:=Lib.hid h0.out.pure
    refine (calls_self h0.out).mono ?_
    rintro r w' ⟨rfl,x1,rfl⟩
    go_wp2_with fail
    go_ret
    exact ⟨rb hF.out,_,rfl⟩
   case pos =>
    have hF:=Lib.hid (show (true) = R by first | exact hR | (rw [← hR];simp [q1,q2]))
    clear hR
    have h0:=Lib.hid h0
    go_enter Tryz.func118,Tryz.ntmps118
    go_wp2_with fail
    have q0c:=Lib.hid h0.out.pure
    refine (calls_self h0.out).mono ?_
    rintro r w' ⟨rfl,x1,rfl⟩
    go_wp2_with fail
    go_ret
    exact ⟨rb hF.out,_,rfl⟩
  case pos =>
   have hF:=Lib.hid (show (true) = R by first | exact hR | (rw [← hR];simp [q1]))
   clear hR
   have h0:=Lib.hid h0
   go_enter Tryz.func118,Tryz.ntmps118
   go_wp2_with fail
   have q0c:=Lib.hid h0.out.pure
   refine (calls_self h0.out).mono ?_
   rintro r w' ⟨rfl,x1,rfl⟩
   go_wp2_with fail
   go_ret
   exact ⟨rb hF.out,_,rfl⟩
 case true =>
  have hF:=Lib.hid (show (true) = R by first | exact hR | (rw [← hR];simp))
  clear hR
  have h0:=Lib.hid h0
  go_enter Tryz.func118,Tryz.ntmps118
  go_wp2_with fail
  have q0c:=Lib.hid h0.out.pure
  refine (calls_self h0.out).mono ?_
  rintro r w' ⟨rfl,x1,rfl⟩
  go_wp2_with fail
  go_ret
  exact ⟨rb hF.out,_,rfl⟩
theorem rname_in (s:ByteArray) (w:World):Kp Tryz.prog w 75 #[.string s] (.bool (nameB s)):=Kp.all (ref_name s)
theorem rwidth_in (a:Int) (w:World):Kp Tryz.prog w 117 #[.int .i64 a] (.bool (widthB a)):=(ref_width a w).eqv (by
 unfold widthB
 have h1:decide (0 < a) = decide (1 ≤ a):=by rw [decide_eq_decide];omega
 have h2:decide (a < 129) = decide (a ≤ 128):=by rw [decide_eq_decide];omega
 rw [h1,h2])
theorem rlit_in (t:Lt) (w:World) (h:t.Ok):Kp Tryz.prog w 123 #[.agg t.cells.toArray] (.bool (ltB t)) :=
 rlit_of t.w t.h t.l _ _ w (rwidth_in t.w w) (Kp.all (by rw [Lt.nv_eq h];exact ref_fits t.n t.w (Lt.n_lt h)))
theorem rtarget_in (s:ByteArray) (w:World):Kp Tryz.prog w 118 #[.string s] (.bool (tgtB s)):=(rtarget_of s _ w (rname_in s w)).eqv (by
 unfold tgtB
 cases nameB s <;> simp)
set_option maxRecDepth 100000 in
set_option maxHeartbeats 8000000 in
theorem rnames (K:ByteArray → Prop) (w:World) (A:Sl ByteArray) (hA:A.In w 1 strCells K) (hl:A.l.length ≤ 1048576)
  (hf:∀ x ∈ A.l,Kp Tryz.prog w 75 #[.string x] (.bool (nameB x))) :
  Kp Tryz.prog w 80 #[A.v] (.bool (A.l.all nameB)):=by
 intro y0
 obtain ⟨p,cap,l⟩:=A
 simp only [Sl.v] at hl hf ⊢
 obtain ⟨n,hn⟩:∃ n,l.length = n:=⟨_,rfl⟩
 have hA:=hA.row.plus y0
 have hf:=fun x hx=>((hf x hx).up y0).pure
 obtain ⟨W,hW⟩:∃ W,plus w y0 = W:=⟨_,rfl⟩
 rw [hW] at hA ⊢
 simp only [hW] at hf 
 rw [hn] at hl
 clear hW
 obtain ⟨R,hR⟩:∃ R,l.all nameB = R:=⟨_,rfl⟩
 have h0:(l.drop 0).all nameB = R:=hR
 rw [hn,hR]
 have hA':=Lib.hid hA
 have hn':=Lib.hid hn
 have hl':=Lib.hid hl
 have h0':=Lib.hid h0
 have hf':=Lib.hid hf
 clear hA hl hn hR h0 hf 
 go_enter Tryz.func80,Tryz.ntmps80
 go_wp2
 go_loopw [3] (fun iv wr=>∃ k:Nat,k ≤ n ∧ iv = .int .i64 (k:Int) ∧ Hid ((l.drop k).all nameB = R) ∧ ∃ y,wr = plus W y) (fun iv _=>n - (intOf iv).toNat)
 case atStart=>exact ⟨0,Nat.zero_le _,rfl,h0',⟨#[],W.drawn⟩,(plus_self W).symm⟩
 case round =>
  obtain ⟨k,hk,rfl,hs,y,rfl⟩:=hrel
  by_cases hlt:k < n
  ·obtain ⟨a,ha⟩:∃ s,l[k]? = some s:=⟨l[k]'(by rw [hn'.out];exact hlt),List.getElem?_eq_getElem _⟩
   obtain ⟨pa,rfl,hc⟩:=hA'.out k a ha
   have hmem:=List.mem_of_getElem? ha
   have hs1:(nameB a && (l.drop (k + 1)).all nameB) = R:=by rw [← all_drop nameB l k a ha];exact hs.out
   have a6:=Lib.hid (wr_succ k n hlt hl'.out)
   have q1:=hf'.out a hmem
   obtain ⟨Z,hZ⟩:∃ Z,nameB a = Z:=⟨_,rfl⟩
   rw [hZ] at q1 hs1
   have d0:=fun y=>(hc.plus y).c0 _ rfl
   simp only [Nat.mul_one] at d0
   have q1':=Lib.hid q1
   clear q1 hZ hc ha hs hmem
   cases Z with
   | true =>
    have hs2:=Lib.hid (show (l.drop (k + 1)).all nameB = R by rw [← hs1,Bool.true_and])
    clear hs1
    go_wp2_with (go_at_call 75;refine (q1'.out _).mono ?_;rintro e w' ⟨rfl,x,rfl⟩)
    go_roundw
    case rel=>exact ⟨k + 1,hlt,congrArg (Value.int .i64) a6.out,hs2,x,rfl⟩
    case measure=>exact step_less k n hlt a6.out
   | false =>
    have hs2:=Lib.hid (show false = R by rw [← hs1,Bool.false_and])
    clear hs1
    go_wp2_with (go_at_call 75;refine (q1'.out _).mono ?_;rintro e w' ⟨rfl,x,rfl⟩)
    go_ret
    exact ⟨rb hs2.out,x,rfl⟩
  ·obtain rfl:k = n:=by omega
   have hs2:=Lib.hid (show true = R by
    rw [← hs.out,List.drop_of_length_le (by rw [hn'.out];exact Nat.le_refl _)];rfl)
   clear hs hlt hk
   go_wp2
   go_ret
   exact ⟨rb hs2.out,y,rfl⟩
set_option maxRecDepth 100000 in
set_option maxHeartbeats 8000000 in
theorem rfields (K:Fd → Prop) (w:World) (A:Sl Fd) (hA:A.In w 2 Fd.cells K) (hl:A.l.length ≤ 1048576)
  (hf:∀ x ∈ A.l,Kp Tryz.prog w 75 #[.string x.name] (.bool (nameB x.name))) (hg:∀ x ∈ A.l,Kp Tryz.prog w 117 #[.int .i64 x.w] (.bool (widthB x.w))) :
  Kp Tryz.prog w 76 #[A.v] (.bool (A.l.all fdB)):=by
 intro y0
 obtain ⟨p,cap,l⟩:=A
 simp only [Sl.v] at hl hf hg ⊢
 obtain ⟨n,hn⟩:∃ n,l.length = n:=⟨_,rfl⟩
 have hA:=hA.row.plus y0
 have hf:=fun x hx=>((hf x hx).up y0).pure
 have hg:=fun x hx=>((hg x hx).up y0).pure
 obtain ⟨W,hW⟩:∃ W,plus w y0 = W:=⟨_,rfl⟩
 rw [hW] at hA ⊢
 simp only [hW] at hf hg 
 rw [hn] at hl
 clear hW
 obtain ⟨R,hR⟩:∃ R,l.all fdB = R:=⟨_,rfl⟩
 have h0:(l.drop 0).all fdB = R:=hR
 rw [hn,hR]
 have hA':=Lib.hid hA
 have hn':=Lib.hid hn
 have hl':=Lib.hid hl
 have h0':=Lib.hid h0
 have hf':=Lib.hid hf
 have hg':=Lib.hid hg
 clear hA hl hn hR h0 hf hg 
 go_enter Tryz.func76,Tryz.ntmps76
 go_wp2
 go_loopw [3] (fun iv wr=>∃ k:Nat,k ≤ n ∧ iv = .int .i64 (k:Int) ∧ Hid ((l.drop k).all fdB = R) ∧ ∃ y,wr = plus W y) (fun iv _=>n - (intOf iv).toNat)
 case atStart=>exact ⟨0,Nat.zero_le _,rfl,h0',⟨#[],W.drawn⟩,(plus_self W).symm⟩
 case round =>
  obtain ⟨k,hk,rfl,hs,y,rfl⟩:=hrel
  by_cases hlt:k < n
  ·obtain ⟨a,ha⟩:∃ s,l[k]? = some s:=⟨l[k]'(by rw [hn'.out];exact hlt),List.getElem?_eq_getElem _⟩
   obtain ⟨pa,rfl,hc⟩:=hA'.out k a ha
   have hmem:=List.mem_of_getElem? ha
   have hs1:(fdB a && (l.drop (k + 1)).all fdB) = R:=by rw [← all_drop fdB l k a ha];exact hs.out
   have a6:=Lib.hid (wr_succ k n hlt hl'.out)
   have q1:=hf'.out a hmem
   have q2:=hg'.out a hmem
   obtain ⟨an,aw⟩:=a
   obtain ⟨Z,hZ⟩:∃ Z,nameB an = Z:=⟨_,rfl⟩
   obtain ⟨Y,hY⟩:∃ Y,widthB aw = Y:=⟨_,rfl⟩
   simp only [fdB,hZ,hY] at q1 q2 hs1
   have d0:=fun y=>(hc.plus y).c0 _ rfl
   have d1:=fun y=>(hc.plus y).cs 0 _ rfl
   simp only at d0 d1
   have q1':=Lib.hid q1
   have q2':=Lib.hid q2
   clear q1 q2 hZ hY hc ha hs hmem
   cases Z with
   | false =>
    have hs2:=Lib.hid (show false = R by rw [← hs1];simp)
    clear hs1
    go_wp2_with (first | (go_at_call 75;refine (q1'.out _).mono ?_;rintro e w' ⟨rfl,x,rfl⟩) | (go_at_call 117;refine (q2'.out _).mono ?_;rintro e w' ⟨rfl,x,rfl⟩))
    go_ret
    exact ⟨rb hs2.out,x,rfl⟩
   | true =>
    cases Y with
    | false =>
     have hs2:=Lib.hid (show false = R by rw [← hs1];simp)
     clear hs1
     go_wp2_with (first | (go_at_call 75;refine (q1'.out _).mono ?_;rintro e w' ⟨rfl,x,rfl⟩) | (go_at_call 117;refine (q2'.out _).mono ?_;rintro e w' ⟨rfl,x,rfl⟩))
     go_ret
     exact ⟨rb hs2.out,x,rfl⟩
    | true =>
     have hs2:=Lib.hid (show (l.drop (k + 1)).all fdB = R by rw [← hs1];simp)
     clear hs1
     go_wp2_with (first | (go_at_call 75;refine (q1'.out _).mono ?_;rintro e w' ⟨rfl,x,rfl⟩) | (go_at_call 117;refine (q2'.out _).mono ?_;rintro e w' ⟨rfl,x,rfl⟩))
     go_roundw
     case rel=>exact ⟨k + 1,hlt,congrArg (Value.int .i64) a6.out,hs2,x,rfl⟩
     case measure=>exact step_less k n hlt a6.out
  ·obtain rfl:k = n:=by omega
   have hs2:=Lib.hid (show true = R by
    rw [← hs.out,List.drop_of_length_le (by rw [hn'.out];exact Nat.le_refl _)];rfl)
   clear hs hlt hk
   go_wp2
   go_ret
   exact ⟨rb hs2.out,y,rfl⟩
theorem rnames_in (L:Sl ByteArray) (w:World) (h:L.In w 1 strCells strOk) (hz:L.size strSize ≤ 1048576):Kp Tryz.prog w 80 #[L.v] (.bool (L.l.all nameB)) :=
 rnames _ w L h (strSize_le _ hz) (fun x _=>rname_in x w)
theorem rfields_in (L:Sl Fd) (w:World) (h:L.In w 2 Fd.cells (Fd.In w)) (hz:L.size Fd.sz ≤ 1048576):Kp Tryz.prog w 76 #[L.v] (.bool (L.l.all fdB)) :=
 rfields _ w L h (len_le Fd.sz Fd.sz_pos _ hz) (fun x _=>rname_in x.name w) (fun x _=>rwidth_in x.w w)
set_option maxRecDepth 100000 in
set_option maxHeartbeats 8000000 in
theorem rexprs (may:Ex → Bool) (K:Ex → Prop) (w:World) (A:Sl Ex) (hA:A.In w 9 Ex.cells K) (hl:A.l.length ≤ 1048576)
  (hf:∀ x ∈ A.l,Kp Tryz.prog w 122 #[.agg x.cells.toArray] (.bool (may x))) :
  Kp Tryz.prog w 119 #[A.v] (.bool (A.l.all may)):=by
 intro y0
 obtain ⟨p,cap,l⟩:=A
 simp only [Sl.v] at hl hf ⊢
 obtain ⟨n,hn⟩:∃ n,l.length = n:=⟨_,rfl⟩
 have hA:=hA.row.plus y0
 have hf:=fun x hx=>((hf x hx).up y0).pure
 obtain ⟨W,hW⟩:∃ W,plus w y0 = W:=⟨_,rfl⟩
 rw [hW] at hA ⊢
 simp only [hW] at hf 
 rw [hn] at hl
 clear hW
 obtain ⟨R,hR⟩:∃ R,l.all may = R:=⟨_,rfl⟩
 have h0:(l.drop 0).all may = R:=hR
 rw [hn,hR]
 have hA':=Lib.hid hA
 have hn':=Lib.hid hn
 have hl':=Lib.hid hl
 have h0':=Lib.hid h0
 have hf':=Lib.hid hf
 clear hA hl hn hR h0 hf 
 go_enter Tryz.func119,Tryz.ntmps119
 go_wp2
 go_loopw [3] (fun iv wr=>∃ k:Nat,k ≤ n ∧ iv = .int .i64 (k:Int) ∧ Hid ((l.drop k).all may = R) ∧ ∃ y,wr = plus W y) (fun iv _=>n - (intOf iv).toNat)
 case atStart=>exact ⟨0,Nat.zero_le _,rfl,h0',⟨#[],W.drawn⟩,(plus_self W).symm⟩
 case round =>
  obtain ⟨k,hk,rfl,hs,y,rfl⟩:=hrel
  by_cases hlt:k < n
  ·obtain ⟨a,ha⟩:∃ s,l[k]? = some s:=⟨l[k]'(by rw [hn'.out];exact hlt),List.getElem?_eq_getElem _⟩
   obtain ⟨pa,rfl,hc⟩:=hA'.out k a ha
   have hmem:=List.mem_of_getElem? ha
   have hs1:(may a && (l.drop (k + 1)).all may) = R:=by rw [← all_drop may l k a ha];exact hs.out
   have a6:=Lib.hid (wr_succ k n hlt hl'.out)
   have q1:=hf'.out a hmem
   obtain ⟨Z,hZ⟩:∃ Z,may a = Z:=⟨_,rfl⟩
   rw [hZ] at q1 hs1
   obtain ⟨eop,⟨elw,elh,ell⟩,ehd,enm,eeh,eel,ep,ecap,eargs⟩:=a
   have q1:PureIn Tryz.prog W 122 #[.agg #[.int .u8 eop,.int .i64 elw,.int .u64 elh,.int .u64 ell,.string ehd,.string enm,.int .i64 eeh,.int .i64 eel,.slice ep eargs.length ecap]] (.bool Z):=q1
   have d0:=fun y=>(hc.plus y).c0 _ rfl
   have d1:=fun y=>(hc.plus y).cs 0 _ rfl
   have d2:=fun y=>(hc.plus y).cs 1 _ rfl
   have d3:=fun y=>(hc.plus y).cs 2 _ rfl
   have d4:=fun y=>(hc.plus y).cs 3 _ rfl
   have d5:=fun y=>(hc.plus y).cs 4 _ rfl
   have d6:=fun y=>(hc.plus y).cs 5 _ rfl
   have d7:=fun y=>(hc.plus y).cs 6 _ rfl
   have d8:=fun y=>(hc.plus y).cs 7 _ rfl
   simp only [Ex.op,Ex.lit,Ex.head,Ex.name,Ex.hi,Ex.lo,Ex.p,Ex.cap,Ex.args] at d0 d1 d2 d3 d4 d5 d6 d7 d8
   have q1':=Lib.hid q1
   clear q1 hZ hc ha hs hmem
   cases Z with
   | true =>
    have hs2:=Lib.hid (show (l.drop (k + 1)).all may = R by rw [← hs1,Bool.true_and])
    clear hs1
    go_wp2_with (go_at_call 122;refine (q1'.out _).mono ?_;rintro e w' ⟨rfl,x,rfl⟩)
    go_roundw
    case rel=>exact ⟨k + 1,hlt,congrArg (Value.int .i64) a6.out,hs2,x,rfl⟩
    case measure=>exact step_less k n hlt a6.out
   | false =>
    have hs2:=Lib.hid (show false = R by rw [← hs1,Bool.false_and])
    clear hs1
    go_wp2_with (go_at_call 122;refine (q1'.out _).mono ?_;rintro e w' ⟨rfl,x,rfl⟩)
    go_ret
    exact ⟨rb hs2.out,x,rfl⟩
  ·obtain rfl:k = n:=by omega
   have hs2:=Lib.hid (show true = R by
    rw [← hs.out,List.drop_of_length_le (by rw [hn'.out];exact Nat.le_refl _)];rfl)
   clear hs hlt hk
   go_wp2
   go_ret
   exact ⟨rb hs2.out,y,rfl⟩
def Ex.one (e:Ex):Bool:=xIs e.op && (litB (xLit e.op) e.lit && (nmB e.head (xHead e.op) && (nmB e.name (xName e.op) && (endB e.hi e.lo (xSlice e.op) && ((e.args.length:Int) == xArgs e.op)))))
theorem nm0 (s:ByteArray):nmB s 0 = (s.toList == []):=by unfold nmB;cases (s.toList == []) <;> simp
theorem nm1 (s:ByteArray):nmB s 1 = (!(s.toList == []) && nameB s):=by unfold nmB;cases (s.toList == []) <;> simp
theorem lit0 (t:Lt):litB false t = ((t.w == 0) && ((t.h == 0) && (t.l == 0))):=rfl
theorem lit1 (t:Lt):litB true t = ltB t:=rfl
theorem end0 (a b:Int):endB a b false = ((a == 0) && (b == 0)):=rfl
theorem end1 (a b:Int):endB a b true = (decide (0 ≤ b) && (decide (b ≤ a) && decide (a ≤ 127))):=by
 unfold endB
 rw [if_pos rfl,show decide (a < 128) = decide (a ≤ 127) by rw [decide_eq_decide];omega]
theorem rone_in (e:Ex) (w:World) (h:e.In w):Kp Tryz.prog w 162 #[.agg e.cells.toArray] (.bool e.one):=by
 obtain ⟨op,⟨lw,lh,ll⟩,hd,nm,eh,el,p,cap,args⟩:=e
 obtain ⟨_,hop,lit,_,_,_,_,_,_,_,_⟩:=h
 have kh:=rname_in hd w
 have kn:=rname_in nm w
 have kl:=rlit_in ⟨lw,lh,ll⟩ w lit
 have hw:0 ≤ op:=by
  simp [Lit.wf,IntKind.min,IntKind.max,IntKind.signed,IntKind.bits,Ex.op] at hop
  omega
 unfold Ex.one
 simp only [Ex.op,Ex.lit,Ex.head,Ex.name,Ex.hi,Ex.lo,Ex.args]
 by_cases c0:op = 0
 ·subst c0
  exact (one_0 lw lh ll hd nm eh el p args.length cap w).eqv (by simp [xIs])
 by_cases c1:op = 1
 ·subst c1
  refine (one_1 lw lh ll hd nm eh el p args.length cap _ w kl).eqv ?_
  rw [show xLit 1 = true from rfl,show xHead 1 = 0 from rfl,show xName 1 = 0 from rfl,show xSlice 1 = false from rfl,show xArgs 1 = 0 from rfl,show xIs 1 = true from rfl,nm0,nm0,lit1,end0]
  simp only [bne]
  cases ltB ⟨lw,lh,ll⟩ <;> cases (hd.toList == []) <;> cases (nm.toList == []) <;> cases ((eh == 0) && (el == 0)) <;> cases ((args.length:Int) == 0) <;> rfl
 by_cases c2:op = 2
 ·subst c2
  refine (one_2 lw lh ll hd nm eh el p args.length cap _ _ w kh kn).eqv ?_
  rw [show xLit 2 = false from rfl,show xHead 2 = 1 from rfl,show xName 2 = 1 from rfl,show xSlice 2 = false from rfl,show xArgs 2 = 0 from rfl,show xIs 2 = true from rfl,nm1,nm1,lit0,end0]
  simp only [bne]
  cases ((lw == 0) && ((lh == 0) && (ll == 0))) <;> cases (!(hd.toList == []) && nameB hd) <;> cases (!(nm.toList == []) && nameB nm) <;> cases ((eh == 0) && (el == 0)) <;> cases ((args.length:Int) == 0) <;> rfl
 by_cases c3:op = 3
 ·subst c3
  refine (one_3 lw lh ll hd nm eh el p args.length cap _ w kn).eqv ?_
  rw [show xLit 3 = false from rfl,show xHead 3 = 0 from rfl,show xName 3 = 1 from rfl,show xSlice 3 = false from rfl,show xArgs 3 = 0 from rfl,show xIs 3 = true from rfl,nm0,nm1,lit0,end0]
  simp only [bne]
  cases ((lw == 0) && ((lh == 0) && (ll == 0))) <;> cases (hd.toList == []) <;> cases (!(nm.toList == []) && nameB nm) <;> cases ((eh == 0) && (el == 0)) <;> cases ((args.length:Int) == 0) <;> rfl
 by_cases c4:op = 4
 ·subst c4
  refine (one_4 lw lh ll hd nm eh el p args.length cap _ w kn).eqv ?_
  rw [show xLit 4 = false from rfl,show xHead 4 = 0 from rfl,show xName 4 = 1 from rfl,show xSlice 4 = false from rfl,show xArgs 4 = 0 from rfl,show xIs 4 = true from rfl,nm0,nm1,lit0,end0]
  simp only [bne]
  cases ((lw == 0) && ((lh == 0) && (ll == 0))) <;> cases (hd.toList == []) <;> cases (!(nm.toList == []) && nameB nm) <;> cases ((eh == 0) && (el == 0)) <;> cases ((args.length:Int) == 0) <;> rfl
 by_cases c5:op = 5
 ·subst c5
  refine (one_5 lw lh ll hd nm eh el p args.length cap w).eqv ?_
  rw [show xLit 5 = false from rfl,show xHead 5 = 0 from rfl,show xName 5 = 0 from rfl,show xSlice 5 = false from rfl,show xArgs 5 = 0 from rfl,show xIs 5 = true from rfl,nm0,nm0,lit0,end0]
  simp only [bne]
  cases ((lw == 0) && ((lh == 0) && (ll == 0))) <;> cases (hd.toList == []) <;> cases (nm.toList == []) <;> cases ((eh == 0) && (el == 0)) <;> cases ((args.length:Int) == 0) <;> rfl
 by_cases c6:op = 6
 ·subst c6
  refine (one_6 lw lh ll hd nm eh el p args.length cap _ w kh).eqv ?_
  rw [show xLit 6 = false from rfl,show xHead 6 = 1 from rfl,show xName 6 = 0 from rfl,show xSlice 6 = false from rfl,show xArgs 6 = 0 from rfl,show xIs 6 = true from rfl,nm1,nm0,lit0,end0]
  simp only [bne]
  cases ((lw == 0) && ((lh == 0) && (ll == 0))) <;> cases (!(hd.toList == []) && nameB hd) <;> cases (nm.toList == []) <;> cases ((eh == 0) && (el == 0)) <;> cases ((args.length:Int) == 0) <;> rfl
 by_cases c7:op = 7
 ·subst c7
  refine (one_7 lw lh ll hd nm eh el p args.length cap w).eqv ?_
  rw [show xLit 7 = false from rfl,show xHead 7 = 0 from rfl,show xName 7 = 0 from rfl,show xSlice 7 = false from rfl,show xArgs 7 = 1 from rfl,show xIs 7 = true from rfl,nm0,nm0,lit0,end0]
  simp only [bne]
  cases ((lw == 0) && ((lh == 0) && (ll == 0))) <;> cases (hd.toList == []) <;> cases (nm.toList == []) <;> cases ((eh == 0) && (el == 0)) <;> cases ((args.length:Int) == 1) <;> rfl
 by_cases c8:op = 8
 ·subst c8
  refine (one_8 lw lh ll hd nm eh el p args.length cap w).eqv ?_
  rw [show xLit 8 = false from rfl,show xHead 8 = 0 from rfl,show xName 8 = 0 from rfl,show xSlice 8 = false from rfl,show xArgs 8 = 1 from rfl,show xIs 8 = true from rfl,nm0,nm0,lit0,end0]
  simp only [bne]
  cases ((lw == 0) && ((lh == 0) && (ll == 0))) <;> cases (hd.toList == []) <;> cases (nm.toList == []) <;> cases ((eh == 0) && (el == 0)) <;> cases ((args.length:Int) == 1) <;> rfl
 by_cases c9:op = 9
 ·subst c9
  refine (one_9 lw lh ll hd nm eh el p args.length cap w).eqv ?_
  rw [show xLit 9 = false from rfl,show xHead 9 = 0 from rfl,show xName 9 = 0 from rfl,show xSlice 9 = false from rfl,show xArgs 9 = 1 from rfl,show xIs 9 = true from rfl,nm0,nm0,lit0,end0]
  simp only [bne]
  cases ((lw == 0) && ((lh == 0) && (ll == 0))) <;> cases (hd.toList == []) <;> cases (nm.toList == []) <;> cases ((eh == 0) && (el == 0)) <;> cases ((args.length:Int) == 1) <;> rfl
 by_cases c10:op = 10
 ·subst c10
  refine (one_10 lw lh ll hd nm eh el p args.length cap w).eqv ?_
  rw [show xLit 10 = false from rfl,show xHead 10 = 0 from rfl,show xName 10 = 0 from rfl,show xSlice 10 = true from rfl,show xArgs 10 = 1 from rfl,show xIs 10 = true from rfl,nm0,nm0,lit0,end1]
  simp only [bne]
  cases ((lw == 0) && ((lh == 0) && (ll == 0))) <;> cases (hd.toList == []) <;> cases (nm.toList == []) <;> cases (decide (0 ≤ el) && (decide (el ≤ eh) && decide (eh ≤ 127))) <;> cases ((args.length:Int) == 1) <;> rfl
 by_cases c11:op ≤ 26
 ·refine (one_11 op lw lh ll hd nm eh el p args.length cap w ⟨by omega,c11⟩).eqv ?_
  rw [show xLit op = false by unfold xLit;simp;omega,show xHead op = 0 by unfold xHead;rw [if_neg (by omega)],show xName op = 0 by unfold xName;rw [if_neg (by omega)],show xSlice op = false by unfold xSlice;simp;omega,
   show xArgs op = 2 by unfold xArgs;rw [if_neg (by omega),if_pos (by omega)],show xIs op = true by unfold xIs;exact decide_eq_true (by omega),nm0,nm0,lit0,end0]
  simp only [bne]
  cases ((lw == 0) && ((lh == 0) && (ll == 0))) <;> cases (hd.toList == []) <;> cases (nm.toList == []) <;> cases ((eh == 0) && (el == 0)) <;> cases ((args.length:Int) == 2) <;> rfl
 ·refine (one_27 op lw lh ll hd nm eh el p args.length cap w (by omega)).eqv ?_
  rw [show xIs op = false by unfold xIs;exact decide_eq_false (by omega)]
  rfl
end Go.Proofs.YtlmhldcebllckaaGreat
