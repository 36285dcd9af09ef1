/-
  WHAT IS PROVED HERE: a part of the proof (made narrower and merged by program; the parts: Yc Yd).
-/
import Derived.Test.YtbelaghcmgefaaaGreatDoorRows
import Derived.WalkKit
import Derived.Lib.Hide
import Derived.WalkSpells
import Derived.WalkLawsBesides
import Derived.Test.YtbelaghcmgefaaaGreatDoorM41
import Derived.Test.YtbelaghcmgefaaaGreatDoorM36
namespace Go.Proofs.YtbelaghcmgefaaaGreatDoor
open Go.RowKit
theorem fields_step (T0 P I:List UInt8) (nm:ByteArray):bs T0++bs P++(⟨#[98,105,116,60]⟩:ByteArray)++bs I++(⟨#[62,32]⟩:ByteArray)++nm++(⟨#[59,10]⟩:ByteArray) = bs (T0++(P++(([98,105,116,60]++(I++([62,32]++nm.data.toList)))++[59,10]))):=by
 apply ByteArray.ext
 simp
theorem upto_len {α:Type} (f:α → List UInt8) (l:List α) (k:Nat) (n:Nat) (h:(flat f l).length ≤ n):(bs (flat f (l.take k))).size ≤ n:=Nat.le_trans (flat_take_le f l k) h
theorem again_plus {W U:World} {y:Ext} (h:plus W y = U):∀ z,∃ x,plus U z = plus W x:=fun z=>by rw [← h,plus_plus];exact ⟨_,rfl⟩
set_option maxHeartbeats 4000000 in
set_option maxRecDepth 100000 in
theorem rfields_t (d:Nat) (hd:d ≤ 20) (L:Sl Fd) (w:World) (h:L.In w 2 Fd.cells (Fd.In w)) (hz:L.size Fd.sz ≤ 1048576):Kp Tryz.prog w 29 #[L.v,.int .i64 (d:Int)] (.string (bs (flat (Fd.ln d) L.l))):=by
 intro y0
 have hl:=len_le Fd.sz Fd.sz_pos L hz
 have htot:=flat_len (f:=Fd.ln d) (g:=Fd.sz) (C:=1000) L.l (fun x hx=>fdln_len hd (h.kids x hx))
 have hA:=h.row.plus y0
 have hkids:=h.kids
 have hp:=(rpad d (by omega) w).up y0
 have hpl:(bs (padB d)).size ≤ 1000:=by show (padB d).length ≤ 1000;rw [padB_length];omega
 obtain ⟨p,cap,l⟩:=L
 simp only [Sl.v,Sl.size] at hz hl htot hA hkids ⊢
 obtain ⟨n,hn⟩:∃ n,l.length = n:=⟨_,rfl⟩
 obtain ⟨W,hW⟩:∃ W,plus w y0 = W:=⟨_,rfl⟩
 rw [hW] at hA hp ⊢
 clear hW
 rw [hn] at hl ⊢
 obtain ⟨P,hP⟩:∃ P,bs (padB d) = P:=⟨_,rfl⟩
 rw [hP] at hp hpl
 have hA':=Lib.hid hA
 have hkids':=Lib.hid hkids
 have hp':=Lib.hid hp
 have hn':=Lib.hid hn
 have hl':=Lib.hid hl
 have hz':=Lib.hid hz
 have hP':=Lib.hid hP
 have htot':=Lib.hid (Nat.le_trans htot (show 1000 * (l.map Fd.sz).sum ≤ 140737488355328 by omega))
 clear hA hkids hp hn hl htot hz hd h hP
 go_enter Tryz.func29,Tryz.ntmps29
 go_wp2
 go_loopw [5,6] (fun sv iv wr=>∃ k:Nat,k ≤ n ∧ iv = .int .i64 (k:Int) ∧ sv = .string (bs (flat (Fd.ln d) (l.take k))) ∧ ∃ y,wr = plus W y) (fun _ iv _=>n - (intOf iv).toNat)
 case atStart=>exact ⟨0,Nat.zero_le _,rfl,rfl,⟨#[],W.drawn⟩,(plus_self W).symm⟩
 case round =>
  obtain ⟨k,hk,rfl,rfl,y,rfl⟩:=hrel
  by_cases hlt:k < n
  ·obtain ⟨a,ha⟩:∃ s,l[k]? = some s:=⟨l[k]'(by rw [hn'.out];exact hlt),List.getElem?_eq_getElem _⟩
   obtain ⟨pa,rfl,hc⟩:=hA'.out k a ha
   have hmem:=List.mem_of_getElem? ha
   have a6:=Lib.hid (wr_succ k n hlt hl'.out)
   have wf:=(hkids'.out a hmem).w
   have l2:a.name.size ≤ 1048576:=by
    have h1:=le_sum_of Fd.sz l a hmem
    have h2:=hz'.out
    have e:Fd.sz a = 1 + a.name.size:=rfl
    omega
   have hs:=flat_take (Fd.ln d) l k a ha
   have l0:=upto_len (Fd.ln d) l k _ htot'.out
   have hI:=itoa_le wf
   obtain ⟨an,aw⟩:=a
   simp only at wf hI l2
   rw [show Fd.ln d ⟨an,aw⟩ = padB d++(([98,105,116,60]++(Lib.itoa aw++([62,32]++an.data.toList)))++[59,10]) from rfl] at hs
   obtain ⟨U,hU⟩:∃ U,plus W y = U:=⟨_,rfl⟩
   have hc:=hc.plus y
   have hq:=(hp'.out.up y).pure
   have hD:=(Kp.all (w:=U) (ref_dec aw (bounds_i64 wf).1 (bounds_i64 wf).2)).pure
   rw [hU] at hc hq ⊢
   have hU':=Lib.hid (again_plus hU)
   have e1:itoaB aw = bs (Lib.itoa aw):=rfl
   rw [e1] at hD
   generalize Lib.itoa aw = I at hD hI hs
   obtain ⟨T0,hT0⟩:∃ T,bs (flat (Fd.ln d) (l.take k)) = T:=⟨_,rfl⟩
   obtain ⟨S,hS⟩:∃ S,bs I = S:=⟨_,rfl⟩
   rw [hT0] at l0 ⊢
   rw [hS] at hD
   have l1:S.size ≤ 21:=by rw [← hS];exact hI
   have hXe:Hid (T0++P++(⟨#[98,105,116,60]⟩:ByteArray)++S++(⟨#[62,32]⟩:ByteArray)++an++(⟨#[59,10]⟩:ByteArray) = bs (flat (Fd.ln d) (l.take (k + 1)))):=Lib.hid (by
    rw [hs,← hT0,← hP'.out,← hS];exact fields_step _ _ _ _)
   have d0:=fun y=>(hc.plus y).c0 _ rfl
   have d1:=fun y=>(hc.plus y).cs 0 _ rfl
   simp only at d0 d1
   have hq':=Lib.hid hq
   have hD':=Lib.hid hD
   clear hq hD hc e1 hs hT0 hS hI wf ha hmem hU
   go_upto_region 5 with (fail)
   refine wp_region_own0 (by kernel_rfl) (by kernel_rfl) ?_
   repeat (go_big_quiet_step (first | (with_reducible exact hq'.out _) | (with_reducible exact hD'.out _)))
   refine wpQuiet_nil ?_
   rintro _ ⟨y2,rfl⟩
   go_wp2
   go_roundw
   case rel=>exact ⟨k + 1,hlt,congrArg (Value.int .i64) a6.out,congrArg Value.string hXe.out,hU'.out y2⟩
   case measure=>exact step_less k n hlt a6.out
  ·obtain rfl:k = n:=by omega
   have hs2:=Lib.hid (show bs (flat (Fd.ln d) (l.take k)) = bs (flat (Fd.ln d) l) by rw [List.take_of_length_le (by rw [hn'.out];exact Nat.le_refl _)])
   clear hlt hk
   go_wp2
   go_ret
   exact ⟨congrArg (fun q=>Ending.returned (Value.string q)) hs2.out,y,rfl⟩
theorem stp_1m (T P E TH:List UInt8) (hd nm:ByteArray) (els:Option (List UInt8)) (hn:hd.data.toList = []):bs T++bs P++(⟨#[109,101,116,97]⟩:ByteArray)++hd++(⟨#[46]⟩:ByteArray)++nm++(⟨#[32,61,32]⟩:ByteArray)++bs E++(⟨#[59,10]⟩:ByteArray) = bs (T++(P++stL 1 hd nm E P TH els)):=by
 unfold stL
 rw [if_pos rfl]
 unfold asgL
 rw [if_pos hn]
 have e:hd = bs []:=by rw [← bs_self hd,hn]
 rw [e]
 apply ByteArray.ext
 simp
theorem stp_1h (T P E TH:List UInt8) (hd nm:ByteArray) (els:Option (List UInt8)) (hn:hd.data.toList ≠ []):bs T++bs P++hd++(⟨#[46]⟩:ByteArray)++nm++(⟨#[32,61,32]⟩:ByteArray)++bs E++(⟨#[59,10]⟩:ByteArray) = bs (T++(P++stL 1 hd nm E P TH els)):=by
 unfold stL
 rw [if_pos rfl]
 unfold asgL
 rw [if_neg hn]
 apply ByteArray.ext
 simp
theorem stp_2n (T P E TH:List UInt8) (hd nm:ByteArray) :bs T++bs P++(⟨#[105,102,32,40]⟩:ByteArray)++bs E++(⟨#[41,32,123,10]⟩:ByteArray)++bs TH++bs P++(⟨#[125,10]⟩:ByteArray) = bs (T++(P++stL 2 hd nm E P TH none)):=by
 unfold stL
 rw [if_neg (by decide)]
 rw [if_pos rfl]
 apply ByteArray.ext
 simp
theorem stp_2e (T P E TH EL:List UInt8) (hd nm:ByteArray) :bs T++bs P++(⟨#[105,102,32,40]⟩:ByteArray)++bs E++(⟨#[41,32,123,10]⟩:ByteArray)++bs TH++bs P++(⟨#[125,32,101,108,115,101,32,123,10]⟩:ByteArray)++bs EL++bs P++(⟨#[125,10]⟩:ByteArray) = bs (T++(P++stL 2 hd nm E P TH (some EL))):=by
 unfold stL
 rw [if_neg (by decide)]
 rw [if_pos rfl]
 apply ByteArray.ext
 simp
theorem stp_3 (T P E TH:List UInt8) (hd nm:ByteArray) (els:Option (List UInt8)) :bs T++bs P++(⟨#[97,112,112,108,121,32]⟩:ByteArray)++nm++(⟨#[59,10]⟩:ByteArray) = bs (T++(P++stL 3 hd nm E P TH els)):=by
 unfold stL
 rw [if_neg (by decide)]
 rw [if_neg (by decide)]
 rw [if_pos rfl]
 apply ByteArray.ext
 simp
theorem stp_4 (T P E TH:List UInt8) (hd nm:ByteArray) (els:Option (List UInt8)) :bs T++bs P++(⟨#[100,114,111,112,59,10]⟩:ByteArray) = bs (T++(P++stL 4 hd nm E P TH els)):=by
 unfold stL
 rw [if_neg (by decide)]
 rw [if_neg (by decide)]
 rw [if_neg (by decide)]
 rw [if_pos rfl]
 apply ByteArray.ext
 simp
theorem stp_5 (T P E TH:List UInt8) (hd nm:ByteArray) (els:Option (List UInt8)) :bs T++bs P++(⟨#[102,111,114,119,97,114,100,40]⟩:ByteArray)++bs E++(⟨#[41,59,10]⟩:ByteArray) = bs (T++(P++stL 5 hd nm E P TH els)):=by
 unfold stL
 rw [if_neg (by decide)]
 rw [if_neg (by decide)]
 rw [if_neg (by decide)]
 rw [if_neg (by decide)]
 rw [if_pos rfl]
 apply ByteArray.ext
 simp
theorem stp_6 (T P E TH:List UInt8) (hd nm:ByteArray) (els:Option (List UInt8)) :bs T++bs P++(⟨#[118,97,108,105,100,32]⟩:ByteArray)++hd++(⟨#[59,10]⟩:ByteArray) = bs (T++(P++stL 6 hd nm E P TH els)):=by
 unfold stL
 rw [if_neg (by decide)]
 rw [if_neg (by decide)]
 rw [if_neg (by decide)]
 rw [if_neg (by decide)]
 rw [if_neg (by decide)]
 rw [if_pos rfl]
 apply ByteArray.ext
 simp
theorem stp_7 (T P E TH:List UInt8) (hd nm:ByteArray) (els:Option (List UInt8)) :bs T++bs P++(⟨#[105,110,118,97,108,105,100,32]⟩:ByteArray)++hd++(⟨#[59,10]⟩:ByteArray) = bs (T++(P++stL 7 hd nm E P TH els)):=by
 unfold stL
 rw [if_neg (by decide)]
 rw [if_neg (by decide)]
 rw [if_neg (by decide)]
 rw [if_neg (by decide)]
 rw [if_neg (by decide)]
 rw [if_neg (by decide)]
 rw [if_pos rfl]
 apply ByteArray.ext
 simp
def StLnAt (L:Sl St):Prop:=∀ (d n:Nat) (w:World),d + n ≤ 20 → St.mayB n L.l = true → L.In w 14 St.cells (St.In w) → L.size St.sz ≤ 1048576 → Kp Tryz.prog w 31 #[L.v,.int .i64 (d:Int)] (.string (bs (flat (St.ln d) L.l)))
set_option maxRecDepth 100000 in
set_option maxHeartbeats 16000000 in
theorem rstl_of (hT:∀ (n:Nat),n < B128 → Pure Tryz.prog 19 #[nv n] (.string (numS n))) (L:Sl St) (ih:∀ x ∈ L.l,StLnAt x.thnS ∧ StLnAt x.elsS):StLnAt L:=by
 intro d q w hdq hmay hin hb y0
 have htot:=flat_len (f:=St.ln d) (g:=St.sz) (C:=1000) L.l (fun y hy=>by
  obtain ⟨m,hm8,hm⟩:=mayB_pos hmay y hy
  exact st_len y d m (by omega) hm (hin.kids y hy))
 have hin:=hin.plus (fun _ a=>a.plus y0) y0
 have hp:=(rpad d (by omega) w).up y0
 have hpl:(bs (padB d)).size ≤ 1000:=by show (padB d).length ≤ 1000;rw [padB_length];omega
 have hd1:=wr_succ d 1000 (by omega) (by omega)
 obtain ⟨W,hV⟩:∃ V,plus w y0 = V:=⟨_,rfl⟩
 rw [hV] at hin hp ⊢
 clear hV
 have hmay':=mayB_pos hmay
 obtain ⟨p,cap,l⟩:=L
 obtain ⟨_,_,hrow,hkids⟩:=hin
 simp only [Sl.size,Sl.v] at hb ih hrow hkids htot hmay' ⊢
 obtain ⟨n,hn⟩:∃ n,l.length = n:=⟨_,rfl⟩
 have hl:n ≤ 1048576:=by have:=length_le_sum St.sz St.sz_pos l;omega
 rw [hn]
 obtain ⟨P,hP⟩:∃ P,bs (padB d) = P:=⟨_,rfl⟩
 rw [hP] at hp hpl
 have ih':=Lib.hid ih
 have hrow':=Lib.hid hrow
 have hkids':=Lib.hid hkids
 have hb':=Lib.hid hb
 have hn':=Lib.hid hn
 have hl':=Lib.hid hl
 have hp':=Lib.hid hp
 have hP':=Lib.hid hP
 have hd1':=Lib.hid hd1
 have hdq':=Lib.hid hdq
 have hmay'':=Lib.hid hmay'
 have hT':=Lib.hid hT
 have htot':=Lib.hid (Nat.le_trans htot (show 1000 * (l.map St.sz).sum ≤ 140737488355328 by omega))
 clear hl ih hrow hkids hb hn hp hP hd1 hdq hmay hmay' hT htot
 go_enter Tryz.func31,Tryz.ntmps31
 go_wp2
 go_loopw [5,6] (fun sv iv wr=>∃ k:Nat,k ≤ n ∧ iv = .int .i64 (k:Int) ∧ sv = .string (bs (flat (St.ln d) (l.take k))) ∧ ∃ y,wr = plus W y) (fun _ iv _=>n - (intOf iv).toNat)
 case atStart=>exact ⟨0,Nat.zero_le _,rfl,rfl,⟨#[],W.drawn⟩,(plus_self W).symm⟩
 case round =>
  obtain ⟨k,hk,rfl,rfl,y,rfl⟩:=hrel
  by_cases hlt:k < n
  ·obtain ⟨e,he⟩:∃ e,l[k]? = some e:=⟨l[k]'(by rw [hn'.out];exact hlt),List.getElem?_eq_getElem _⟩
   obtain ⟨a,rfl,hc⟩:=hrow'.out k e he
   have hmem:e ∈ l:=List.mem_of_getElem? he
   have hew:e.sz ≤ 1048576:=Nat.le_trans (le_sum_of St.sz l e hmem) hb'.out
   have hin:=hkids'.out e hmem
   obtain ⟨m,hm8,ho⟩:=hmay''.out e hmem
   have hdq:=hdq'.out
   have px:=one_parts ho.1
   have hs:=flat_take (St.ln d) l k e he
   rw [St.ln_eq] at hs
   have l0:=upto_len (St.ln d) l k _ htot'.out
   have i1:=(ih'.out e hmem).1 (d + 1) m W (by omega) ho.2.1 hin.inThn (St.thn_sz e (Nat.le_refl _) hew)
   have i2:=(ih'.out e hmem).2 (d + 1) m W (by omega) ho.2.2 hin.inEls (St.els_sz e (Nat.le_refl _) hew)
   rw [← hd1'.out] at i1 i2
   have hE:tExpr e.kind = true → Kp Tryz.prog W 25 #[.agg e.e.cells.toArray] (.string (bs e.e.tx)):=fun ht=>(rt_ex hT'.out e.e 16 W (px.expr ht) (St_e_in hin) (by rw [St.sz_eq] at hew;omega)).1
   have z0:e.head.size ≤ 1048576 ∧ e.name.size ≤ 1048576 ∧ e.e.tx.length ≤ 140737488355328:=by
    have h1:=ex_len e.e (St_e_in hin)
    rw [St.sz_eq] at hew
    omega
   have z1:(flat (St.ln (d + 1)) e.thn).length ≤ 140737488355328:=by
    have h1:=flat_len (f:=St.ln (d + 1)) (g:=St.sz) (C:=1000) e.thn (fun y hy=>by
     obtain ⟨m',hm',ho'⟩:=mayB_pos ho.2.1 y hy
     exact st_len y (d + 1) m' (by omega) ho' (St_thn_in hin y hy))
    rw [St.sz_eq] at hew
    omega
   have z2:(flat (St.ln (d + 1)) e.els).length ≤ 140737488355328:=by
    have h1:=flat_len (f:=St.ln (d + 1)) (g:=St.sz) (C:=1000) e.els (fun y hy=>by
     obtain ⟨m',hm',ho'⟩:=mayB_pos ho.2.2 y hy
     exact st_len y (d + 1) m' (by omega) ho' (St_els_in hin y hy))
    rw [St.sz_eq] at hew
    omega
   have hkd:=kinds px.lo px.hi
   obtain ⟨U,hU⟩:∃ U,plus W y = U:=⟨_,rfl⟩
   have hc:=hc.plus y
   have hq:=hp'.out.up y
   have i1:=i1.up y
   have i2:=i2.up y
   have hE:=fun ht=>(hE ht).up y
   simp only [hU] at hc hq i1 i2 hE ⊢
   have hU':=Lib.hid (again_plus hU)
   clear hU ho px hmem hin hew he hdq hm8
   obtain ⟨kd,hd,nm,⟨eop,⟨elw,elh,ell⟩,ehd,enm,eeh,eel,ep,ecap,eargs⟩,tp,tc,tl,up,uc,ul⟩:=e
   simp only [St.thnS,St.elsS,Sl.v,St.kind,St.head,St.name,St.e,St.p,St.cap,St.thn,St.q,St.cbp,St.els,Ex.cells,Ex.op,Ex.lit,Ex.head,Ex.name,Ex.hi,Ex.lo,Ex.p,Ex.cap,Ex.args] at i1 i2 hE hs z0 z1 z2 hkd
   obtain ⟨z3,z4,z5⟩:=z0
   generalize (Ex.mk eop ⟨elw,elh,ell⟩ ehd enm eeh eel ep ecap eargs).tx = E at hE hs z5
   generalize flat (St.ln (d + 1)) tl = TH at i1 hs z1
   generalize flat (St.ln (d + 1)) ul = EL at i2 hs z2
   obtain ⟨T0,hT0⟩:∃ T,bs (flat (St.ln d) (l.take k)) = T:=⟨_,rfl⟩
   obtain ⟨T1,hT1⟩:∃ T,bs (flat (St.ln d) (l.take (k + 1))) = T:=⟨_,rfl⟩
   rw [hT0] at l0 ⊢
   have hs1:bs (flat (St.ln d) (l.take k)++(padB d++stL kd hd nm E (padB d) TH (if ul.length = 0 then none else some EL))) = T1:=(congrArg bs hs.symm).trans hT1
   clear hs
   have hbs:∀ X:List UInt8,∃ Y,bs X = Y:=fun X=>⟨_,rfl⟩
   obtain ⟨E',hE'⟩:=hbs E
   obtain ⟨TH',hTH⟩:=hbs TH
   obtain ⟨EL',hEL⟩:=hbs EL
   rw [hE'] at hE
   rw [hTH] at i1
   rw [hEL] at i2
   have l1:E'.size ≤ 140737488355328:=by rw [← hE'];exact z5
   have l2:TH'.size ≤ 140737488355328:=by rw [← hTH];exact z1
   have l3:EL'.size ≤ 140737488355328:=by rw [← hEL];exact z2
   clear z1 z2 z5 hbs
   have a6:=Lib.hid (wr_succ k n hlt hl'.out)
   have hT0':=Lib.hid hT0
   have hT1':=Lib.hid hT1
   have hE'':=Lib.hid hE'
   have hTH':=Lib.hid hTH
   have hEL':=Lib.hid hEL
   have hs1':=Lib.hid hs1
   have hq':=Lib.hid hq
   have i1':=Lib.hid i1
   have i2':=Lib.hid i2
   have hEe:=Lib.hid hE
   clear hT0 hT1 hE' hTH hEL hs1 hq i1 i2 hE
   have d0:=hc.c0 _ rfl
   have d1:=hc.cs 0 _ rfl
   have d2:=hc.cs 1 _ rfl
   have d3:=hc.cs 2 _ rfl
   have d4:=hc.cs 3 _ rfl
   have d5:=hc.cs 4 _ rfl
   have d6:=hc.cs 5 _ rfl
   have d7:=hc.cs 6 _ rfl
   have d8:=hc.cs 7 _ rfl
   have d9:=hc.cs 8 _ rfl
   have d10:=hc.cs 9 _ rfl
   have d11:=hc.cs 10 _ rfl
   have d12:=hc.cs 11 _ rfl
   have d13:=hc.cs 12 _ rfl
   simp only [St.kind,St.head,St.name,St.e,St.p,St.cap,St.thn,St.q,St.cbp,St.els,Ex.op,Ex.lit,Ex.head,Ex.name,Ex.hi,Ex.lo,Ex.p,Ex.cap,Ex.args] at d0 d1 d2 d3 d4 d5 d6 d7 d8 d9 d10 d11 d12 d13
   clear hc
   go_upto_region 6 with (fail)
   obtain ⟨W2,yy,hW2,⟨z,hz⟩,cb⟩:=box1n U _ 92
   rw [hW2]
   have c0:=cb 0 _ rfl
   have c1:=cb 1 _ rfl
   have c2:=cb 2 _ rfl
   have c3:=cb 3 _ rfl
   have c4:=cb 4 _ rfl
   have c5:=cb 5 _ rfl
   have c6:=cb 6 _ rfl
   have c7:=cb 7 _ rfl
   have c8:=cb 8 _ rfl
   have c9:=cb 9 _ rfl
   have c10:=cb 10 _ rfl
   have c11:=cb 11 _ rfl
   have c12:=cb 12 _ rfl
   have c13:=cb 13 _ rfl
   have qc:=Lib.hid (kp_at hz hq'.out)
   have i1c:=Lib.hid (kp_at hz i1'.out)
   have i2c:=Lib.hid (kp_at hz i2'.out)
   have hEc:=Lib.hid (fun ht=>kp_at hz (hEe.out ht))
   have hz':=Lib.hid (fun x=>(show ∃ x',plus W2 x = plus W x' by rw [hz,plus_plus];exact hU'.out _))
   clear hW2 hz cb hq' i1' i2' hEe d0 d1 d2 d3 d4 d5 d6 d7 d8 d9 d10 d11 d12 d13
   rcases hkd with rfl | rfl | rfl | rfl | rfl | rfl | rfl
   ·have ec:=Lib.hid (hEc.out rfl)
    by_cases hn:hd.data.toList = []
    ·have hX:Hid (T0++P++(⟨#[109,101,116,97]⟩:ByteArray)++hd++(⟨#[46]⟩:ByteArray)++nm++(⟨#[32,61,32]⟩:ByteArray)++E'++(⟨#[59,10]⟩:ByteArray) = bs (flat (St.ln d) (l.take (k + 1)))):=Lib.hid (by
      rw [hT1'.out,← hs1'.out,← hT0'.out,← hP'.out,← hE''.out]
      exact stp_1m _ _ _ _ _ _ _ hn)
     have hn1:(hd.toList == ([]:List UInt8)) = true:=by rw [Lib.toList_data,hn];rfl
     have hn2:hd.toList.isEmpty = true:=by rw [Lib.toList_data,hn];rfl
     clear hn hT1' hs1' hTH' hEL'
     go_upto_region 11 with ((first | (go_at_call 83;with_reducible refine (qc.out _).mono ?_;rintro r w' ⟨rfl,x,rfl⟩)))
     refine wp_region_own (by kernel_rfl) (by kernel_rfl) ?_
     repeat (go_big_quiet_step (first | (with_reducible exact ec.out _)))
     refine wpQuiet_nil ?_
     rintro _ ⟨y2,rfl⟩
     go_wp2
     go_roundw
     case rel=>exact ⟨k + 1,hlt,congrArg (Value.int .i64) a6.out,congrArg Value.string hX.out,hz'.out _⟩
     case measure=>exact step_less k n hlt a6.out
    ·have hX:Hid (T0++P++hd++(⟨#[46]⟩:ByteArray)++nm++(⟨#[32,61,32]⟩:ByteArray)++E'++(⟨#[59,10]⟩:ByteArray) = bs (flat (St.ln d) (l.take (k + 1)))):=Lib.hid (by
      rw [hT1'.out,← hs1'.out,← hT0'.out,← hP'.out,← hE''.out]
      exact stp_1h _ _ _ _ _ _ _ hn)
     have hn1:(hd.toList == ([]:List UInt8)) = false:=by rw [Lib.toList_data];simpa using hn
     have hn2:hd.toList.isEmpty = false:=by rw [Lib.toList_data];simpa using hn
     clear hn hT1' hs1' hTH' hEL'
     go_upto_region 11 with ((first | (go_at_call 83;with_reducible refine (qc.out _).mono ?_;rintro r w' ⟨rfl,x,rfl⟩)))
     refine wp_region_own (by kernel_rfl) (by kernel_rfl) ?_
     repeat (go_big_quiet_step (first | (with_reducible exact ec.out _)))
     refine wpQuiet_nil ?_
     rintro _ ⟨y2,rfl⟩
     go_wp2
     go_roundw
     case rel=>exact ⟨k + 1,hlt,congrArg (Value.int .i64) a6.out,congrArg Value.string hX.out,hz'.out _⟩
     case measure=>exact step_less k n hlt a6.out
   ·have ec:=Lib.hid (hEc.out rfl)
    by_cases hu:ul.length = 0
    ·rw [if_pos hu] at hs1'
     have hX:Hid (T0++P++(⟨#[105,102,32,40]⟩:ByteArray)++E'++(⟨#[41,32,123,10]⟩:ByteArray)++TH'++P++(⟨#[125,10]⟩:ByteArray) = bs (flat (St.ln d) (l.take (k + 1)))):=Lib.hid (by
      rw [hT1'.out,← hs1'.out,← hT0'.out,← hP'.out,← hE''.out,← hTH'.out]
      exact stp_2n _ _ _ _ _ _ )
     have hu1:¬ 0 < ul.length:=by omega
     clear hT1' hs1' hTH' hEL' i2c
     go_upto_region 13 with ((first | (go_at_call 83;with_reducible refine (qc.out _).mono ?_;rintro r w' ⟨rfl,x,rfl⟩)))
     refine wp_region_own (by kernel_rfl) (by kernel_rfl) ?_
     repeat (go_big_quiet_step (first | (with_reducible exact ec.out _) | (with_reducible exact i1c.out _)))
     refine wpQuiet_nil ?_
     rintro _ ⟨y2,rfl⟩
     go_wp2_with (first | (go_at_call 83;with_reducible refine (qc.out _).mono ?_;rintro r w' ⟨rfl,x,rfl⟩))
     go_roundw
     case rel=>exact ⟨k + 1,hlt,congrArg (Value.int .i64) a6.out,congrArg Value.string hX.out,hz'.out _⟩
     case measure=>exact step_less k n hlt a6.out
    ·rw [if_neg hu] at hs1'
     have hX:Hid (T0++P++(⟨#[105,102,32,40]⟩:ByteArray)++E'++(⟨#[41,32,123,10]⟩:ByteArray)++TH'++P++(⟨#[125,32,101,108,115,101,32,123,10]⟩:ByteArray)++EL'++P++(⟨#[125,10]⟩:ByteArray) = bs (flat (St.ln d) (l.take (k + 1)))):=Lib.hid (by
      rw [hT1'.out,← hs1'.out,← hT0'.out,← hP'.out,← hE''.out,← hTH'.out,← hEL'.out]
      exact stp_2e _ _ _ _ _ _ _ )
     have hu1:0 < ul.length:=by omega
     clear hT1' hs1' hTH' hEL'
     go_upto_region 13 with ((first | (go_at_call 83;with_reducible refine (qc.out _).mono ?_;rintro r w' ⟨rfl,x,rfl⟩)))
     refine wp_region_own (by kernel_rfl) (by kernel_rfl) ?_
     repeat (go_big_quiet_step (first | (with_reducible exact ec.out _) | (with_reducible exact i1c.out _)))
     refine wpQuiet_nil ?_
     rintro _ ⟨y2,rfl⟩
     clear ec i1c
     go_upto_region 15 with ((first | (go_at_call 83;with_reducible refine (qc.out _).mono ?_;rintro r w' ⟨rfl,x,rfl⟩)))
     refine wp_region_own (by kernel_rfl) (by kernel_rfl) ?_
     repeat (go_big_quiet_step (first | (with_reducible exact qc.out _) | (with_reducible exact i2c.out _)))
     refine wpQuiet_nil ?_
     rintro _ ⟨y3,rfl⟩
     go_wp2_with (first | (go_at_call 83;with_reducible refine (qc.out _).mono ?_;rintro r w' ⟨rfl,x,rfl⟩))
     go_roundw
     case rel=>exact ⟨k + 1,hlt,congrArg (Value.int .i64) a6.out,congrArg Value.string hX.out,hz'.out _⟩
     case measure=>exact step_less k n hlt a6.out
   ·have hX:Hid (T0++P++(⟨#[97,112,112,108,121,32]⟩:ByteArray)++nm++(⟨#[59,10]⟩:ByteArray) = bs (flat (St.ln d) (l.take (k + 1)))):=Lib.hid (by
     rw [hT1'.out,← hs1'.out,← hT0'.out,← hP'.out]
     exact stp_3 _ _ _ _ _ _ _ )
    clear hT1' hs1' hTH' hEL'
    go_wp2_with (first | (go_at_call 83;with_reducible refine (qc.out _).mono ?_;rintro r w' ⟨rfl,x,rfl⟩))
    go_roundw
    case rel=>exact ⟨k + 1,hlt,congrArg (Value.int .i64) a6.out,congrArg Value.string hX.out,hz'.out _⟩
    case measure=>exact step_less k n hlt a6.out
   ·have hX:Hid (T0++P++(⟨#[100,114,111,112,59,10]⟩:ByteArray) = bs (flat (St.ln d) (l.take (k + 1)))):=Lib.hid (by
     rw [hT1'.out,← hs1'.out,← hT0'.out,← hP'.out]
     exact stp_4 _ _ _ _ _ _ _ )
    clear hT1' hs1' hTH' hEL'
    go_wp2_with (first | (go_at_call 83;with_reducible refine (qc.out _).mono ?_;rintro r w' ⟨rfl,x,rfl⟩))
    go_roundw
    case rel=>exact ⟨k + 1,hlt,congrArg (Value.int .i64) a6.out,congrArg Value.string hX.out,hz'.out _⟩
    case measure=>exact step_less k n hlt a6.out
   ·have ec:=Lib.hid (hEc.out rfl)
    have hX:Hid (T0++P++(⟨#[102,111,114,119,97,114,100,40]⟩:ByteArray)++E'++(⟨#[41,59,10]⟩:ByteArray) = bs (flat (St.ln d) (l.take (k + 1)))):=Lib.hid (by
     rw [hT1'.out,← hs1'.out,← hT0'.out,← hP'.out,← hE''.out]
     exact stp_5 _ _ _ _ _ _ _ )
    clear hT1' hs1' hTH' hEL'
    go_wp2_with (first | (go_at_call 83;with_reducible refine (qc.out _).mono ?_;rintro r w' ⟨rfl,x,rfl⟩) | (go_at_call 25;with_reducible refine (ec.out _).mono ?_;rintro r w' ⟨rfl,x,rfl⟩))
    go_roundw
    case rel=>exact ⟨k + 1,hlt,congrArg (Value.int .i64) a6.out,congrArg Value.string hX.out,hz'.out _⟩
    case measure=>exact step_less k n hlt a6.out
   ·have hX:Hid (T0++P++(⟨#[118,97,108,105,100,32]⟩:ByteArray)++hd++(⟨#[59,10]⟩:ByteArray) = bs (flat (St.ln d) (l.take (k + 1)))):=Lib.hid (by
     rw [hT1'.out,← hs1'.out,← hT0'.out,← hP'.out]
     exact stp_6 _ _ _ _ _ _ _ )
    clear hT1' hs1' hTH' hEL'
    go_wp2_with (first | (go_at_call 83;with_reducible refine (qc.out _).mono ?_;rintro r w' ⟨rfl,x,rfl⟩))
    go_roundw
    case rel=>exact ⟨k + 1,hlt,congrArg (Value.int .i64) a6.out,congrArg Value.string hX.out,hz'.out _⟩
    case measure=>exact step_less k n hlt a6.out
   ·have hX:Hid (T0++P++(⟨#[105,110,118,97,108,105,100,32]⟩:ByteArray)++hd++(⟨#[59,10]⟩:ByteArray) = bs (flat (St.ln d) (l.take (k + 1)))):=Lib.hid (by
     rw [hT1'.out,← hs1'.out,← hT0'.out,← hP'.out]
     exact stp_7 _ _ _ _ _ _ _ )
    clear hT1' hs1' hTH' hEL'
    go_wp2_with (first | (go_at_call 83;with_reducible refine (qc.out _).mono ?_;rintro r w' ⟨rfl,x,rfl⟩))
    go_roundw
    case rel=>exact ⟨k + 1,hlt,congrArg (Value.int .i64) a6.out,congrArg Value.string hX.out,hz'.out _⟩
    case measure=>exact step_less k n hlt a6.out
  ·obtain rfl:k = n:=by omega
   have hs2:=Lib.hid (show bs (flat (St.ln d) (l.take k)) = bs (flat (St.ln d) l) by rw [List.take_of_length_le (by rw [hn'.out];exact Nat.le_refl _)])
   clear hlt hk
   go_wp2
   go_ret
   exact ⟨congrArg (fun q=>Ending.returned (Value.string q)) hs2.out,y,rfl⟩
theorem rstl_at (hT:∀ (n:Nat),n < B128 → Pure Tryz.prog 19 #[nv n] (.string (numS n))):∀ s:St,StLnAt s.thnS ∧ StLnAt s.elsS:=fun s=>St.ind (Q:=fun s=>StLnAt s.thnS ∧ StLnAt s.elsS) (fun s h1 h2=>⟨rstl_of hT s.thnS h1,rstl_of hT s.elsS h2⟩) s
theorem rstl_in (hT:∀ (n:Nat),n < B128 → Pure Tryz.prog 19 #[nv n] (.string (numS n))) (L:Sl St):StLnAt L:=rstl_of hT L fun x _=>rstl_at hT x
end Go.Proofs.YtbelaghcmgefaaaGreatDoor
