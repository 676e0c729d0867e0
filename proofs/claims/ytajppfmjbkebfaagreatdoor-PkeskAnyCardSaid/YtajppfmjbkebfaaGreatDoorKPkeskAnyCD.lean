/- What the claim leans on, part 4: plain theorems, and walks of functions of the program and of the document. -/
import Derived.Test.YtajppfmjbkebfaaGreatDoorKPkeskAnyCC
import Derived.Test.YtajppfmjbkebfaaGreatDoorKPkeskAnyCB
import Derived.Test.YtajppfmjbkebfaaGreatDoorKPkeskAnyCA
import Derived.Test.YtajppfmjbkebfaaGreatDoorProg
set_option maxHeartbeats 8000000
namespace Go.Proofs.YtajppfmjbkebfaaGreatDoor
open Go Go.RowKit
set_option maxRecDepth 100000
theorem row_st (a b i:Nat) (hb:b<2^256):Pure Tryz.prog 160 #[vN (a%2^(64*i)*b / 2^(64*i)),.int .u64 ((wd a i:Nat):Int),vN b] (fun _=>True) (.tuple #[.int .u64 ((wd (a*b) i:Nat):Int),vN (a%2^(64*(i+1))*b / 2^(64*(i+1)))]):=by
 have h:=row_p (a%2^(64*i)*b / 2^(64*i)) (wd a i) b (row_high_lt a b i hb) (wd_lt a i) hb
 rw [Nat.add_comm (wd a i*b),row_next,row_low,row_high] at h
 exact h
theorem times_p (a b:Nat) (ha:a<2^256) (hb:b<2^256):Pure Tryz.prog 137 #[(vN a),(vN b)] (fun _=>True) (vN (tm a b)):=by
 refine pure_of (fn:=Tryz.f137) Tryz.func137 rfl Tryz.ntmps137 (Nat.le_of_ble_eq_true rfl) rfl ?_
 intro w0 hH hR
 have hL:=prod_lt ha hb
 have r0:=row_st a b 0 hb
 have r1:=row_st a b 1 hb
 have r2:=row_st a b 2 hb
 have r3:=row_st a b 3 hb
 have z0:a%2^(64*0)*b / 2^(64*0)=0:=by simp [Nat.mod_one]
 have z4:a%2^(64*(3+1))*b / 2^(64*(3+1))=a*b / 2^256:=by rw [show 64*(3+1)=256 from rfl,Nat.mod_eq_of_lt ha]
 rw [z0] at r0
 rw [z4] at r3
 have hH:a*b / 2^256<2^256:=by omega
 have r4:=row_p ((a*b)%2^256) 38 (a*b / 2^256) (Nat.mod_lt _ (by decide)) (by decide) hH
 rw [show 38*(a*b / 2^256)+a*b%2^256=f1 (a*b) by unfold f1; omega,vN_mod] at r4
 have hf1:=f1_prod hL
 have hf2:=f1_top hL
 have hT:tm a b=fv (f1 (a*b)):=rfl
 clear z0 z4 hL
 generalize a*b=L at *
 generalize L / 2^256=H4 at *
 generalize f1 L=V at *
 have rf:=fold_p (V%2^256) (V / 2^256) (Nat.mod_lt _ (by decide)) (by omega)
 rw [show V%2^256+2^256*(V / 2^256)=V by omega,vN_mod,← hT] at rf
 have w3:wd (V / 18446744073709551616) 3=V / 2^256:=by
  rw [wd_shift]
  show V / 2^256%18446744073709551616=V / 2^256
  exact Nat.mod_eq_of_lt (by omega)
 have w0':wd (V / 18446744073709551616) 0=wd V 1:=wd_shift V 0
 have w1':wd (V / 18446744073709551616) 1=wd V 2:=wd_shift V 1
 have w2':wd (V / 18446744073709551616) 2=wd V 3:=wd_shift V 2
 clear hf1 hf2 hH
 generalize a%2^(64*(0+1))*b / 2^(64*(0+1))=H1 at *
 generalize a%2^(64*(1+1))*b / 2^(64*(1+1))=H2 at *
 generalize a%2^(64*(2+1))*b / 2^(64*(2+1))=H3 at *
 refine zr (zm hH .bg trivial 1 ?_)
 clear hH
 rintro _ _ w ⟨g1,rfl,rfl⟩ hH
 refine zm hH .bg trivial 2 ?_
 clear hH
 rintro _ _ w ⟨g2,rfl,rfl⟩ hH
 refine zm hH (.az (.agg z4)) trivial 0 ?_
 clear hH
 rintro _ _ w ⟨g3,rfl,rfl⟩ hH
 refine zn (zr (zm hH (.az (.agg z4)) trivial 0 ?_))
 clear hH
 rintro _ _ w ⟨g4,rfl,rfl⟩ hH
 refine zm hH (.az (.agg z4)) trivial 0 ?_
 clear hH
 rintro _ _ w ⟨g5,rfl,rfl⟩ hH
 refine zn (zr (zs (hH.q 4 rfl) (.lr 4) 0 ?_))
 refine zv (.fld 0) 0 ?_
 refine zs (hH.q 0 rfl) .lc 1 ?_
 refine zs (hH.q 1 rfl) (.lr 4) 0 ?_
 refine zm hH (.call Tryz.func160 (r0.does)) trivial 7 ?_
 clear hH
 rintro _ _ w ⟨rfl,rfl⟩ hH
 replace hH:HH w0 [] [[bl g1 170 (cN a)],[bl g2 170 (cN b)],[bl g3 170 z4],[bl g4 170 z4],[bl g5 170 z4]] w:=hH.unpad
 refine zv .mv 1 ?_
 refine zv .ext 0 ?_
 refine zv .ext 2 ?_
 refine zv (.fld 0) 0 ?_
 refine ze0 3 hH rfl .sc trivial ?_
 clear hH
 rintro _ _ w rfl hH
 refine ze0 4 hH rfl (.sr 4) trivial ?_
 clear hH
 rintro _ _ w rfl hH
 refine zn (zr (zs (hH.q 4 rfl) (.lr 4) 7 ?_))
 refine zv (.fld 1) 0 ?_
 refine zs (hH.q 0 rfl) .lc 1 ?_
 refine zs (hH.q 1 rfl) (.lr 4) 0 ?_
 refine zm hH (.call Tryz.func160 (r1.does)) trivial 7 ?_
 clear hH
 rintro _ _ w ⟨rfl,rfl⟩ hH
 replace hH:HH w0 [] [[bl g1 170 (cN a)],[bl g2 170 (cN b)],[bl g3 170 z4],[bl g4 170 #[(.int .u64 (((wd L 0):Nat):Int)),(.int .u64 0),(.int .u64 0),(.int .u64 0)]],[bl g5 170 (cN H1)]] w:=hH.unpad
 refine zv .mv 1 ?_
 refine zv .ext 0 ?_
 refine zv .ext 2 ?_
 refine zv (.fld 1) 0 ?_
 refine ze0 3 hH rfl .sc trivial ?_
 clear hH
 rintro _ _ w rfl hH
 refine ze0 4 hH rfl (.sr 4) trivial ?_
 clear hH
 rintro _ _ w rfl hH
 refine zn (zr (zs (hH.q 4 rfl) (.lr 4) 7 ?_))
 refine zv (.fld 2) 0 ?_
 refine zs (hH.q 0 rfl) .lc 1 ?_
 refine zs (hH.q 1 rfl) (.lr 4) 0 ?_
 refine zm hH (.call Tryz.func160 (r2.does)) trivial 7 ?_
 clear hH
 rintro _ _ w ⟨rfl,rfl⟩ hH
 replace hH:HH w0 [] [[bl g1 170 (cN a)],[bl g2 170 (cN b)],[bl g3 170 z4],[bl g4 170 #[(.int .u64 (((wd L 0):Nat):Int)),(.int .u64 (((wd L 1):Nat):Int)),(.int .u64 0),(.int .u64 0)]],[bl g5 170 (cN H2)]] w:=hH.unpad
 refine zv .mv 1 ?_
 refine zv .ext 0 ?_
 refine zv .ext 2 ?_
 refine zv (.fld 2) 0 ?_
 refine ze0 3 hH rfl .sc trivial ?_
 clear hH
 rintro _ _ w rfl hH
 refine ze0 4 hH rfl (.sr 4) trivial ?_
 clear hH
 rintro _ _ w rfl hH
 refine zn (zr (zs (hH.q 4 rfl) (.lr 4) 7 ?_))
 refine zv (.fld 3) 32 ?_
 refine zs (hH.q 0 rfl) .lc 1 ?_
 refine zs (hH.q 1 rfl) (.lr 4) 32 ?_
 refine zm hH (.call Tryz.func160 (r3.does)) trivial 7 ?_
 clear hH
 rintro _ _ w ⟨rfl,rfl⟩ hH
 replace hH:HH w0 [] [[bl g1 170 (cN a)],[bl g2 170 (cN b)],[bl g3 170 z4],[bl g4 170 #[(.int .u64 (((wd L 0):Nat):Int)),(.int .u64 (((wd L 1):Nat):Int)),(.int .u64 (((wd L 2):Nat):Int)),(.int .u64 0)]],[bl g5 170 (cN H3)]] w:=hH.unpad
 refine zv .mv 1 ?_
 refine zv .ext 0 ?_
 refine zv .ext 2 ?_
 refine zv (.fld 3) 0 ?_
 refine ze0 3 hH rfl .sc trivial ?_
 clear hH
 rintro _ _ w rfl hH
 refine ze0 4 hH rfl (.sr 4) trivial ?_
 clear hH
 rintro _ _ w rfl hH
 refine zn (zr (zs (hH.q 3 rfl) (.lr 4) 23 ?_))
 refine zs (hH.q 4 rfl) (.lr 4) 2 ?_
 refine zm hH (.call Tryz.func160 (r4.does)) trivial 3 ?_
 clear hH
 rintro _ _ w ⟨rfl,rfl⟩ hH
 replace hH:HH w0 [] [[bl g1 170 (cN a)],[bl g2 170 (cN b)],[bl g3 170 z4],[bl g4 170 (cN L)],[bl g5 170 (cN H4)]] w:=hH.unpad
 refine zv .mv 1 ?_
 refine zv .ext 0 ?_
 refine zv .ext 2 ?_
 refine zm hH (.az (.agg z4)) trivial 0 ?_
 clear hH
 rintro _ _ w ⟨g6,rfl,rfl⟩ hH
 refine zv .mv 4 ?_
 refine ze0 5 hH rfl (.sr 4) trivial ?_
 clear hH
 rintro _ _ w rfl hH
 refine zn ?_
 replace hH:HH w0 [] [[bl g1 170 (cN a)],[bl g2 170 (cN b)],[bl g3 170 z4],[bl g4 170 (cN L)],[bl g5 170 (cN H4)],[bl g6 170 #[(.int .u64 (((wd V 1):Nat):Int)),(.int .u64 (((wd V 2):Nat):Int)),(.int .u64 (((wd V 3):Nat):Int)),(.int .u64 (((V / 2^256):Nat):Int))]]] w:=by rw [← w0',← w1',← w2',← w3]; exact hH
 refine zr (zv .mv 5 ?_)
 refine zv (.fld 0) 0 ?_
 refine zs (hH.q 5 rfl) .lc 1 ?_
 refine zv (.fld 1) 0 ?_
 refine zs (hH.q 5 rfl) .lc 1 ?_
 refine zv (.fld 2) 0 ?_
 refine zs (hH.q 5 rfl) .lc 1 ?_
 refine zv (v:=(vN V)) (fun _ _ hF=>opBuildP (cells := #[(.int .u64 (((wd V 0):Nat):Int)),(.int .u64 (((wd V 1):Nat):Int)),(.int .u64 (((wd V 2):Nat):Int)),(.int .u64 (((wd V 3):Nat):Int))]) rfl (EvP.cons (v:=(.int .u64 (((wd V 0):Nat):Int))) (hF.ev 3 rfl) (EvP.cons (v:=(.int .u64 (((wd V 1):Nat):Int))) (hF.ev 2 rfl) (EvP.cons (v:=(.int .u64 (((wd V 2):Nat):Int))) (hF.ev 1 rfl) (EvP.cons (v:=(.int .u64 (((wd V 3):Nat):Int))) (hF.ev 0 rfl) EvP.nil)))) rfl _) 15 ?_
 refine zv (.fld 3) 2 ?_
 refine zs (hH.q 5 rfl) .lc 1 ?_
 refine zm hH (.call Tryz.func161 (rf.does)) trivial 3 ?_
 clear hH
 rintro _ _ w ⟨rfl,rfl⟩ hH
 replace hH:HH w0 [] [[bl g1 170 (cN a)],[bl g2 170 (cN b)],[bl g3 170 z4],[bl g4 170 (cN L)],[bl g5 170 (cN H4)],[bl g6 170 #[(.int .u64 (((wd V 1):Nat):Int)),(.int .u64 (((wd V 2):Nat):Int)),(.int .u64 (((wd V 3):Nat):Int)),(.int .u64 (((V / 2^256):Nat):Int))]]] w:=hH.unpad
 refine ze0 2 hH rfl (.sr 4) trivial ?_
 clear hH
 rintro _ _ w rfl hH
 refine zn (cxRet (qxRetC 1 (hH.blk 2 rfl) rfl rfl (by kernel_rfl) rfl (by kernel_rfl) ?_))
 exact ⟨rfl,HH.toBelow hH⟩
theorem canonical_p (n:Nat) (hn:n<2^256):Pure Tryz.prog 158 #[(vN n)] (fun _=>True) (vN (n%pN)):=by
 refine pure_of (fn:=Tryz.f158) Tryz.func158 rfl Tryz.ntmps158 (Nat.le_of_ble_eq_true rfl) rfl ?_
 intro w0 hH hR
 obtain ⟨f1,f2,f3,f4⟩:=canon_nat n hn
 obtain ⟨g1,g2⟩:=low255 n
 have hN1:n%2^255<2^255:=Nat.mod_lt _ (by decide)
 have hn3:=wd_lt n 3
 generalize n%pN=P at *
 generalize n / 2^255=t at *
 generalize n%2^255=N1 at *
 obtain ⟨m,hm⟩:∃ m,m=N1+19*t:=⟨_,rfl⟩
 rw [← hm] at f3 f4
 obtain ⟨u,hu⟩:∃ u,u=m+19:=⟨_,rfl⟩
 rw [← hu] at f4
 obtain ⟨q,hq⟩:∃ q,q=u / 2^255:=⟨_,rfl⟩
 rw [← hq] at f4
 obtain ⟨z,hz⟩:∃ z,z=m+19*q:=⟨_,rfl⟩
 rw [← hz] at f4
 obtain ⟨k1,k2⟩:=low255 z
 rw [f4] at k1 k2
 have hq1:q≤1:=by omega
 have e3:wd u 3 / 2^63=q:=by
  rw [hq]
  have hu2:u<2^255+38:=by omega
  clear f1 f2 f3 f4 g1 g2 k1 k2 hN1 hm hu hq hz hn3
  unfold wd
  omega
 have p1:=plusWord_p N1 (19*t) (by omega)
 have p2:=plusWord_p m 19 (by omega)
 have p3:=plusWord_p m (19*q) (by omega)
 rw [← hm] at p1
 rw [← hu] at p2
 rw [← hz] at p3
 have a1:wd n 3 &&& 9223372036854775807=wd N1 3:=by rw [g1]; exact Nat.and_two_pow_sub_one_eq_mod (wd n 3) 63
 have a2:wd z 3 &&& 9223372036854775807=wd P 3:=by rw [k1]; exact Nat.and_two_pow_sub_one_eq_mod (wd z 3) 63
 have e2:(19*t)%2^64=19*t:=Nat.mod_eq_of_lt (by omega)
 have e5:(19*q)%2^64=19*q:=Nat.mod_eq_of_lt (by omega)
 have x0:=g2 0 (by decide); have x1:=g2 1 (by decide); have x2:=g2 2 (by decide)
 have y0:=k2 0 (by decide); have y1:=k2 1 (by decide); have y2:=k2 2 (by decide)
 have hz3:=wd_lt z 3
 clear f2 f3 f4 g1 g2 k1 k2 hN1 hq1 hm hu hq hz
 refine zr (zm hH .bg trivial 1 ?_)
 clear hH
 rintro _ _ w ⟨g1,rfl,rfl⟩ hH
 refine zm hH (.az (.agg z4)) trivial 0 ?_
 clear hH
 rintro _ _ w ⟨g2,rfl,rfl⟩ hH
 refine zn (zr (zv (.fld 3) 0 ?_))
 refine zs (hH.q 0 rfl) .lc 1 ?_
 refine zv (.su t (j:=63) (hz:=f1)) 1 ?_
 refine zv .mv 1 ?_
 refine zn (zr (zv (.fld 3) 0 ?_))
 refine zs (hH.q 0 rfl) .lc 1 ?_
 refine zv (.nu (wd N1 3) hn3 (by decide) a1 (kk:=.u64) (j:=9223372036854775807)) 1 ?_
 refine zv (.fld 3) 0 ?_
 refine ze0 0 hH rfl .sc trivial ?_
 clear hH
 rintro _ _ w rfl hH
 refine zn ?_
 replace hH:HH w0 [] [[bl g1 170 (cN N1)],[bl g2 170 z4]] w:=by unfold cN; rw [x0,x1,x2]; exact hH
 refine zr (zs (hH.q 0 rfl) (.lr 4) 3 ?_)
 refine zv .mv 2 ?_
 refine zv (.mu (19*t) (m:=19) (hz:=e2)) 1 ?_
 refine zm hH (.call Tryz.func174 (p1.does)) trivial 3 ?_
 clear hH
 rintro _ _ w ⟨rfl,rfl⟩ hH
 replace hH:HH w0 [] [[bl g1 170 (cN N1)],[bl g2 170 z4]] w:=hH.unpad
 refine zv .mv 1 ?_
 refine zv .ext 0 ?_
 refine zv .ext 2 ?_
 refine ze0 0 hH rfl (.sr 4) trivial ?_
 clear hH
 rintro _ _ w rfl hH
 refine zn (zr (zs (hH.q 0 rfl) (.lr 4) 3 ?_))
 refine zm hH (.call Tryz.func174 (p2.does)) trivial 1 ?_
 clear hH
 rintro _ _ w ⟨rfl,rfl⟩ hH
 replace hH:HH w0 [] [[bl g1 170 (cN m)],[bl g2 170 z4]] w:=hH.unpad
 refine zv .mv 1 ?_
 refine zv .ext 0 ?_
 refine zv .ext 2 ?_
 refine zm hH (.az (.agg z4)) trivial 0 ?_
 clear hH
 rintro _ _ w ⟨g3,rfl,rfl⟩ hH
 refine ze0 2 hH rfl (.sr 4) trivial ?_
 clear hH
 rintro _ _ w rfl hH
 refine zv .mv 6 ?_
 refine zn (zr (zs (hH.q 0 rfl) (.lr 4) 1 ?_))
 refine zv (.fld 3) 2 ?_
 refine zs (hH.q 2 rfl) .lc 1 ?_
 refine zv (.su q (j:=63) (hz:=e3)) 1 ?_
 refine zv (.mu (19*q) (m:=19) (hz:=e5)) 1 ?_
 refine zm hH (.call Tryz.func174 (p3.does)) trivial 3 ?_
 clear hH
 rintro _ _ w ⟨rfl,rfl⟩ hH
 replace hH:HH w0 [] [[bl g1 170 (cN m)],[bl g2 170 z4],[bl g3 170 (cN u)]] w:=hH.unpad
 refine zv .mv 1 ?_
 refine zv .ext 0 ?_
 refine zv .ext 2 ?_
 refine ze0 0 hH rfl (.sr 4) trivial ?_
 clear hH
 rintro _ _ w rfl hH
 refine zn (zr (zv (.fld 3) 3 ?_))
 refine zs (hH.q 0 rfl) .lc 1 ?_
 refine zv (.nu (wd P 3) hz3 (by decide) a2 (kk:=.u64) (j:=9223372036854775807)) 1 ?_
 refine zv (.fld 3) 0 ?_
 refine ze0 0 hH rfl .sc trivial ?_
 clear hH
 rintro _ _ w rfl hH
 refine zn ?_
 replace hH:HH w0 [] [[bl g1 170 (cN P)],[bl g2 170 z4],[bl g3 170 (cN u)]] w:=by unfold cN; rw [y0,y1,y2]; exact hH
 refine zr (zs (hH.q 0 rfl) (.lr 4) 11 ?_)
 refine ze0 1 hH rfl (.sr 4) trivial ?_
 clear hH
 rintro _ _ w rfl hH
 refine zn (cxRet (qxRetC 1 (hH.blk 1 rfl) rfl rfl (by kernel_rfl) rfl (by kernel_rfl) ?_))
 exact ⟨rfl,HH.toBelow hH⟩
theorem raise_p (n k:Nat) (hn:n<2^256) (hk:k<1000000):Pure Tryz.prog 163 #[(vN n),(.int .i64 (((k):Nat):Int))] (fun _=>True) (vN (rs n k)):=by
 refine pure_of (fn:=Tryz.f163) Tryz.func163 rfl Tryz.ntmps163 (Nat.le_of_ble_eq_true rfl) rfl ?_
 intro w0 hH hR
 refine zr (zm hH .bg trivial 1 ?_)
 clear hH
 rintro _ _ w ⟨g1,rfl,rfl⟩ hH
 refine zm hH (.az (.agg z4)) trivial 0 ?_
 clear hH
 rintro _ _ w ⟨g2,rfl,rfl⟩ hH
 refine zn (cxSeq (zr (zv .mv 4 ?_)))
 refine zv .mv 0 ?_
 refine zn (cxBlock (zL1 (fun (j:Nat)=>[(6,(.int .i64 (((j):Nat):Int))),(5,(.int .i64 (((k):Nat):Int))),(4,(.pointer (some ⟨g2,0,none⟩))),(2,(.pointer (some ⟨g1,0,none⟩)))]) (fun j w=>HH w0 [] [[bl g1 170 (cN (rs n j))],[bl g2 170 z4]] w∧(j≤k)) (fun j=>k - j) 0 ⟨hH,(Nat.zero_le _)⟩ ?_))
 clear hH
 rintro j w ⟨hH,hj⟩
 refine zr (zv (.lt (j<k)) 0 ?_)
 refine zn (cxSeq ?_)
 refine zP (fun hc3 => ?_) (fun hc3 => ?_)
 refine cxSkip (qxThen (cxSeq (cxBlock (cxReg (zs (hH.q 0 rfl) (.lr 4) 1 ?_)))))
 refine zs (hH.q 0 rfl) (.lr 4) 0 ?_
 refine zc Tryz.func137 (times_p (rs n j) (rs n j) (rs_lt hn j) (rs_lt hn j)) trivial hH 3 ?_
 clear hH
 intro w hH
 refine ze0 0 hH rfl (.sr 4) trivial ?_
 clear hH
 rintro _ _ w rfl hH
 refine pxEnd (qxInN (qxThen (cxReg (zv (.add ((j+1:Nat):Int)) 3 ?_))))
 refine zv .mv 1 ?_
 refine pxEnd ?_
 exact zR1 (j+1) ⟨hH,(by omega)⟩ (by omega)
 refine cxExit (qxThenE (qxThenE (qxInE (qxThen ?_))))
 obtain rfl:j=k:=by omega
 refine zr (zs (hH.q 0 rfl) (.lr 4) 23 ?_)
 refine ze0 1 hH rfl (.sr 4) trivial ?_
 clear hH
 rintro _ _ w rfl hH
 refine zn (cxRet (qxRetC 1 (hH.blk 1 rfl) rfl rfl (by kernel_rfl) rfl (by kernel_rfl) ?_))
 exact ⟨rfl,HH.toBelow hH⟩
theorem ones_p (n:Nat) (hn:n<2^256):Pure Tryz.prog 164 #[(vN n)] (fun _=>True) (vN (o250 n)):=by
 refine pure_of (fn:=Tryz.f164) Tryz.func164 rfl Tryz.ntmps164 (Nat.le_of_ble_eq_true rfl) rfl ?_
 intro w0 hH hR
 refine zr (zm hH .bg trivial 1 ?_)
 clear hH
 rintro _ _ w ⟨g1,rfl,rfl⟩ hH
 refine zm hH (.az (.agg z4)) trivial 0 ?_
 clear hH
 rintro _ _ w ⟨g2,rfl,rfl⟩ hH
 refine zn (zx ?_)
 replace hH:=hH.drew
 refine rxPg 0 [ldv 0 12 [] [] [1000] fun G=>(vN n),pv 1 13 [0] [] fun G=>(vN (rs n 1)),ldv 2 14 [] [] [1000] fun G=>(vN n),pv 3 15 [1,2] [] fun G=>(vN (o2 n)),alv 4 3 [] [] fun G g=>[bl g 170 z4],stv 5 [3,4] [4] 4 fun G=>[bl (G 4).g 170 (cN (o2 n))]] (fun G=>[(3,(.pointer (some ⟨(G 4).g,0,none⟩))),(2,(.pointer (some ⟨g2,0,none⟩))),(1,(.pointer (some ⟨g1,0,none⟩)))]) (fun G=>[[bl g1 170 (cN n)],[bl g2 170 z4],[bl (G 4).g 170 (cN (o2 n))]]) hH (.c (.ld (fun G _ _ hH=>(hH.q 0 rfl)) fun G=>(.lr 4)) <| .c (Sp.c Tryz.func163 (fun G=>(raise_p n 1 hn (by decide))) fun _=>trivial) <| .c (.ld (fun G _ _ hH=>(hH.q 0 rfl)) fun G=>(.lr 4)) <| .c (Sp.c Tryz.func137 (fun G=>(times_p (rs n 1) n (rs_lt hn 1) hn)) fun _=>trivial) <| .c (.a (fun _ _ _ _=>trivial) (fun G=>(.az (.agg z4))) fun _ _ _ h=>h) <| .c (.tn (fun G=>(.sr 4 (cs:=z4))) (fun _ _ _ _=>trivial) fun _ _ _ h=>h) <| .nil) ?_
 clear hH
 rintro G w - hH
 revert hH
 generalize (G 4).g=g3
 intro hH
 refine rn ?_
 refine zx ?_
 replace hH:=hH.drew
 refine rxPg 0 [ldv 0 16 [] [] [1002] fun G=>(vN (o2 n)),pv 1 17 [0] [] fun G=>(vN (rs (o2 n) 2)),ldv 2 18 [] [] [1002] fun G=>(vN (o2 n)),pv 3 19 [1,2] [] fun G=>(vN (o4 n)),alv 4 4 [] [] fun G g=>[bl g 170 z4],stv 5 [3,4] [4] 4 fun G=>[bl (G 4).g 170 (cN (o4 n))]] (fun G=>[(4,(.pointer (some ⟨(G 4).g,0,none⟩))),(2,(.pointer (some ⟨g2,0,none⟩))),(1,(.pointer (some ⟨g1,0,none⟩)))]) (fun G=>[[bl g1 170 (cN n)],[bl g2 170 z4],[bl g3 170 (cN (o2 n))],[bl (G 4).g 170 (cN (o4 n))]]) hH (.c (.ld (fun G _ _ hH=>(hH.q 0 rfl)) fun G=>(.lr 4)) <| .c (Sp.c Tryz.func163 (fun G=>(raise_p (o2 n) 2 (o2_lt hn) (by decide))) fun _=>trivial) <| .c (.ld (fun G _ _ hH=>(hH.q 0 rfl)) fun G=>(.lr 4)) <| .c (Sp.c Tryz.func137 (fun G=>(times_p (rs (o2 n) 2) (o2 n) (rs_lt (o2_lt hn) 2) (o2_lt hn))) fun _=>trivial) <| .c (.a (fun _ _ _ _=>trivial) (fun G=>(.az (.agg z4))) fun _ _ _ h=>h) <| .c (.tn (fun G=>(.sr 4 (cs:=z4))) (fun _ _ _ _=>trivial) fun _ _ _ h=>h) <| .nil) ?_
 clear hH
 rintro G w - hH
 revert hH
 generalize (G 4).g=g4
 intro hH
 refine rn ?_
 refine zx ?_
 replace hH:=hH.drew
 refine rxPg 0 [ldv 0 20 [] [] [1003] fun G=>(vN (o4 n)),pv 1 21 [0] [] fun G=>(vN (rs (o4 n) 1)),ldv 2 22 [] [] [1000] fun G=>(vN n),pv 3 23 [1,2] [] fun G=>(vN (o5 n)),alv 4 5 [] [] fun G g=>[bl g 170 z4],stv 5 [3,4] [4] 4 fun G=>[bl (G 4).g 170 (cN (o5 n))]] (fun G=>[(5,(.pointer (some ⟨(G 4).g,0,none⟩))),(2,(.pointer (some ⟨g2,0,none⟩)))]) (fun G=>[[bl g1 170 (cN n)],[bl g2 170 z4],[bl g3 170 (cN (o2 n))],[bl g4 170 (cN (o4 n))],[bl (G 4).g 170 (cN (o5 n))]]) hH (.c (.ld (fun G _ _ hH=>(hH.q 0 rfl)) fun G=>(.lr 4)) <| .c (Sp.c Tryz.func163 (fun G=>(raise_p (o4 n) 1 (o4_lt hn) (by decide))) fun _=>trivial) <| .c (.ld (fun G _ _ hH=>(hH.q 0 rfl)) fun G=>(.lr 4)) <| .c (Sp.c Tryz.func137 (fun G=>(times_p (rs (o4 n) 1) n (rs_lt (o4_lt hn) 1) hn)) fun _=>trivial) <| .c (.a (fun _ _ _ _=>trivial) (fun G=>(.az (.agg z4))) fun _ _ _ h=>h) <| .c (.tn (fun G=>(.sr 4 (cs:=z4))) (fun _ _ _ _=>trivial) fun _ _ _ h=>h) <| .nil) ?_
 clear hH
 rintro G w - hH
 revert hH
 generalize (G 4).g=g5
 intro hH
 refine rn ?_
 refine zx ?_
 replace hH:=hH.drew
 refine rxPg 0 [ldv 0 24 [] [] [1004] fun G=>(vN (o5 n)),pv 1 25 [0] [] fun G=>(vN (rs (o5 n) 5)),ldv 2 26 [] [] [1004] fun G=>(vN (o5 n)),pv 3 27 [1,2] [] fun G=>(vN (o10 n)),alv 4 6 [] [] fun G g=>[bl g 170 z4],stv 5 [3,4] [4] 4 fun G=>[bl (G 4).g 170 (cN (o10 n))]] (fun G=>[(6,(.pointer (some ⟨(G 4).g,0,none⟩))),(2,(.pointer (some ⟨g2,0,none⟩)))]) (fun G=>[[bl g1 170 (cN n)],[bl g2 170 z4],[bl g3 170 (cN (o2 n))],[bl g4 170 (cN (o4 n))],[bl g5 170 (cN (o5 n))],[bl (G 4).g 170 (cN (o10 n))]]) hH (.c (.ld (fun G _ _ hH=>(hH.q 0 rfl)) fun G=>(.lr 4)) <| .c (Sp.c Tryz.func163 (fun G=>(raise_p (o5 n) 5 (o5_lt hn) (by decide))) fun _=>trivial) <| .c (.ld (fun G _ _ hH=>(hH.q 0 rfl)) fun G=>(.lr 4)) <| .c (Sp.c Tryz.func137 (fun G=>(times_p (rs (o5 n) 5) (o5 n) (rs_lt (o5_lt hn) 5) (o5_lt hn))) fun _=>trivial) <| .c (.a (fun _ _ _ _=>trivial) (fun G=>(.az (.agg z4))) fun _ _ _ h=>h) <| .c (.tn (fun G=>(.sr 4 (cs:=z4))) (fun _ _ _ _=>trivial) fun _ _ _ h=>h) <| .nil) ?_
 clear hH
 rintro G w - hH
 revert hH
 generalize (G 4).g=g6
 intro hH
 refine rn ?_
 refine zx ?_
 replace hH:=hH.drew
 refine rxPg 0 [ldv 0 28 [] [] [1005] fun G=>(vN (o10 n)),pv 1 29 [0] [] fun G=>(vN (rs (o10 n) 10)),ldv 2 30 [] [] [1005] fun G=>(vN (o10 n)),pv 3 31 [1,2] [] fun G=>(vN (o20 n)),alv 4 7 [] [] fun G g=>[bl g 170 z4],stv 5 [3,4] [4] 4 fun G=>[bl (G 4).g 170 (cN (o20 n))]] (fun G=>[(7,(.pointer (some ⟨(G 4).g,0,none⟩))),(6,(.pointer (some ⟨g6,0,none⟩))),(2,(.pointer (some ⟨g2,0,none⟩)))]) (fun G=>[[bl g1 170 (cN n)],[bl g2 170 z4],[bl g3 170 (cN (o2 n))],[bl g4 170 (cN (o4 n))],[bl g5 170 (cN (o5 n))],[bl g6 170 (cN (o10 n))],[bl (G 4).g 170 (cN (o20 n))]]) hH (.c (.ld (fun G _ _ hH=>(hH.q 0 rfl)) fun G=>(.lr 4)) <| .c (Sp.c Tryz.func163 (fun G=>(raise_p (o10 n) 10 (o10_lt hn) (by decide))) fun _=>trivial) <| .c (.ld (fun G _ _ hH=>(hH.q 0 rfl)) fun G=>(.lr 4)) <| .c (Sp.c Tryz.func137 (fun G=>(times_p (rs (o10 n) 10) (o10 n) (rs_lt (o10_lt hn) 10) (o10_lt hn))) fun _=>trivial) <| .c (.a (fun _ _ _ _=>trivial) (fun G=>(.az (.agg z4))) fun _ _ _ h=>h) <| .c (.tn (fun G=>(.sr 4 (cs:=z4))) (fun _ _ _ _=>trivial) fun _ _ _ h=>h) <| .nil) ?_
 clear hH
 rintro G w - hH
 revert hH
 generalize (G 4).g=g7
 intro hH
 refine rn ?_
 refine zx ?_
 replace hH:=hH.drew
 refine rxPg 0 [ldv 0 32 [] [] [1006] fun G=>(vN (o20 n)),pv 1 33 [0] [] fun G=>(vN (rs (o20 n) 20)),ldv 2 34 [] [] [1006] fun G=>(vN (o20 n)),pv 3 35 [1,2] [] fun G=>(vN (o40 n)),alv 4 8 [] [] fun G g=>[bl g 170 z4],stv 5 [3,4] [4] 4 fun G=>[bl (G 4).g 170 (cN (o40 n))]] (fun G=>[(8,(.pointer (some ⟨(G 4).g,0,none⟩))),(6,(.pointer (some ⟨g6,0,none⟩))),(2,(.pointer (some ⟨g2,0,none⟩)))]) (fun G=>[[bl g1 170 (cN n)],[bl g2 170 z4],[bl g3 170 (cN (o2 n))],[bl g4 170 (cN (o4 n))],[bl g5 170 (cN (o5 n))],[bl g6 170 (cN (o10 n))],[bl g7 170 (cN (o20 n))],[bl (G 4).g 170 (cN (o40 n))]]) hH (.c (.ld (fun G _ _ hH=>(hH.q 0 rfl)) fun G=>(.lr 4)) <| .c (Sp.c Tryz.func163 (fun G=>(raise_p (o20 n) 20 (o20_lt hn) (by decide))) fun _=>trivial) <| .c (.ld (fun G _ _ hH=>(hH.q 0 rfl)) fun G=>(.lr 4)) <| .c (Sp.c Tryz.func137 (fun G=>(times_p (rs (o20 n) 20) (o20 n) (rs_lt (o20_lt hn) 20) (o20_lt hn))) fun _=>trivial) <| .c (.a (fun _ _ _ _=>trivial) (fun G=>(.az (.agg z4))) fun _ _ _ h=>h) <| .c (.tn (fun G=>(.sr 4 (cs:=z4))) (fun _ _ _ _=>trivial) fun _ _ _ h=>h) <| .nil) ?_
 clear hH
 rintro G w - hH
 revert hH
 generalize (G 4).g=g8
 intro hH
 refine rn ?_
 refine zx ?_
 replace hH:=hH.drew
 refine rxPg 0 [ldv 0 36 [] [] [1007] fun G=>(vN (o40 n)),pv 1 37 [0] [] fun G=>(vN (rs (o40 n) 10)),ldv 2 38 [] [] [1005] fun G=>(vN (o10 n)),pv 3 39 [1,2] [] fun G=>(vN (o50 n)),alv 4 9 [] [] fun G g=>[bl g 170 z4],stv 5 [3,4] [4] 4 fun G=>[bl (G 4).g 170 (cN (o50 n))]] (fun G=>[(9,(.pointer (some ⟨(G 4).g,0,none⟩))),(2,(.pointer (some ⟨g2,0,none⟩)))]) (fun G=>[[bl g1 170 (cN n)],[bl g2 170 z4],[bl g3 170 (cN (o2 n))],[bl g4 170 (cN (o4 n))],[bl g5 170 (cN (o5 n))],[bl g6 170 (cN (o10 n))],[bl g7 170 (cN (o20 n))],[bl g8 170 (cN (o40 n))],[bl (G 4).g 170 (cN (o50 n))]]) hH (.c (.ld (fun G _ _ hH=>(hH.q 0 rfl)) fun G=>(.lr 4)) <| .c (Sp.c Tryz.func163 (fun G=>(raise_p (o40 n) 10 (o40_lt hn) (by decide))) fun _=>trivial) <| .c (.ld (fun G _ _ hH=>(hH.q 0 rfl)) fun G=>(.lr 4)) <| .c (Sp.c Tryz.func137 (fun G=>(times_p (rs (o40 n) 10) (o10 n) (rs_lt (o40_lt hn) 10) (o10_lt hn))) fun _=>trivial) <| .c (.a (fun _ _ _ _=>trivial) (fun G=>(.az (.agg z4))) fun _ _ _ h=>h) <| .c (.tn (fun G=>(.sr 4 (cs:=z4))) (fun _ _ _ _=>trivial) fun _ _ _ h=>h) <| .nil) ?_
 clear hH
 rintro G w - hH
 revert hH
 generalize (G 4).g=g9
 intro hH
 refine rn ?_
 refine zx ?_
 replace hH:=hH.drew
 refine rxPg 0 [ldv 0 40 [] [] [1008] fun G=>(vN (o50 n)),pv 1 41 [0] [] fun G=>(vN (rs (o50 n) 50)),ldv 2 42 [] [] [1008] fun G=>(vN (o50 n)),pv 3 43 [1,2] [] fun G=>(vN (o100 n)),alv 4 10 [] [] fun G g=>[bl g 170 z4],stv 5 [3,4] [4] 4 fun G=>[bl (G 4).g 170 (cN (o100 n))]] (fun G=>[(10,(.pointer (some ⟨(G 4).g,0,none⟩))),(9,(.pointer (some ⟨g9,0,none⟩))),(2,(.pointer (some ⟨g2,0,none⟩)))]) (fun G=>[[bl g1 170 (cN n)],[bl g2 170 z4],[bl g3 170 (cN (o2 n))],[bl g4 170 (cN (o4 n))],[bl g5 170 (cN (o5 n))],[bl g6 170 (cN (o10 n))],[bl g7 170 (cN (o20 n))],[bl g8 170 (cN (o40 n))],[bl g9 170 (cN (o50 n))],[bl (G 4).g 170 (cN (o100 n))]]) hH (.c (.ld (fun G _ _ hH=>(hH.q 0 rfl)) fun G=>(.lr 4)) <| .c (Sp.c Tryz.func163 (fun G=>(raise_p (o50 n) 50 (o50_lt hn) (by decide))) fun _=>trivial) <| .c (.ld (fun G _ _ hH=>(hH.q 0 rfl)) fun G=>(.lr 4)) <| .c (Sp.c Tryz.func137 (fun G=>(times_p (rs (o50 n) 50) (o50 n) (rs_lt (o50_lt hn) 50) (o50_lt hn))) fun _=>trivial) <| .c (.a (fun _ _ _ _=>trivial) (fun G=>(.az (.agg z4))) fun _ _ _ h=>h) <| .c (.tn (fun G=>(.sr 4 (cs:=z4))) (fun _ _ _ _=>trivial) fun _ _ _ h=>h) <| .nil) ?_
 clear hH
 rintro G w - hH
 revert hH
 generalize (G 4).g=g10
 intro hH
 refine rn ?_
 refine zx ?_
 replace hH:=hH.drew
 refine rxPg 0 [ldv 0 44 [] [] [1009] fun G=>(vN (o100 n)),pv 1 45 [0] [] fun G=>(vN (rs (o100 n) 100)),ldv 2 46 [] [] [1009] fun G=>(vN (o100 n)),pv 3 47 [1,2] [] fun G=>(vN (o200 n)),alv 4 11 [] [] fun G g=>[bl g 170 z4],stv 5 [3,4] [4] 4 fun G=>[bl (G 4).g 170 (cN (o200 n))]] (fun G=>[(11,(.pointer (some ⟨(G 4).g,0,none⟩))),(9,(.pointer (some ⟨g9,0,none⟩))),(2,(.pointer (some ⟨g2,0,none⟩)))]) (fun G=>[[bl g1 170 (cN n)],[bl g2 170 z4],[bl g3 170 (cN (o2 n))],[bl g4 170 (cN (o4 n))],[bl g5 170 (cN (o5 n))],[bl g6 170 (cN (o10 n))],[bl g7 170 (cN (o20 n))],[bl g8 170 (cN (o40 n))],[bl g9 170 (cN (o50 n))],[bl g10 170 (cN (o100 n))],[bl (G 4).g 170 (cN (o200 n))]]) hH (.c (.ld (fun G _ _ hH=>(hH.q 0 rfl)) fun G=>(.lr 4)) <| .c (Sp.c Tryz.func163 (fun G=>(raise_p (o100 n) 100 (o100_lt hn) (by decide))) fun _=>trivial) <| .c (.ld (fun G _ _ hH=>(hH.q 0 rfl)) fun G=>(.lr 4)) <| .c (Sp.c Tryz.func137 (fun G=>(times_p (rs (o100 n) 100) (o100 n) (rs_lt (o100_lt hn) 100) (o100_lt hn))) fun _=>trivial) <| .c (.a (fun _ _ _ _=>trivial) (fun G=>(.az (.agg z4))) fun _ _ _ h=>h) <| .c (.tn (fun G=>(.sr 4 (cs:=z4))) (fun _ _ _ _=>trivial) fun _ _ _ h=>h) <| .nil) ?_
 clear hH
 rintro G w - hH
 revert hH
 generalize (G 4).g=g11
 intro hH
 refine rn ?_
 refine zx ?_
 replace hH:=hH.drew
 refine rld 0 (hH.q 10 rfl) (.lr 4) 1 ?_
 refine rld 2 (hH.q 8 rfl) (.lr 4) 2 ?_
 refine rx1k 1 (rpc 1 Tryz.func163 (raise_p (o200 n) 50 (o200_lt hn) (by decide)) trivial hH 2 (.keep (pgo [] (.nil _ []))) ?_)
 clear hH
 intro w hH
 refine ⟨pcons (hH.blk 8 rfl) pnil,?_⟩
 refine rx1k 3 (rpc 3 Tryz.func137 (times_p (rs (o200 n) 50) (o50 n) (rs_lt (o200_lt hn) 50) (o50_lt hn)) trivial hH 3 (pgo [] (.nil _ [])) ?_)
 clear hH
 intro w hH
 refine ⟨pnil,rx1k 4 ?_⟩
 refine re0 4 1 hH rfl (.sr 4) trivial (.nil _ []) ?_
 clear hH
 rintro _ _ w rfl hH
 refine ⟨pnil,rn ?_⟩
 refine cxRet (qxRetC 1 (hH.blk 1 rfl) rfl rfl (by kernel_rfl) rfl (by kernel_rfl) ?_)
 exact ⟨rfl,HH.toBelow hH⟩
theorem inverse_p (n:Nat) (hn:n<2^256):Pure Tryz.prog 139 #[(vN n)] (fun _=>True) (vN (iv n)):=by
 refine pure_of (fn:=Tryz.f139) Tryz.func139 rfl Tryz.ntmps139 (Nat.le_of_ble_eq_true rfl) rfl ?_
 intro w0 hH hR
 refine zr (zm hH .bg trivial 1 ?_)
 clear hH
 rintro _ _ w ⟨g1,rfl,rfl⟩ hH
 refine zm hH (.az (.agg z4)) trivial 0 ?_
 clear hH
 rintro _ _ w ⟨g2,rfl,rfl⟩ hH
 refine zn (zx ?_)
 replace hH:=hH.drew
 refine rxPg 0 [ldv 0 5 [] [] [1000] fun G=>(vN n),pv 1 6 [0] [] fun G=>(vN (rs n 1)),ldv 2 7 [] [] [1000] fun G=>(vN n),pv 3 8 [1,2] [] fun G=>(vN (i3 n)),alv 4 3 [] [] fun G g=>[bl g 170 z4],stv 5 [3,4] [4] 4 fun G=>[bl (G 4).g 170 (cN (i3 n))]] (fun G=>[(3,(.pointer (some ⟨(G 4).g,0,none⟩))),(2,(.pointer (some ⟨g2,0,none⟩))),(1,(.pointer (some ⟨g1,0,none⟩)))]) (fun G=>[[bl g1 170 (cN n)],[bl g2 170 z4],[bl (G 4).g 170 (cN (i3 n))]]) hH (.c (.ld (fun G _ _ hH=>(hH.q 0 rfl)) fun G=>(.lr 4)) <| .c (Sp.c Tryz.func163 (fun G=>(raise_p n 1 hn (by decide))) fun _=>trivial) <| .c (.ld (fun G _ _ hH=>(hH.q 0 rfl)) fun G=>(.lr 4)) <| .c (Sp.c Tryz.func137 (fun G=>(times_p (rs n 1) n (rs_lt hn 1) hn)) fun _=>trivial) <| .c (.a (fun _ _ _ _=>trivial) (fun G=>(.az (.agg z4))) fun _ _ _ h=>h) <| .c (.tn (fun G=>(.sr 4 (cs:=z4))) (fun _ _ _ _=>trivial) fun _ _ _ h=>h) <| .nil) ?_
 clear hH
 rintro G w - hH
 revert hH
 generalize (G 4).g=g3
 intro hH
 refine rn ?_
 refine zx ?_
 replace hH:=hH.drew
 refine rxPg 0 [ldv 0 9 [] [] [1000] fun G=>(vN n),pv 1 10 [0] [] fun G=>(vN (rs n 3)),ldv 2 11 [] [] [1002] fun G=>(vN (i3 n)),pv 3 12 [1,2] [] fun G=>(vN (i11 n)),alv 4 4 [] [] fun G g=>[bl g 170 z4],stv 5 [3,4] [4] 4 fun G=>[bl (G 4).g 170 (cN (i11 n))]] (fun G=>[(4,(.pointer (some ⟨(G 4).g,0,none⟩))),(2,(.pointer (some ⟨g2,0,none⟩))),(1,(.pointer (some ⟨g1,0,none⟩)))]) (fun G=>[[bl g1 170 (cN n)],[bl g2 170 z4],[bl g3 170 (cN (i3 n))],[bl (G 4).g 170 (cN (i11 n))]]) hH (.c (.ld (fun G _ _ hH=>(hH.q 0 rfl)) fun G=>(.lr 4)) <| .c (Sp.c Tryz.func163 (fun G=>(raise_p n 3 hn (by decide))) fun _=>trivial) <| .c (.ld (fun G _ _ hH=>(hH.q 0 rfl)) fun G=>(.lr 4)) <| .c (Sp.c Tryz.func137 (fun G=>(times_p (rs n 3) (i3 n) (rs_lt hn 3) (i3_lt hn))) fun _=>trivial) <| .c (.a (fun _ _ _ _=>trivial) (fun G=>(.az (.agg z4))) fun _ _ _ h=>h) <| .c (.tn (fun G=>(.sr 4 (cs:=z4))) (fun _ _ _ _=>trivial) fun _ _ _ h=>h) <| .nil) ?_
 clear hH
 rintro G w - hH
 revert hH
 generalize (G 4).g=g4
 intro hH
 refine rn ?_
 refine zx ?_
 replace hH:=hH.drew
 refine rld 0 (hH.q 0 rfl) (.lr 4) 4 ?_
 refine rld 3 (hH.q 3 rfl) (.lr 4) 2 ?_
 refine rx1k 1 (rpc 1 Tryz.func164 (ones_p n hn) trivial hH 2 (.keep (pgo [] (.nil _ []))) ?_)
 clear hH
 intro w hH
 refine ⟨pcons (hH.blk 3 rfl) pnil,?_⟩
 refine rx1k 2 (rpc 2 Tryz.func163 (raise_p (o250 n) 5 (o250_lt hn) (by decide)) trivial hH 1 (.keep (.nil _ [])) ?_)
 clear hH
 intro w hH
 refine ⟨pcons (hH.blk 3 rfl) pnil,?_⟩
 refine rx1k 4 (rpc 4 Tryz.func137 (times_p (rs (o250 n) 5) (i11 n) (rs_lt (o250_lt hn) 5) (i11_lt hn)) trivial hH 3 (pgo [] (.nil _ [])) ?_)
 clear hH
 intro w hH
 refine ⟨pnil,rx1k 5 ?_⟩
 refine re0 5 1 hH rfl (.sr 4) trivial (.nil _ []) ?_
 clear hH
 rintro _ _ w rfl hH
 refine ⟨pnil,rn ?_⟩
 refine cxRet (qxRetC 1 (hH.blk 1 rfl) rfl rfl (by kernel_rfl) rfl (by kernel_rfl) ?_)
 exact ⟨rfl,HH.toBelow hH⟩
end Go.Proofs.YtajppfmjbkebfaaGreatDoor

namespace Go.Proofs.YtajppfmjbkebfaaGreatDoor
open Go Go.RowKit
set_option maxRecDepth 100000
theorem word_byte (V i k:Nat) (hk:k<8):UInt8.ofNat (wd V i / 2^(8*k))=byteN V (8*i+k):=by
 apply UInt8.toNat_inj.1
 have h:=byte_of_word V (8*i+k)
 rw [show (8*i+k) / 8=i by omega,show (8*i+k)%8=k by omega] at h
 rw [UInt8.toNat_ofNat',byteN_nat,← h]
theorem arr_putO {n o j:Nat} (f:Nat→UInt8) (b:UInt8) (ho:o=j) (hj:j<n):putL ((cArr n).enc f) o (cByte.enc b).toList=(cArr n).enc (stF f j b):=by
 subst ho
 have:=arr_set0 f b hj
 rw [Nat.zero_add,Nat.mul_one] at this
 exact this
theorem put_word (V i:Nat) (f:Nat→UInt8):stF (stF (stF (stF (stF (stF (stF (stF f (8*i+0) (UInt8.ofNat (wd V i))) (8*i+1) (UInt8.ofNat (wd V i / 2^8))) (8*i+2) (UInt8.ofNat (wd V i / 2^16))) (8*i+3) (UInt8.ofNat (wd V i / 2^24))) (8*i+4) (UInt8.ofNat (wd V i / 2^32))) (8*i+5) (UInt8.ofNat (wd V i / 2^40))) (8*i+6) (UInt8.ofNat (wd V i / 2^48))) (8*i+7) (UInt8.ofNat (wd V i / 2^56))=putW V i f:=by
 have h:∀ k,k<8→UInt8.ofNat (wd V i / 2^(8*k))=byteN V (8*i+k):=fun k hk=>word_byte V i k hk
 have h0:=h 0 (by decide)
 rw [show (2:Nat)^(8*0)=1 from rfl,Nat.div_one] at h0
 rw [h0,show UInt8.ofNat (wd V i / 2^8)=_ from h 1 (by decide),show UInt8.ofNat (wd V i / 2^16)=_ from h 2 (by decide),show UInt8.ofNat (wd V i / 2^24)=_ from h 3 (by decide),show UInt8.ofNat (wd V i / 2^32)=_ from h 4 (by decide),show UInt8.ofNat (wd V i / 2^40)=_ from h 5 (by decide),show UInt8.ofNat (wd V i / 2^48)=_ from h 6 (by decide),show UInt8.ofNat (wd V i / 2^56)=_ from h 7 (by decide)]
 clear h h0
 funext j
 unfold putW
 by_cases hj:8*i≤j∧j<8*i+8
 ·rw [if_pos hj]
  obtain ⟨k,rfl⟩:∃ k,j=8*i+k:=⟨j - 8*i,by omega⟩
  have hk:k=0 ∨ k=1 ∨ k=2 ∨ k=3 ∨ k=4 ∨ k=5 ∨ k=6 ∨ k=7:=by omega
  rcases hk with rfl | rfl | rfl | rfl | rfl | rfl | rfl | rfl <;> simp [stF]
 ·rw [if_neg hj]
  have hne:∀ k,k<8→j≠8*i+k:=fun k hk h=>hj (by omega)
  unfold stF
  rw [if_neg (hne 7 (by decide)),if_neg (hne 6 (by decide)),if_neg (hne 5 (by decide)),if_neg (hne 4 (by decide)),if_neg (hne 3 (by decide)),if_neg (hne 2 (by decide)),if_neg (hne 1 (by decide)),if_neg (hne 0 (by decide))]
theorem part_at (b:Nat→UInt8) (i j:Nat) (hi:i<4) (hj:j<8):(((lst 32 b).take (8*i+8)).drop (8*i)).getD j 0=b (8*i+j):=by
 rw [List.getD_eq_getElem?_getD,List.getElem?_drop,List.getElem?_take,if_pos (by omega),lst_get (by omega)]
 rfl
theorem part_lv (b:Nat→UInt8) (i:Nat) (hi:i<4):lv (fun j=>(((lst 32 b).take (8*i+8)).drop (8*i)).getD j 0) 8=wd (lv b 32) i:=by
 rw [← lv_wd b i hi]
 exact lv_congr fun j hj=>part_at b i j hi hj
theorem part_len (b:Nat→UInt8) (i:Nat) (hi:i<4):(((lst 32 b).take (8*i+8)).drop (8*i)).length=8:=by
 rw [List.length_drop,List.length_take,lst_len]; omega
theorem word_p (A:Option Addr) (c:Nat) (l:List UInt8) (hl:l.length=8):Pure Tryz.prog 162 #[(.slice A 8 c)] (fun w=>Vu cByte w A 8 c l) (.int .u64 ((lv (fun j=>l.getD j 0) 8:Nat):Int)):=by
 refine pure_of (fn:=Tryz.f162) Tryz.func162 rfl Tryz.ntmps162 (Nat.le_of_ble_eq_true rfl) rfl ?_
 intro w0 hH hR
 obtain ⟨f,hf⟩:∃ f:Nat→UInt8,f=fun j=>l.getD j 0:=⟨_,rfl⟩
 have hx0:l[0]?=some (f 0):=by rw [hf]; show _=some (l.getD 0 0); rw [List.getD_eq_getElem?_getD,List.getElem?_eq_getElem (by omega)]; rfl
 have hx1:l[1]?=some (f 1):=by rw [hf]; show _=some (l.getD 1 0); rw [List.getD_eq_getElem?_getD,List.getElem?_eq_getElem (by omega)]; rfl
 have hx2:l[2]?=some (f 2):=by rw [hf]; show _=some (l.getD 2 0); rw [List.getD_eq_getElem?_getD,List.getElem?_eq_getElem (by omega)]; rfl
 have hx3:l[3]?=some (f 3):=by rw [hf]; show _=some (l.getD 3 0); rw [List.getD_eq_getElem?_getD,List.getElem?_eq_getElem (by omega)]; rfl
 have hx4:l[4]?=some (f 4):=by rw [hf]; show _=some (l.getD 4 0); rw [List.getD_eq_getElem?_getD,List.getElem?_eq_getElem (by omega)]; rfl
 have hx5:l[5]?=some (f 5):=by rw [hf]; show _=some (l.getD 5 0); rw [List.getD_eq_getElem?_getD,List.getElem?_eq_getElem (by omega)]; rfl
 have hx6:l[6]?=some (f 6):=by rw [hf]; show _=some (l.getD 6 0); rw [List.getD_eq_getElem?_getD,List.getElem?_eq_getElem (by omega)]; rfl
 have hx7:l[7]?=some (f 7):=by rw [hf]; show _=some (l.getD 7 0); rw [List.getD_eq_getElem?_getD,List.getElem?_eq_getElem (by omega)]; rfl
 have hb0:=(f 0).toNat_lt
 have h1:(f 0).toNat=lv f 1:=by show _=0+(f 0).toNat*1; omega
 have ho1:=(or_step f 1 (by decide)).1
 rw [← h1] at ho1
 refine zr (zv .mv 0 ?_)
 refine zn (zx ?_)
 replace hH:=hH.drew
 refine rv 0 .mv 0 ?_
 have hi1:0<8:=by omega
 obtain ⟨b2,off3,rfl,hL4,hb5,hR6⟩:=hR.blk (by decide) (Off.nil _ _) (by omega)
 have:=hR.cap
 have hj9:0<l.length:=by first | exact hi1 | (simp only [List.length_drop]; omega) | (simp only [List.length_drop,List.length_take]; omega) | omega
 refine rv 1 (.ix 1 0 (hi:=hi1)) 1 ?_
 refine rld 2 (S:=fun w=>HoldsL cByte w b2 off3 l) (hH.holdsL hL4 hb5 hR6) (.ld cByte (f 0) (fun _ hS=>(hS 0 _ hx0))) 1 ?_
 refine rv 3 (.cu .u64 (hh:=Nat.lt_of_lt_of_le (UInt8.toNat_lt (f 0)) (by decide))) 1 ?_
 refine rv 4 .mv 0 ?_
 have hi10:1<8:=by omega
 have hj13:1<l.length:=by first | exact hi10 | (simp only [List.length_drop]; omega) | (simp only [List.length_drop,List.length_take]; omega) | omega
 refine rv 5 (.ix 1 1 (hi:=hi10)) 1 ?_
 refine rld 6 (S:=fun w=>HoldsL cByte w b2 off3 l) (hH.holdsL hL4 hb5 hR6) (.ld cByte (f 1) (fun _ hS=>(hS 1 _ hx1))) 1 ?_
 refine rv 7 (.cu .u64 (hh:=Nat.lt_of_lt_of_le (UInt8.toNat_lt (f 1)) (by decide))) 1 ?_
 refine rv 8 (.lu ((f 1).toNat*2^(8*1)) (j:=8) (hz:=Nat.mod_eq_of_lt (or_step f 1 (by decide)).2.2)) 1 ?_
 refine rv 9 (.ou (lv f 2) (show (f 0).toNat<2^64 from Nat.lt_of_lt_of_le (UInt8.toNat_lt (f 0)) (by decide)) (or_step f 1 (by decide)).2.2 (ho1)) 3 ?_
 refine rv 10 .mv 0 ?_
 have hi14:2<8:=by omega
 have hj17:2<l.length:=by first | exact hi14 | (simp only [List.length_drop]; omega) | (simp only [List.length_drop,List.length_take]; omega) | omega
 refine rv 11 (.ix 1 2 (hi:=hi14)) 1 ?_
 refine rld 12 (S:=fun w=>HoldsL cByte w b2 off3 l) (hH.holdsL hL4 hb5 hR6) (.ld cByte (f 2) (fun _ hS=>(hS 2 _ hx2))) 1 ?_
 refine rv 13 (.cu .u64 (hh:=Nat.lt_of_lt_of_le (UInt8.toNat_lt (f 2)) (by decide))) 1 ?_
 refine rv 14 (.lu ((f 2).toNat*2^(8*2)) (j:=16) (hz:=Nat.mod_eq_of_lt (or_step f 2 (by decide)).2.2)) 1 ?_
 refine rv 15 (.ou (lv f 3) (or_step f 2 (by decide)).2.1 (or_step f 2 (by decide)).2.2 ((or_step f 2 (by decide)).1)) 3 ?_
 refine rv 16 .mv 0 ?_
 have hi18:3<8:=by omega
 have hj21:3<l.length:=by first | exact hi18 | (simp only [List.length_drop]; omega) | (simp only [List.length_drop,List.length_take]; omega) | omega
 refine rv 17 (.ix 1 3 (hi:=hi18)) 1 ?_
 refine rld 18 (S:=fun w=>HoldsL cByte w b2 off3 l) (hH.holdsL hL4 hb5 hR6) (.ld cByte (f 3) (fun _ hS=>(hS 3 _ hx3))) 1 ?_
 refine rv 19 (.cu .u64 (hh:=Nat.lt_of_lt_of_le (UInt8.toNat_lt (f 3)) (by decide))) 1 ?_
 refine rv 20 (.lu ((f 3).toNat*2^(8*3)) (j:=24) (hz:=Nat.mod_eq_of_lt (or_step f 3 (by decide)).2.2)) 1 ?_
 refine rv 21 (.ou (lv f 4) (or_step f 3 (by decide)).2.1 (or_step f 3 (by decide)).2.2 ((or_step f 3 (by decide)).1)) 3 ?_
 refine rv 22 .mv 0 ?_
 have hi22:4<8:=by omega
 have hj25:4<l.length:=by first | exact hi22 | (simp only [List.length_drop]; omega) | (simp only [List.length_drop,List.length_take]; omega) | omega
 refine rv 23 (.ix 1 4 (hi:=hi22)) 1 ?_
 refine rld 24 (S:=fun w=>HoldsL cByte w b2 off3 l) (hH.holdsL hL4 hb5 hR6) (.ld cByte (f 4) (fun _ hS=>(hS 4 _ hx4))) 1 ?_
 refine rv 25 (.cu .u64 (hh:=Nat.lt_of_lt_of_le (UInt8.toNat_lt (f 4)) (by decide))) 1 ?_
 refine rv 26 (.lu ((f 4).toNat*2^(8*4)) (j:=32) (hz:=Nat.mod_eq_of_lt (or_step f 4 (by decide)).2.2)) 1 ?_
 refine rv 27 (.ou (lv f 5) (or_step f 4 (by decide)).2.1 (or_step f 4 (by decide)).2.2 ((or_step f 4 (by decide)).1)) 3 ?_
 refine rv 28 .mv 0 ?_
 have hi26:5<8:=by omega
 have hj29:5<l.length:=by first | exact hi26 | (simp only [List.length_drop]; omega) | (simp only [List.length_drop,List.length_take]; omega) | omega
 refine rv 29 (.ix 1 5 (hi:=hi26)) 1 ?_
 refine rld 30 (S:=fun w=>HoldsL cByte w b2 off3 l) (hH.holdsL hL4 hb5 hR6) (.ld cByte (f 5) (fun _ hS=>(hS 5 _ hx5))) 1 ?_
 refine rv 31 (.cu .u64 (hh:=Nat.lt_of_lt_of_le (UInt8.toNat_lt (f 5)) (by decide))) 1 ?_
 refine rv 32 (.lu ((f 5).toNat*2^(8*5)) (j:=40) (hz:=Nat.mod_eq_of_lt (or_step f 5 (by decide)).2.2)) 1 ?_
 refine rv 33 (.ou (lv f 6) (or_step f 5 (by decide)).2.1 (or_step f 5 (by decide)).2.2 ((or_step f 5 (by decide)).1)) 3 ?_
 refine rv 34 .mv 0 ?_
 have hi30:6<8:=by omega
 have hj33:6<l.length:=by first | exact hi30 | (simp only [List.length_drop]; omega) | (simp only [List.length_drop,List.length_take]; omega) | omega
 refine rv 35 (.ix 1 6 (hi:=hi30)) 1 ?_
 refine rld 36 (S:=fun w=>HoldsL cByte w b2 off3 l) (hH.holdsL hL4 hb5 hR6) (.ld cByte (f 6) (fun _ hS=>(hS 6 _ hx6))) 1 ?_
 refine rv 37 (.cu .u64 (hh:=Nat.lt_of_lt_of_le (UInt8.toNat_lt (f 6)) (by decide))) 1 ?_
 refine rv 38 (.lu ((f 6).toNat*2^(8*6)) (j:=48) (hz:=Nat.mod_eq_of_lt (or_step f 6 (by decide)).2.2)) 1 ?_
 refine rv 39 (.ou (lv f 7) (or_step f 6 (by decide)).2.1 (or_step f 6 (by decide)).2.2 ((or_step f 6 (by decide)).1)) 3 ?_
 refine rv 40 .mv 4 ?_
 have hi34:7<8:=by omega
 have hj37:7<l.length:=by first | exact hi34 | (simp only [List.length_drop]; omega) | (simp only [List.length_drop,List.length_take]; omega) | omega
 refine rv 41 (.ix 1 7 (hi:=hi34)) 1 ?_
 refine rld 42 (S:=fun w=>HoldsL cByte w b2 off3 l) (hH.holdsL hL4 hb5 hR6) (.ld cByte (f 7) (fun _ hS=>(hS 7 _ hx7))) 1 ?_
 refine rv 43 (.cu .u64 (hh:=Nat.lt_of_lt_of_le (UInt8.toNat_lt (f 7)) (by decide))) 1 ?_
 refine rv 44 (.lu ((f 7).toNat*2^(8*7)) (j:=56) (hz:=Nat.mod_eq_of_lt (or_step f 7 (by decide)).2.2)) 1 ?_
 refine rv 45 (.ou (lv f 8) (or_step f 7 (by decide)).2.1 (or_step f 7 (by decide)).2.2 ((or_step f 7 (by decide)).1)) 3 ?_
 refine rv 46 .mv 3 ?_
 refine rn ?_
 refine cxRet (qxRet1 0 rfl rfl ?_)
 exact ⟨by rw [← hf],HH.toBelow hH⟩
theorem read_p (b:Nat→UInt8):Pure Tryz.prog 138 #[((cArr 32).val b)] (fun _=>True) (vN (lv b 32)):=by
 refine pure_of (fn:=Tryz.f138) Tryz.func138 rfl Tryz.ntmps138 (Nat.le_of_ble_eq_true rfl) rfl ?_
 intro w0 hH hR
 refine zr (zm hH (.bx (cArr 32) b) trivial 1 ?_)
 clear hH
 rintro _ _ w ⟨g1,rfl,rfl⟩ hH
 refine zm hH (.az (.agg z4)) trivial 0 ?_
 clear hH
 rintro _ _ w ⟨g2,rfl,rfl⟩ hH
 refine zn (zx ?_)
 replace hH:=hH.drew
 refine rv 0 (v:=(.slice (some ⟨g1,0+0*1,none⟩) (8 - 0) (32 - 0))) (fun _ _ hF=>opSliceALH (m:=32) (l:=0) (h:=8) (e:=5) (sz:=1) rfl (by kernel_rfl) (by kernel_rfl) (hF.ev 1 rfl) rfl rfl rfl rfl (by omega) (by omega) (by omega)) 0 ?_
 refine rv 2 (v:=(.slice (some ⟨g1,0+8*1,none⟩) (16 - 8) (32 - 8))) (fun _ _ hF=>opSliceALH (m:=32) (l:=8) (h:=16) (e:=5) (sz:=1) rfl (by kernel_rfl) (by kernel_rfl) (hF.ev 2 rfl) rfl rfl rfl rfl (by omega) (by omega) (by omega)) 0 ?_
 refine rv 4 (v:=(.slice (some ⟨g1,0+16*1,none⟩) (24 - 16) (32 - 16))) (fun _ _ hF=>opSliceALH (m:=32) (l:=16) (h:=24) (e:=5) (sz:=1) rfl (by kernel_rfl) (by kernel_rfl) (hF.ev 3 rfl) rfl rfl rfl rfl (by omega) (by omega) (by omega)) 0 ?_
 refine rv 6 (v:=(.slice (some ⟨g1,0+24*1,none⟩) (32 - 24) (32 - 24))) (fun _ _ hF=>opSliceALH (m:=32) (l:=24) (h:=32) (e:=5) (sz:=1) rfl (by kernel_rfl) (by kernel_rfl) (hF.ev 4 rfl) rfl rfl rfl rfl (by omega) (by omega) (by omega)) 16 ?_
 refine rx1k 1 (rpc 1 Tryz.func162 ((word_p (some ⟨g1,0+0*1,none⟩) (32 - 0) _ (part_len b 0 (by decide))).as (congrArg (fun x:Nat=>Value.int .u64 (x:Int)) (part_lv b 0 (by decide)))) (cutA_some (sz:=1) (b:=g1) (off:=0) (c:=32) (k:=0) (by omega) ▸ ((vu_holds (holds_blk0 (hH.blk 0 rfl))).cut (k:=0) (m:=8) (by omega) (by omega))) hH 8 (.nil _ []) ?_)
 clear hH
 intro w hH
 refine ⟨pnil,?_⟩
 refine rx1k 3 (rpc 3 Tryz.func162 ((word_p (some ⟨g1,0+8*1,none⟩) (32 - 8) _ (part_len b 1 (by decide))).as (congrArg (fun x:Nat=>Value.int .u64 (x:Int)) (part_lv b 1 (by decide)))) (cutA_some (sz:=1) (b:=g1) (off:=0) (c:=32) (k:=8) (by omega) ▸ ((vu_holds (holds_blk0 (hH.blk 0 rfl))).cut (k:=8) (m:=16) (by omega) (by omega))) hH 8 (.nil _ []) ?_)
 clear hH
 intro w hH
 refine ⟨pnil,?_⟩
 refine rx1k 5 (rpc 5 Tryz.func162 ((word_p (some ⟨g1,0+16*1,none⟩) (32 - 16) _ (part_len b 2 (by decide))).as (congrArg (fun x:Nat=>Value.int .u64 (x:Int)) (part_lv b 2 (by decide)))) (cutA_some (sz:=1) (b:=g1) (off:=0) (c:=32) (k:=16) (by omega) ▸ ((vu_holds (holds_blk0 (hH.blk 0 rfl))).cut (k:=16) (m:=24) (by omega) (by omega))) hH 8 (.nil _ []) ?_)
 clear hH
 intro w hH
 refine ⟨pnil,?_⟩
 refine rx1k 7 (rpc 7 Tryz.func162 ((word_p (some ⟨g1,0+24*1,none⟩) (32 - 24) _ (part_len b 3 (by decide))).as (congrArg (fun x:Nat=>Value.int .u64 (x:Int)) (part_lv b 3 (by decide)))) (cutA_some (sz:=1) (b:=g1) (off:=0) (c:=32) (k:=24) (by omega) ▸ ((vu_holds (holds_blk0 (hH.blk 0 rfl))).cut (k:=24) (m:=32) (by omega) (by omega))) hH 8 (.nil _ []) ?_)
 clear hH
 intro w hH
 refine ⟨pnil,rv 8 (v:=(vN (lv b 32))) (fun _ _ hF=>opBuildP (cells := #[(.int .u64 (((wd (lv b 32) 0):Nat):Int)),(.int .u64 (((wd (lv b 32) 1):Nat):Int)),(.int .u64 (((wd (lv b 32) 2):Nat):Int)),(.int .u64 (((wd (lv b 32) 3):Nat):Int))]) rfl (EvP.cons (v:=(.int .u64 (((wd (lv b 32) 0):Nat):Int))) (hF.ev 3 rfl) (EvP.cons (v:=(.int .u64 (((wd (lv b 32) 1):Nat):Int))) (hF.ev 2 rfl) (EvP.cons (v:=(.int .u64 (((wd (lv b 32) 2):Nat):Int))) (hF.ev 1 rfl) (EvP.cons (v:=(.int .u64 (((wd (lv b 32) 3):Nat):Int))) (hF.ev 0 rfl) EvP.nil)))) rfl _) 15 ?_⟩
 refine rx1k 9 ?_
 refine re0 9 1 hH rfl (.sr 4) trivial (.nil _ []) ?_
 clear hH
 rintro _ _ w rfl hH
 refine ⟨pnil,rn ?_⟩
 refine cxRet (qxRetC 1 (hH.blk 1 rfl) rfl rfl (by kernel_rfl) rfl (by kernel_rfl) ?_)
 exact ⟨rfl,HH.toBelow hH⟩
theorem putWord_p (g i c V:Nat) (f:Nat→UInt8) (hi:i<4):Does Tryz.prog 159 #[(.slice (some ⟨g,8*i,none⟩) 8 c),(.int .u64 (((wd V i):Nat):Int))] [bl g 22 ((cArr 32).enc f)] (fun _=>True) (fun v E'=>v=.tuple #[]∧E'=[bl g 22 ((cArr 32).enc (putW V i f))]):=by
 refine does_of (fn:=Tryz.f159) Tryz.func159 rfl Tryz.ntmps159 (Nat.le_of_ble_eq_true rfl) rfl ?_
 intro w0 hH hR
 refine zr (zv .mv 0 ?_)
 refine zv .mv 0 ?_
 refine zv .mv 0 ?_
 refine zv .mv 0 ?_
 refine zv .mv 0 ?_
 refine zv .cb 1 ?_
 refine zv .mv 0 ?_
 refine zv (.su ((wd V i) / 2^8) (j:=8)) 1 ?_
 refine zv .cb 1 ?_
 refine zv .mv 0 ?_
 refine zv (.su ((wd V i) / 2^16) (j:=16)) 1 ?_
 refine zv .cb 1 ?_
 refine zv .mv 0 ?_
 refine zv (.su ((wd V i) / 2^24) (j:=24)) 1 ?_
 refine zv .cb 1 ?_
 refine zv (.ix 1 0 (hi:=ltb rfl)) 128 ?_
 refine ze0 0 hH rfl (.st cByte (UInt8.ofNat (wd V i)) (by rw [Cod.size]; show 8*i+0*1+1≤32; omega) (arr_putO (o:=8*i+0*1) (j:=8*i+0) f (UInt8.ofNat (wd V i)) (by omega) (by omega))) trivial ?_
 clear hH
 rintro _ _ w rfl hH
 refine zv (.ix 1 1 (hi:=ltb rfl)) 145 ?_
 refine ze0 0 hH rfl (.st cByte (UInt8.ofNat ((wd V i) / 2^8)) (by rw [Cod.size]; show 8*i+1*1+1≤32; omega) (arr_putO (o:=8*i+1*1) (j:=8*i+1) (stF f (8*i+0) (UInt8.ofNat (wd V i))) (UInt8.ofNat ((wd V i) / 2^8)) (by omega) (by omega))) trivial ?_
 clear hH
 rintro _ _ w rfl hH
 refine zv (.ix 1 2 (hi:=ltb rfl)) 41 ?_
 refine ze0 0 hH rfl (.st cByte (UInt8.ofNat ((wd V i) / 2^16)) (by rw [Cod.size]; show 8*i+2*1+1≤32; omega) (arr_putO (o:=8*i+2*1) (j:=8*i+2) (stF (stF f (8*i+0) (UInt8.ofNat (wd V i))) (8*i+1) (UInt8.ofNat ((wd V i) / 2^8))) (UInt8.ofNat ((wd V i) / 2^16)) (by omega) (by omega))) trivial ?_
 clear hH
 rintro _ _ w rfl hH
 refine zv (.ix 1 3 (hi:=ltb rfl)) 13 ?_
 refine ze0 0 hH rfl (.st cByte (UInt8.ofNat ((wd V i) / 2^24)) (by rw [Cod.size]; show 8*i+3*1+1≤32; omega) (arr_putO (o:=8*i+3*1) (j:=8*i+3) (stF (stF (stF f (8*i+0) (UInt8.ofNat (wd V i))) (8*i+1) (UInt8.ofNat ((wd V i) / 2^8))) (8*i+2) (UInt8.ofNat ((wd V i) / 2^16))) (UInt8.ofNat ((wd V i) / 2^24)) (by omega) (by omega))) trivial ?_
 clear hH
 rintro _ _ w rfl hH
 refine zn (cxReg (zv .mv 3 ?_))
 refine zv .mv 0 ?_
 refine zv .mv 0 ?_
 refine zv .mv 8 ?_
 refine zv .mv 0 ?_
 refine zv (.su ((wd V i) / 2^32) (j:=32)) 1 ?_
 refine zv .cb 1 ?_
 refine zv .mv 0 ?_
 refine zv (.su ((wd V i) / 2^40) (j:=40)) 1 ?_
 refine zv .cb 1 ?_
 refine zv .mv 0 ?_
 refine zv (.su ((wd V i) / 2^48) (j:=48)) 1 ?_
 refine zv .cb 1 ?_
 refine zv .mv 128 ?_
 refine zv (.su ((wd V i) / 2^56) (j:=56)) 1 ?_
 refine zv .cb 1 ?_
 refine zv (.ix 1 4 (hi:=ltb rfl)) 128 ?_
 refine ze0 0 hH rfl (.st cByte (UInt8.ofNat ((wd V i) / 2^32)) (by rw [Cod.size]; show 8*i+4*1+1≤32; omega) (arr_putO (o:=8*i+4*1) (j:=8*i+4) (stF (stF (stF (stF f (8*i+0) (UInt8.ofNat (wd V i))) (8*i+1) (UInt8.ofNat ((wd V i) / 2^8))) (8*i+2) (UInt8.ofNat ((wd V i) / 2^16))) (8*i+3) (UInt8.ofNat ((wd V i) / 2^24))) (UInt8.ofNat ((wd V i) / 2^32)) (by omega) (by omega))) trivial ?_
 clear hH
 rintro _ _ w rfl hH
 refine zv (.ix 1 5 (hi:=ltb rfl)) 145 ?_
 refine ze0 0 hH rfl (.st cByte (UInt8.ofNat ((wd V i) / 2^40)) (by rw [Cod.size]; show 8*i+5*1+1≤32; omega) (arr_putO (o:=8*i+5*1) (j:=8*i+5) (stF (stF (stF (stF (stF f (8*i+0) (UInt8.ofNat (wd V i))) (8*i+1) (UInt8.ofNat ((wd V i) / 2^8))) (8*i+2) (UInt8.ofNat ((wd V i) / 2^16))) (8*i+3) (UInt8.ofNat ((wd V i) / 2^24))) (8*i+4) (UInt8.ofNat ((wd V i) / 2^32))) (UInt8.ofNat ((wd V i) / 2^40)) (by omega) (by omega))) trivial ?_
 clear hH
 rintro _ _ w rfl hH
 refine zv (.ix 1 6 (hi:=ltb rfl)) 41 ?_
 refine ze0 0 hH rfl (.st cByte (UInt8.ofNat ((wd V i) / 2^48)) (by rw [Cod.size]; show 8*i+6*1+1≤32; omega) (arr_putO (o:=8*i+6*1) (j:=8*i+6) (stF (stF (stF (stF (stF (stF f (8*i+0) (UInt8.ofNat (wd V i))) (8*i+1) (UInt8.ofNat ((wd V i) / 2^8))) (8*i+2) (UInt8.ofNat ((wd V i) / 2^16))) (8*i+3) (UInt8.ofNat ((wd V i) / 2^24))) (8*i+4) (UInt8.ofNat ((wd V i) / 2^32))) (8*i+5) (UInt8.ofNat ((wd V i) / 2^40))) (UInt8.ofNat ((wd V i) / 2^48)) (by omega) (by omega))) trivial ?_
 clear hH
 rintro _ _ w rfl hH
 refine zv (.ix 1 7 (hi:=ltb rfl)) 13 ?_
 refine ze0 0 hH rfl (.st cByte (UInt8.ofNat ((wd V i) / 2^56)) (by rw [Cod.size]; show 8*i+7*1+1≤32; omega) (arr_putO (o:=8*i+7*1) (j:=8*i+7) (stF (stF (stF (stF (stF (stF (stF f (8*i+0) (UInt8.ofNat (wd V i))) (8*i+1) (UInt8.ofNat ((wd V i) / 2^8))) (8*i+2) (UInt8.ofNat ((wd V i) / 2^16))) (8*i+3) (UInt8.ofNat ((wd V i) / 2^24))) (8*i+4) (UInt8.ofNat ((wd V i) / 2^32))) (8*i+5) (UInt8.ofNat ((wd V i) / 2^40))) (8*i+6) (UInt8.ofNat ((wd V i) / 2^48))) (UInt8.ofNat ((wd V i) / 2^56)) (by omega) (by omega))) trivial ?_
 clear hH
 rintro _ _ w rfl hH
 refine pxEnd (qxEnd0 rfl ?_)
 rw [put_word] at hH
 exact ⟨_,_,rfl,⟨rfl,rfl⟩,hH.out1 [true] rfl⟩
theorem bytesOf_p (n:Nat) (hn:n<2^256):Pure Tryz.prog 136 #[(vN n)] (fun _=>True) ((cArr 32).val (byteN (n%pN))):=by
 refine pure_of (fn:=Tryz.f136) Tryz.func136 rfl Tryz.ntmps136 (Nat.le_of_ble_eq_true rfl) rfl ?_
 intro w0 hH hR
 refine zr (zm hH .bg trivial 1 ?_)
 clear hH
 rintro _ _ w ⟨g1,rfl,rfl⟩ hH
 refine zm hH (.al (cArr 32) (fun _=>0)) trivial 0 ?_
 clear hH
 rintro _ _ w ⟨g2,rfl,rfl⟩ hH
 refine zn (zr (zs (hH.q 0 rfl) (.lr 4) 0 ?_))
 refine zc Tryz.func158 (canonical_p n hn) trivial hH 1 ?_
 clear hH
 intro w hH
 refine ze0 0 hH rfl (.sr 4) trivial ?_
 clear hH
 rintro _ _ w rfl hH
 refine zn (zr (zm hH (.al (cArr 32) (fun _=>0)) trivial 1 ?_))
 clear hH
 rintro _ _ w ⟨g3,rfl,rfl⟩ hH
 refine zn (zx ?_)
 replace hH:=hH.drew
 refine rv 0 (v:=(.slice (some ⟨g3,0+0*1,none⟩) (8 - 0) (32 - 0))) (fun _ _ hF=>opSliceALH (m:=32) (l:=0) (h:=8) (e:=5) (sz:=1) rfl (by kernel_rfl) (by kernel_rfl) (hF.ev 0 rfl) rfl rfl rfl rfl (by omega) (by omega) (by omega)) 0 ?_
 refine rv 1 (.fld 0) 0 ?_
 refine rld 2 (hH.q 0 rfl) .lc 1 ?_
 refine rx1k 3 ?_
 refine re 3 2 hH rfl (.call Tryz.func159 (putWord_p g3 0 _ (n%pN) (fun _=>0) (by decide))) trivial 3 (pgo [] (.nil _ [])) ?_
 clear hH
 rintro _ _ w ⟨rfl,rfl⟩ hH
 refine ⟨pnil,rn ?_⟩
 refine zx ?_
 replace hH:=hH.drew
 refine rv 0 (v:=(.slice (some ⟨g3,0+8*1,none⟩) (16 - 8) (32 - 8))) (fun _ _ hF=>opSliceALH (m:=32) (l:=8) (h:=16) (e:=5) (sz:=1) rfl (by kernel_rfl) (by kernel_rfl) (hF.ev 1 rfl) rfl rfl rfl rfl (by omega) (by omega) (by omega)) 1 ?_
 refine rv 1 (.fld 1) 0 ?_
 refine rld 2 (hH.q 0 rfl) .lc 1 ?_
 refine rx1k 3 ?_
 refine re 3 2 hH rfl (.call Tryz.func159 (putWord_p g3 1 _ (n%pN) (putW (n%pN) 0 (fun _=>0)) (by decide))) trivial 3 (pgo [] (.nil _ [])) ?_
 clear hH
 rintro _ _ w ⟨rfl,rfl⟩ hH
 refine ⟨pnil,rn ?_⟩
 refine zx ?_
 replace hH:=hH.drew
 refine rv 0 (v:=(.slice (some ⟨g3,0+16*1,none⟩) (24 - 16) (32 - 16))) (fun _ _ hF=>opSliceALH (m:=32) (l:=16) (h:=24) (e:=5) (sz:=1) rfl (by kernel_rfl) (by kernel_rfl) (hF.ev 1 rfl) rfl rfl rfl rfl (by omega) (by omega) (by omega)) 1 ?_
 refine rv 1 (.fld 2) 0 ?_
 refine rld 2 (hH.q 0 rfl) .lc 1 ?_
 refine rx1k 3 ?_
 refine re 3 2 hH rfl (.call Tryz.func159 (putWord_p g3 2 _ (n%pN) (putW (n%pN) 1 (putW (n%pN) 0 (fun _=>0))) (by decide))) trivial 3 (pgo [] (.nil _ [])) ?_
 clear hH
 rintro _ _ w ⟨rfl,rfl⟩ hH
 refine ⟨pnil,rn ?_⟩
 refine zx ?_
 replace hH:=hH.drew
 refine rv 0 (v:=(.slice (some ⟨g3,0+24*1,none⟩) (32 - 24) (32 - 24))) (fun _ _ hF=>opSliceALH (m:=32) (l:=24) (h:=32) (e:=5) (sz:=1) rfl (by kernel_rfl) (by kernel_rfl) (hF.ev 1 rfl) rfl rfl rfl rfl (by omega) (by omega) (by omega)) 1 ?_
 refine rv 1 (.fld 3) 8 ?_
 refine rld 2 (hH.q 0 rfl) .lc 1 ?_
 refine rx1k 3 ?_
 refine re 3 2 hH rfl (.call Tryz.func159 (putWord_p g3 3 _ (n%pN) (putW (n%pN) 2 (putW (n%pN) 1 (putW (n%pN) 0 (fun _=>0)))) (by decide))) trivial 3 (pgo [] (.nil _ [])) ?_
 clear hH
 rintro _ _ w ⟨rfl,rfl⟩ hH
 refine ⟨pnil,rn ?_⟩
 have he:(cArr 32).enc (byteN (n%pN))=(cArr 32).enc (putW (n%pN) 3 (putW (n%pN) 2 (putW (n%pN) 1 (putW (n%pN) 0 (fun _=>0))))):=arr_congr fun j hj=>(put_all (n%pN) _ j hj).symm
 replace hH:HH w0 [] [[bl g1 170 (cN (n%pN))],[bl g2 22 ((cArr 32).enc (fun _=>0))],[bl g3 22 ((cArr 32).enc (byteN (n%pN)))]] w:=by rw [he]; exact hH
 refine zr (zs (hH.q 2 rfl) (.ld (cArr 32) (byteN (n%pN)) (fun _ hS=>(holds_blk0 hS))) 3 ?_)
 refine ze0 1 hH rfl (.sw (cArr 32) (fun _=>0) (byteN (n%pN))) trivial ?_
 clear hH
 rintro _ _ w rfl hH
 refine zn (cxRet (qxRetC 1 (hH.blk 1 rfl) rfl rfl (by kernel_rfl) (Cod.size _ _) (by kernel_rfl) ?_))
 exact ⟨rfl,HH.toBelow hH⟩
def bF (x:Fin pF):Nat→UInt8:=byteN x.val
def nF (b:Nat→UInt8):Fin pF:=toF (lv b 32)
theorem bF_toF (v:Nat):bF (toF v)=byteN (v%pN):=rfl
theorem nF_bF (x:Fin pF):nF (bF x)=x:=by
 have h:x.val=x.val%pN:=(Nat.mod_eq_of_lt x.isLt).symm
 unfold nF bF
 rw [h,toF_bytes]
 exact Fin.ext (by rw [toF_val,← h])
def fA (a b:Nat→UInt8):Nat→UInt8:=bF (nF a+nF b)
def fS (a b:Nat→UInt8):Nat→UInt8:=bF (nF a - nF b)
def fM (a b:Nat→UInt8):Nat→UInt8:=bF (nF a*nF b)
def fI (a:Nat→UInt8):Nat→UInt8:=bF (ivF (nF a))
theorem fA_is (a b:Nat→UInt8):byteN (fv (lv a 32+lv b 32)%pN)=fA a b:=by rw [← bF_toF,toF_fv,toF_add]; rfl
theorem fS_is (a b:Nat→UInt8):byteN (mi (lv a 32) (lv b 32)%pN)=fS a b:=by rw [← bF_toF,toF_mi _ _ (lv_lt32 a) (lv_lt32 b)]; rfl
theorem fM_is (a b:Nat→UInt8):byteN (tm (lv a 32) (lv b 32)%pN)=fM a b:=by rw [← bF_toF,toF_tm]; rfl
theorem fI_is (a:Nat→UInt8):byteN (iv (lv a 32)%pN)=fI a:=by rw [← bF_toF,toF_iv]; rfl
theorem fA_c (a b:Nat→UInt8):Pure Tryz.prog 133 #[((cArr 32).val a),((cArr 32).val b)] (fun _=>True) ((cArr 32).val (fA a b)):=by
 refine pure_of (fn:=Tryz.f133) Tryz.func133 rfl Tryz.ntmps133 (Nat.le_of_ble_eq_true rfl) rfl ?_
 intro w0 hH hR
 refine zr (zm hH (.bx (cArr 32) a) trivial 1 ?_)
 clear hH
 rintro _ _ w ⟨g1,rfl,rfl⟩ hH
 refine zm hH (.bx (cArr 32) b) trivial 2 ?_
 clear hH
 rintro _ _ w ⟨g2,rfl,rfl⟩ hH
 refine zm hH (.al (cArr 32) (fun _=>0)) trivial 0 ?_
 clear hH
 rintro _ _ w ⟨g3,rfl,rfl⟩ hH
 refine zn (zx ?_)
 replace hH:=hH.drew
 refine rld 0 (hH.q 0 rfl) (.ld (cArr 32) a (fun _ hS=>(holds_blk0 hS))) 4 ?_
 refine rld 2 (hH.q 1 rfl) (.ld (cArr 32) b (fun _ hS=>(holds_blk0 hS))) 4 ?_
 refine rx1k 1 (rpc 1 Tryz.func138 (read_p a) trivial hH 2 (.keep (pgo [] (.nil _ []))) ?_)
 clear hH
 intro w hH
 refine ⟨pcons (hH.blk 1 rfl) pnil,?_⟩
 refine rx1k 3 (rpc 3 Tryz.func138 (read_p b) trivial hH 2 (pgo [] (.nil _ [])) ?_)
 clear hH
 intro w hH
 refine ⟨pnil,?_⟩
 refine rx1k 4 (rpc 4 Tryz.func156 (plus_p (lv a 32) (lv b 32) (lv_lt32 a) (lv_lt32 b)) trivial hH 3 (.nil _ []) ?_)
 clear hH
 intro w hH
 refine ⟨pnil,?_⟩
 refine rx1k 5 (rpc 5 Tryz.func136 (bytesOf_p (fv (lv a 32+lv b 32)) (fv_lt (by have:=lv_lt32 a; have:=lv_lt32 b; omega))) trivial hH 1 (.nil _ []) ?_)
 clear hH
 intro w hH
 refine ⟨pnil,rx1k 6 ?_⟩
 refine re0 6 2 hH rfl (.sw (cArr 32) (fun _=>0) (byteN ((fv (lv a 32+lv b 32))%pN))) trivial (.nil _ []) ?_
 clear hH
 rintro _ _ w rfl hH
 refine ⟨pnil,rn ?_⟩
 refine cxRet (qxRetC 1 (hH.blk 2 rfl) rfl rfl (by kernel_rfl) (Cod.size _ _) (by kernel_rfl) ?_)
 exact ⟨by rw [← fA_is]; rfl,HH.toBelow hH⟩
theorem fS_c (a b:Nat→UInt8):Pure Tryz.prog 134 #[((cArr 32).val a),((cArr 32).val b)] (fun _=>True) ((cArr 32).val (fS a b)):=by
 refine pure_of (fn:=Tryz.f134) Tryz.func134 rfl Tryz.ntmps134 (Nat.le_of_ble_eq_true rfl) rfl ?_
 intro w0 hH hR
 refine zr (zm hH (.bx (cArr 32) a) trivial 1 ?_)
 clear hH
 rintro _ _ w ⟨g1,rfl,rfl⟩ hH
 refine zm hH (.bx (cArr 32) b) trivial 2 ?_
 clear hH
 rintro _ _ w ⟨g2,rfl,rfl⟩ hH
 refine zm hH (.al (cArr 32) (fun _=>0)) trivial 0 ?_
 clear hH
 rintro _ _ w ⟨g3,rfl,rfl⟩ hH
 refine zn (zx ?_)
 replace hH:=hH.drew
 refine rld 0 (hH.q 0 rfl) (.ld (cArr 32) a (fun _ hS=>(holds_blk0 hS))) 4 ?_
 refine rld 2 (hH.q 1 rfl) (.ld (cArr 32) b (fun _ hS=>(holds_blk0 hS))) 4 ?_
 refine rx1k 1 (rpc 1 Tryz.func138 (read_p a) trivial hH 2 (.keep (pgo [] (.nil _ []))) ?_)
 clear hH
 intro w hH
 refine ⟨pcons (hH.blk 1 rfl) pnil,?_⟩
 refine rx1k 3 (rpc 3 Tryz.func138 (read_p b) trivial hH 2 (pgo [] (.nil _ [])) ?_)
 clear hH
 intro w hH
 refine ⟨pnil,?_⟩
 refine rx1k 4 (rpc 4 Tryz.func157 (minus_p (lv a 32) (lv b 32) (lv_lt32 a) (lv_lt32 b)) trivial hH 3 (.nil _ []) ?_)
 clear hH
 intro w hH
 refine ⟨pnil,?_⟩
 refine rx1k 5 (rpc 5 Tryz.func136 (bytesOf_p (mi (lv a 32) (lv b 32)) (mi_facts _ _ (lv_lt32 a) (lv_lt32 b)).2.1) trivial hH 1 (.nil _ []) ?_)
 clear hH
 intro w hH
 refine ⟨pnil,rx1k 6 ?_⟩
 refine re0 6 2 hH rfl (.sw (cArr 32) (fun _=>0) (byteN ((mi (lv a 32) (lv b 32))%pN))) trivial (.nil _ []) ?_
 clear hH
 rintro _ _ w rfl hH
 refine ⟨pnil,rn ?_⟩
 refine cxRet (qxRetC 1 (hH.blk 2 rfl) rfl rfl (by kernel_rfl) (Cod.size _ _) (by kernel_rfl) ?_)
 exact ⟨by rw [← fS_is]; rfl,HH.toBelow hH⟩
theorem fM_c (a b:Nat→UInt8):Pure Tryz.prog 96 #[((cArr 32).val a),((cArr 32).val b)] (fun _=>True) ((cArr 32).val (fM a b)):=by
 refine pure_of (fn:=Tryz.f96) Tryz.func96 rfl Tryz.ntmps96 (Nat.le_of_ble_eq_true rfl) rfl ?_
 intro w0 hH hR
 refine zr (zm hH (.bx (cArr 32) a) trivial 1 ?_)
 clear hH
 rintro _ _ w ⟨g1,rfl,rfl⟩ hH
 refine zm hH (.bx (cArr 32) b) trivial 2 ?_
 clear hH
 rintro _ _ w ⟨g2,rfl,rfl⟩ hH
 refine zm hH (.al (cArr 32) (fun _=>0)) trivial 0 ?_
 clear hH
 rintro _ _ w ⟨g3,rfl,rfl⟩ hH
 refine zn (zx ?_)
 replace hH:=hH.drew
 refine rld 0 (hH.q 0 rfl) (.ld (cArr 32) a (fun _ hS=>(holds_blk0 hS))) 4 ?_
 refine rld 2 (hH.q 1 rfl) (.ld (cArr 32) b (fun _ hS=>(holds_blk0 hS))) 4 ?_
 refine rx1k 1 (rpc 1 Tryz.func138 (read_p a) trivial hH 2 (.keep (pgo [] (.nil _ []))) ?_)
 clear hH
 intro w hH
 refine ⟨pcons (hH.blk 1 rfl) pnil,?_⟩
 refine rx1k 3 (rpc 3 Tryz.func138 (read_p b) trivial hH 2 (pgo [] (.nil _ [])) ?_)
 clear hH
 intro w hH
 refine ⟨pnil,?_⟩
 refine rx1k 4 (rpc 4 Tryz.func137 (times_p (lv a 32) (lv b 32) (lv_lt32 a) (lv_lt32 b)) trivial hH 3 (.nil _ []) ?_)
 clear hH
 intro w hH
 refine ⟨pnil,?_⟩
 refine rx1k 5 (rpc 5 Tryz.func136 (bytesOf_p (tm (lv a 32) (lv b 32)) (tm_lt (lv_lt32 a) (lv_lt32 b))) trivial hH 1 (.nil _ []) ?_)
 clear hH
 intro w hH
 refine ⟨pnil,rx1k 6 ?_⟩
 refine re0 6 2 hH rfl (.sw (cArr 32) (fun _=>0) (byteN ((tm (lv a 32) (lv b 32))%pN))) trivial (.nil _ []) ?_
 clear hH
 rintro _ _ w rfl hH
 refine ⟨pnil,rn ?_⟩
 refine cxRet (qxRetC 1 (hH.blk 2 rfl) rfl rfl (by kernel_rfl) (Cod.size _ _) (by kernel_rfl) ?_)
 exact ⟨by rw [← fM_is]; rfl,HH.toBelow hH⟩
theorem fI_c (a:Nat→UInt8):Pure Tryz.prog 97 #[((cArr 32).val a)] (fun _=>True) ((cArr 32).val (fI a)):=by
 refine pure_of (fn:=Tryz.f97) Tryz.func97 rfl Tryz.ntmps97 (Nat.le_of_ble_eq_true rfl) rfl ?_
 intro w0 hH hR
 refine zr (zm hH (.bx (cArr 32) a) trivial 1 ?_)
 clear hH
 rintro _ _ w ⟨g1,rfl,rfl⟩ hH
 refine zm hH (.al (cArr 32) (fun _=>0)) trivial 0 ?_
 clear hH
 rintro _ _ w ⟨g2,rfl,rfl⟩ hH
 refine zn (zr (zs (hH.q 0 rfl) (.ld (cArr 32) a (fun _ hS=>(holds_blk0 hS))) 2 ?_))
 refine zc Tryz.func138 (read_p a) trivial hH 1 ?_
 clear hH
 intro w hH
 refine zc Tryz.func139 (inverse_p (lv a 32) (lv_lt32 a)) trivial hH 1 ?_
 clear hH
 intro w hH
 refine zc Tryz.func136 (bytesOf_p (iv (lv a 32)) (iv_lt (lv_lt32 a))) trivial hH 1 ?_
 clear hH
 intro w hH
 refine ze0 1 hH rfl (.sw (cArr 32) (fun _=>0) (byteN ((iv (lv a 32))%pN))) trivial ?_
 clear hH
 rintro _ _ w rfl hH
 refine zn (cxRet (qxRetC 1 (hH.blk 1 rfl) rfl rfl (by kernel_rfl) (Cod.size _ _) (by kernel_rfl) ?_))
 exact ⟨by rw [← fI_is]; rfl,HH.toBelow hH⟩
end Go.Proofs.YtajppfmjbkebfaaGreatDoor

namespace Go.Proofs.YtajppfmjbkebfaaGreatDoor
open Go Go.RowKit
abbrev Bt:=Nat→UInt8
abbrev cPr:Cod (Bt×Bt):=cPair (cArr 32) (cArr 32)
abbrev cPl:Cod (Bt×Bt×Bt×Bt):=cPair (cArr 32) (cPair (cArr 32) (cPair (cArr 32) (cArr 32)))
abbrev cSt:Cod (Bt×Bt×Bt):=cPair (cArr 32) (cPair (cArr 32) (cArr 32))
def oneB:Bt:=fun i=>if i=0 then 1 else 0
def dB:Bt:=fun i=>[163,120,89,19,202,77,235,117,171,216,65,65,77,10,112,0,152,232,121,119,121,64,199,140,115,254,111,43,238,108,3,82].getD i 0
def plOf (a:Bt×Bt):Bt×Bt×Bt×Bt:=(a.1,a.2,oneB,fM a.1 a.2)
def stOf (a:Bt×Bt):Bt×Bt×Bt:=(fS a.2 a.1,fA a.2 a.1,fA (fM dB (fM a.1 a.2)) (fM dB (fM a.1 a.2)))
def plAt (e f g h:Bt):Bt×Bt×Bt×Bt:=(fM e f,fM g h,fM f g,fM e h)
def ptA (a:Bt×Bt×Bt×Bt) (b:Bt×Bt×Bt):Bt×Bt×Bt×Bt :=
 plAt (fS (fM (fA a.2.1 a.1) b.2.1) (fM (fS a.2.1 a.1) b.1)) (fS (fA a.2.2.1 a.2.2.1) (fM a.2.2.2 b.2.2)) (fA (fA a.2.2.1 a.2.2.1) (fM a.2.2.2 b.2.2)) (fA (fM (fA a.2.1 a.1) b.2.1) (fM (fS a.2.1 a.1) b.1))
def ptD (a:Bt×Bt×Bt×Bt):Bt×Bt×Bt×Bt :=
 plAt (fS (fA (fM a.1 a.1) (fM a.2.1 a.2.1)) (fM (fA a.1 a.2.1) (fA a.1 a.2.1))) (fA (fA (fM a.2.2.1 a.2.2.1) (fM a.2.2.1 a.2.2.1)) (fS (fM a.1 a.1) (fM a.2.1 a.2.1))) (fS (fM a.1 a.1) (fM a.2.1 a.2.1)) (fA (fM a.1 a.1) (fM a.2.1 a.2.1))
end Go.Proofs.YtajppfmjbkebfaaGreatDoor

namespace Go.Proofs.YtajppfmjbkebfaaGreatDoor
open Go Go.RowKit
def iN:Nat:=19681161376707505956807079304988542015446066515923890162744021073123829784752
def rt1 (n:Nat):Nat:=tm (rs (o250 n) 2) (rs n 1)
theorem rt1_lt {n:Nat} (h:n<2^256):rt1 n<2^256:=tm_lt (rs_lt (o250_lt h) 2) (rs_lt h 1)
theorem iN_lt:iN<2^256:=by decide
def rt2 (n:Nat):Nat:=tm (rt1 n) iN
theorem rt2_lt {n:Nat} (h:n<2^256):rt2 n<2^256:=tm_lt (rt1_lt h) iN_lt
def rtV (n:Nat):Nat:=if rs (rt1 n) 1%pN=n%pN then rt1 n else rt2 n
theorem rtV_lt {n:Nat} (h:n<2^256):rtV n<2^256:=by
 unfold rtV
 split
 ·exact rt1_lt h
 ·exact rt2_lt h
abbrev rtF (n:Nat):Prop:=rs (rt1 n) 1%pN=n%pN ∨ rs (rt2 n) 1%pN=n%pN
theorem words_pN {a b:Nat}:(∀ i,i<4→words (a%pN) i=words (b%pN) i) ↔ a%pN=b%pN:=by
 constructor
 ·intro h
  have k:∀ x:Nat,x%pN<2^256:=fun x=>Nat.lt_trans (Nat.mod_lt _ (by decide)) (by decide)
  have h1:∀ i,i<4→wd (a%pN) i=wd (b%pN) i:=fun i hi=>by rw [← words_nat,← words_nat,h i hi]
  rw [← wd_all (k a),← wd_all (k b),h1 0 (by decide),h1 1 (by decide),h1 2 (by decide),h1 3 (by decide)]
 ·intro h i _
  rw [h]
theorem canon_iff (a:Nat→UInt8):lst 32 (byteN (lv a 32%pN))=lst 32 a ↔ lv a 32<pN:=by
 constructor
 ·intro h
  have h1:∀ i,i<32→byteN (lv a 32%pN) i=a i:=fun i hi=>by
   have:=congrArg (fun l=>l[i]?) h
   simpa [lst_get hi] using this
  have h2:=lv_congr (m:=32) h1
  rw [lv_bytes] at h2
  rw [← h2]
  exact Nat.mod_lt _ (by decide)
 ·intro h
  rw [Nat.mod_eq_of_lt h]
  exact List.map_congr_left fun i hi=>byteN_lv a 32 i (List.mem_range.1 hi)
def sqB (a:Nat→UInt8):Nat→UInt8:=if ((byteN (rtV (lv a 32)%pN)) 0 &&& 1).toNat=1 then byteN (mi 0 (rtV (lv a 32))%pN) else byteN (rtV (lv a 32)%pN)
def sqX (a:Nat→UInt8):Nat→UInt8:=if rtF (lv a 32) then sqB a else fun _=>0
def sqE (a:Nat→UInt8):Nat:=if rtF (lv a 32) then 0 else 3
def sqAt (y:Bt):Bt:=fM (fS (fM y y) oneB) (fI (fA (fM dB (fM y y)) oneB))
def yB (p:Bt):Bt:=stF p 31 (p 31 &&& ~~~128)
def z2:Bt×Bt:=(fun _=>0,fun _=>0)
def rd (p:Bt):(Bt×Bt)×Nat :=
 if lv (yB p) 32<pN then
  if sqE (sqAt (yB p))≠0 then (z2,2)
  else if (p 31 &&& 128).toNat≠0 then
   if lst 32 (sqX (sqAt (yB p)))=lst 32 (fun _=>0) then (z2,2) else ((fS (fun _=>0) (sqX (sqAt (yB p))),yB p),0)
  else ((sqX (sqAt (yB p)),yB p),0)
 else (z2,2)
def bOf (a:Bt×Bt×Bt×Bt):Bt:=stF (fM a.2.1 (fI a.2.2.1)) 31 (fM a.2.1 (fI a.2.2.1) 31 ||| sl8 (fM a.1 (fI a.2.2.1) 0) 7)
def mk8 (m:UInt8) (i:Nat) (f:Bt):Bt:=fun j=>if j<i then f j &&& m else f j
theorem mk8_0 (m:UInt8) (f:Bt):mk8 m 0 f=f:=by funext j; simp [mk8]
theorem mk8_succ (m:UInt8) (i:Nat) (f:Bt):stF (mk8 m i f) i (mk8 m i f i &&& m)=mk8 m (i+1) f:=by
 funext j
 unfold stF mk8
 by_cases h:j=i
 ·subst h; simp
 ·by_cases h2:j<i
  ·simp [h,h2,Nat.lt_succ_of_lt h2]
  ·have h3:¬ j<i+1:=by omega
   simp [h,h2,h3]
def stIf (t:UInt8) (b:Bt×Bt×Bt):Bt×Bt×Bt :=
 (stF (mk8 (-t) 32 b.1) 0 (mk8 (-t) 32 b.1 0 ||| (1 - t)),stF (mk8 (-t) 32 b.2.1) 0 (mk8 (-t) 32 b.2.1 0 ||| (1 - t)),mk8 (-t) 32 b.2.2)
def bitB (n:Bt) (i:Nat):UInt8:=sr8 (n (i / 8)) (i%8) &&& 1
def tmsTo (n:Bt) (b:Bt×Bt×Bt):Nat→Bt×Bt×Bt×Bt
 | 0=>plOf (fun _=>0,oneB)
 | k+1=>ptA (ptD (tmsTo n b k)) (stIf (bitB n (255 - k)) b)
def tms (n:Bt) (b:Bt×Bt×Bt):Bt×Bt×Bt×Bt:=tmsTo n b 256
def ptMul (n p:Bt):Bt:=if (rd p).2≠0 then fun _=>0 else bOf (tms n (stOf (rd p).1))
def genTo (i:Nat):Bt:=fun j=>if j<i then 102 else 0
theorem genTo_succ (i:Nat):stF (genTo i) i 102=genTo (i+1):=by
 funext j
 unfold stF genTo
 by_cases h:j=i
 ·subst h; simp
 ·by_cases h2:j<i
  ·simp [h,h2,Nat.lt_succ_of_lt h2]
  ·have h3:¬ j<i+1:=by omega
   simp [h,h2,h3]
def genB:Bt:=stF (genTo 32) 0 88
def ptBase (n:Bt):Bt:=ptMul n genB
end Go.Proofs.YtajppfmjbkebfaaGreatDoor

namespace Go.Proofs.YtajppfmjbkebfaaGreatDoor
open Go Go.RowKit
set_option maxRecDepth 100000
def nA (a b:Nat):Nat:=fv (a+b)
def nS (a b:Nat):Nat:=fv (a+(pN - b%pN))
theorem nA_lt {a b:Nat} (ha:a<2^256) (hb:b<2^256):nA a b<2^256:=fv_lt (by omega)
theorem nS_lt {a b:Nat} (ha:a<2^256):nS a b<2^256:=fv_lt (by have:=pN_lt; omega)
def dD (a b:Nat):Nat×Nat:=(tm (tm (nA a b) (nA a b)) (tm (nS a b) (nS a b)),tm (nS (tm (nA a b) (nA a b)) (tm (nS a b) (nS a b))) (nA (tm (nA a b) (nA a b)) (tm 121665 (nS (tm (nA a b) (nA a b)) (tm (nS a b) (nS a b))))))
def dA (x a b c d:Nat):Nat×Nat:=(tm (nA (tm (nS a b) (nA c d)) (tm (nA a b) (nS c d))) (nA (tm (nS a b) (nA c d)) (tm (nA a b) (nS c d))),tm x (tm (nS (tm (nS a b) (nA c d)) (tm (nA a b) (nS c d))) (nS (tm (nS a b) (nA c d)) (tm (nA a b) (nS c d)))))
def dStep (x:Nat) (t:UInt8) (S:(Nat×Nat)×(Nat×Nat)):(Nat×Nat)×(Nat×Nat) :=
 if t.toNat=1 then (dA x S.2.1 S.2.2 S.1.1 S.1.2,dD S.2.1 S.2.2) else (dD S.1.1 S.1.2,dA x S.1.1 S.1.2 S.2.1 S.2.2)
def dLad (n:Nat→UInt8) (x:Nat):Nat→(Nat×Nat)×(Nat×Nat)
 | 0=>((1,0),(x,1))
 | i+1=>dStep x (bitB n (254 - i)) (dLad n x i)
theorem dLad_next (n:Nat→UInt8) (x:Nat) {k:Nat} (hk:k<255):dLad n x (255 - k)=dStep x (bitB n k) (dLad n x (255 - (k+1))):=by
 have e1:255 - k=(255 - (k+1))+1:=by omega
 have e2:254 - (255 - (k+1))=k:=by omega
 rw [e1]
 show dStep x (bitB n (254 - (255 - (k+1)))) _=_
 rw [e2]
def dNm (s:Nat→UInt8):Nat→UInt8:=stF (stF s 0 (s 0 &&& 248)) 31 ((stF s 0 (s 0 &&& 248) 31 &&& 127) ||| 64)
def dPt (u:Nat→UInt8):Nat→UInt8:=stF u 31 (u 31 &&& 127)
def dMul (s u:Nat→UInt8):Nat→UInt8:=byteN (tm (dLad (dNm s) (lv (dPt u) 32) 255).1.1 (riv (dLad (dNm s) (lv (dPt u) 32) 255).1.2)%pN)
theorem rMul_p (s u:Nat→UInt8):Pure Tryz.prog 39 #[((cArr 32).val s),((cArr 32).val u)] (fun _=>True) ((cArr 32).val (dMul s u)):=by
 refine pure_of (fn:=Tryz.f39) Tryz.func39 rfl Tryz.ntmps39 (Nat.le_of_ble_eq_true rfl) rfl ?_
 intro w0 hH hR
 refine zr (zm hH (.bx (cArr 32) s) trivial 1 ?_)
 clear hH
 rintro _ _ w ⟨g1,rfl,rfl⟩ hH
 refine zm hH (.bx (cArr 32) u) trivial 2 ?_
 clear hH
 rintro _ _ w ⟨g2,rfl,rfl⟩ hH
 refine zm hH (.al (cArr 32) (fun _=>0)) trivial 0 ?_
 clear hH
 rintro _ _ w ⟨g3,rfl,rfl⟩ hH
 refine zn (zr ?_)
 have hi4:0<32:=by omega
 refine zv (.ia 1 32 0 (hi:=hi4)) 0 ?_
 refine zs (hH.q 0 rfl) (.ld cByte (s 0) (fun _ hS=>((holds_blk0 hS).elt hi4))) 1 ?_
 refine zv (.ab ((s 0) &&& (248:UInt8)) (u:=(s 0)) (v:=(248:UInt8))) 1 ?_
 have hi5:0<32:=by omega
 refine zv (.ia 1 32 0 (hi:=hi5)) 0 ?_
 refine ze0 0 hH rfl (.st cByte ((s 0) &&& (248:UInt8)) (room_1 (S:=sBy) (C:=(cArr 32)) rfl hi5) (arr_set0 s ((s 0) &&& (248:UInt8)) hi5)) trivial ?_
 clear hH
 rintro _ _ w rfl hH
 refine zn (zr ?_)
 have hi6:31<32:=by omega
 refine zv (.ia 1 32 31 (hi:=hi6)) 3 ?_
 refine zs (hH.q 0 rfl) (.ld cByte ((stF s 0 ((s 0) &&& (248:UInt8))) 31) (fun _ hS=>((holds_blk0 hS).elt hi6))) 1 ?_
 refine zv (.ab (((stF s 0 ((s 0) &&& (248:UInt8))) 31) &&& (127:UInt8)) (u:=((stF s 0 ((s 0) &&& (248:UInt8))) 31)) (v:=(127:UInt8))) 1 ?_
 refine zv (.ob ((((stF s 0 ((s 0) &&& (248:UInt8))) 31) &&& (127:UInt8)) ||| (64:UInt8)) (u:=(((stF s 0 ((s 0) &&& (248:UInt8))) 31) &&& (127:UInt8))) (v:=(64:UInt8))) 1 ?_
 have hi7:31<32:=by omega
 refine zv (.ia 1 32 31 (hi:=hi7)) 0 ?_
 refine ze0 0 hH rfl (.st cByte ((((stF s 0 ((s 0) &&& (248:UInt8))) 31) &&& (127:UInt8)) ||| (64:UInt8)) (room_1 (S:=sBy) (C:=(cArr 32)) rfl hi7) (arr_set0 (stF s 0 ((s 0) &&& (248:UInt8))) ((((stF s 0 ((s 0) &&& (248:UInt8))) 31) &&& (127:UInt8)) ||| (64:UInt8)) hi7)) trivial ?_
 clear hH
 rintro _ _ w rfl hH
 refine zn (zr ?_)
 have hi8:31<32:=by omega
 refine zv (.ia 1 32 31 (hi:=hi8)) 3 ?_
 refine zs (hH.q 1 rfl) (.ld cByte (u 31) (fun _ hS=>((holds_blk0 hS).elt hi8))) 1 ?_
 refine zv (.ab ((u 31) &&& (127:UInt8)) (u:=(u 31)) (v:=(127:UInt8))) 1 ?_
 have hi9:31<32:=by omega
 refine zv (.ia 1 32 31 (hi:=hi9)) 0 ?_
 refine ze0 1 hH rfl (.st cByte ((u 31) &&& (127:UInt8)) (room_1 (S:=sBy) (C:=(cArr 32)) rfl hi9) (arr_set0 u ((u 31) &&& (127:UInt8)) hi9)) trivial ?_
 clear hH
 rintro _ _ w rfl hH
 refine zn (zr (zs (hH.q 1 rfl) (.ld (cArr 32) (stF u 31 ((u 31) &&& (127:UInt8))) (fun _ hS=>(holds_blk0 hS))) 11 ?_))
 refine zc Tryz.func71 (rfrom_p (stF u 31 ((u 31) &&& (127:UInt8)))) trivial hH 1 ?_
 clear hH
 intro w hH
 refine zm hH (.al (cNs 4) (fun _=>0)) trivial 0 ?_
 clear hH
 rintro _ _ w ⟨g10,rfl,rfl⟩ hH
 refine ze0 3 hH rfl (.sw (cNs 4) (fun _=>0) (wd (lv (stF u 31 ((u 31) &&& (127:UInt8))) 32))) trivial ?_
 clear hH
 rintro _ _ w rfl hH
 refine zn ?_
 obtain ⟨x,hx,lx⟩:∃ x,x=lv (dPt u) 32∧x<2^256:=⟨_,rfl,lv_lt32 _⟩
 obtain ⟨n,hn⟩:∃ n,n=dNm s:=⟨_,rfl⟩
 replace hH:HH w0 [] [[bl g1 22 ((cArr 32).enc (stF (stF s 0 ((s 0) &&& (248:UInt8))) 31 ((((stF s 0 ((s 0) &&& (248:UInt8))) 31) &&& (127:UInt8)) ||| (64:UInt8))))],[bl g2 22 ((cArr 32).enc (stF u 31 ((u 31) &&& (127:UInt8))))],[bl g3 22 ((cArr 32).enc (fun _=>0))],[bl g10 97 ((cNs 4).enc (wd x))]] w:=by rw [hx]; exact hH
 replace hH:HH w0 [] [[bl g1 22 ((cArr 32).enc n)],[bl g2 22 ((cArr 32).enc (stF u 31 ((u 31) &&& (127:UInt8))))],[bl g3 22 ((cArr 32).enc (fun _=>0))],[bl g10 97 ((cNs 4).enc (wd x))]] w:=by rw [hn]; exact hH
 refine zx ?_
 replace hH:=hH.drew
 refine rxPg 0 [pv 0 34 [] [] fun G=>((cNs 4).val (wd 1)),pv 1 35 [] [] fun G=>((cNs 4).val (wd 0)),ldv 2 36 [] [] [1003] fun G=>((cNs 4).val (wd x)),pv 3 37 [] [] fun G=>((cNs 4).val (wd 1)),alv 4 6 [] [] fun G g=>[bl g 97 ((cNs 4).enc (fun _=>0))],alv 5 7 [] [] fun G g=>[bl g 97 ((cNs 4).enc (fun _=>0))],alv 6 8 [] [] fun G g=>[bl g 97 ((cNs 4).enc (fun _=>0))],alv 7 9 [] [] fun G g=>[bl g 97 ((cNs 4).enc (fun _=>0))],stv 8 [0,4] [4] 4 fun G=>[bl (G 4).g 97 ((cNs 4).enc (wd 1))],stv 9 [1,5] [5] 5 fun G=>[bl (G 5).g 97 ((cNs 4).enc (wd 0))],stv 10 [2,6] [6] 6 fun G=>[bl (G 6).g 97 ((cNs 4).enc (wd x))],stv 11 [3,7] [7] 7 fun G=>[bl (G 7).g 97 ((cNs 4).enc (wd 1))]] (fun G=>[(6,(.pointer (some ⟨(G 4).g,0,none⟩))),(7,(.pointer (some ⟨(G 5).g,0,none⟩))),(8,(.pointer (some ⟨(G 6).g,0,none⟩))),(9,(.pointer (some ⟨(G 7).g,0,none⟩))),(5,(.pointer (some ⟨g10,0,none⟩))),(4,(.pointer (some ⟨g3,0,none⟩))),(2,(.pointer (some ⟨g1,0,none⟩)))]) (fun G=>[[bl g1 22 ((cArr 32).enc n)],[bl g2 22 ((cArr 32).enc (stF u 31 ((u 31) &&& (127:UInt8))))],[bl g3 22 ((cArr 32).enc (fun _=>0))],[bl g10 97 ((cNs 4).enc (wd x))],[bl (G 4).g 97 ((cNs 4).enc (wd 1))],[bl (G 5).g 97 ((cNs 4).enc (wd 0))],[bl (G 6).g 97 ((cNs 4).enc (wd x))],[bl (G 7).g 97 ((cNs 4).enc (wd 1))]]) hH (.c (Sp.c Tryz.func72 (fun G=>(rsmall_p 1 (by decide))) fun _=>trivial) <| .c (Sp.c Tryz.func72 (fun G=>(rsmall_p 0 (by decide))) fun _=>trivial) <| .c (.ld (fun G _ _ hH=>(hH.q 0 rfl)) fun G=>(.ld (cNs 4) (wd x) (fun _ hS=>(holds_blk0 hS)))) <| .c (Sp.c Tryz.func72 (fun G=>(rsmall_p 1 (by decide))) fun _=>trivial) <| .c (.a (fun _ _ _ _=>trivial) (fun G=>(.al (cNs 4) (fun _=>0))) fun _ _ _ h=>h) <| .c (.a (fun _ _ _ _=>trivial) (fun G=>(.al (cNs 4) (fun _=>0))) fun _ _ _ h=>h) <| .c (.a (fun _ _ _ _=>trivial) (fun G=>(.al (cNs 4) (fun _=>0))) fun _ _ _ h=>h) <| .c (.a (fun _ _ _ _=>trivial) (fun G=>(.al (cNs 4) (fun _=>0))) fun _ _ _ h=>h) <| .c (.tn (fun G=>(.sw (cNs 4) (fun _=>0) (wd 1))) (fun _ _ _ _=>trivial) fun _ _ _ h=>h) <| .c (.tn (fun G=>(.sw (cNs 4) (fun _=>0) (wd 0))) (fun _ _ _ _=>trivial) fun _ _ _ h=>h) <| .c (.tn (fun G=>(.sw (cNs 4) (fun _=>0) (wd x))) (fun _ _ _ _=>trivial) fun _ _ _ h=>h) <| .c (.tn (fun G=>(.sw (cNs 4) (fun _=>0) (wd 1))) (fun _ _ _ _=>trivial) fun _ _ _ h=>h) <| .nil) ?_
 clear hH
 rintro G w - hH
 revert hH
 generalize (G 4).g=g11
 generalize (G 5).g=g12
 generalize (G 6).g=g13
 generalize (G 7).g=g14
 intro hH
 refine rn ?_
 refine cxSeq (zr (zv .mv 0 ?_))
 refine zn (cxBlock (zL5 (fun (j:Nat) (_:Nat) (_:Nat) (_:Nat) (_:Nat)=>[(10,(.int .i64 ((j:Int) - 1))),(9,(.pointer (some ⟨g14,0,none⟩))),(8,(.pointer (some ⟨g13,0,none⟩))),(7,(.pointer (some ⟨g12,0,none⟩))),(6,(.pointer (some ⟨g11,0,none⟩))),(5,(.pointer (some ⟨g10,0,none⟩))),(4,(.pointer (some ⟨g3,0,none⟩))),(2,(.pointer (some ⟨g1,0,none⟩)))]) (fun j a b c d w=>HH w0 [] [[bl g1 22 ((cArr 32).enc n)],[bl g2 22 ((cArr 32).enc (stF u 31 ((u 31) &&& (127:UInt8))))],[bl g3 22 ((cArr 32).enc (fun _=>0))],[bl g10 97 ((cNs 4).enc (wd x))],[bl g11 97 ((cNs 4).enc (wd a))],[bl g12 97 ((cNs 4).enc (wd b))],[bl g13 97 ((cNs 4).enc (wd c))],[bl g14 97 ((cNs 4).enc (wd d))]] w∧(j≤255)∧(a<2^256)∧(b<2^256)∧(c<2^256)∧(d<2^256)∧(((a,b),(c,d))=dLad n x (255 - j))) (fun j _ _ _ _=>j) 255 1 0 x 1 ⟨hH,(Nat.le_refl _),(by decide),(by decide),lx,(by decide),rfl⟩ ?_))
 clear hH
 rintro j a b c d w ⟨hH,hj,la,lb,lc,ld,hS⟩
 refine cxSeq (zr (zv .mv 0 ?_))
 refine zv (v:=(.bool (decide (((j:Int) - 1) ≥ 0)))) (fun _ _ hF=>opGeq rfl (hF.ev 0 rfl) rfl rfl) 1 ?_
 refine zn ?_
 refine zP (fun hc15 => ?_) (fun hc15 => ?_)
 refine cxSkip (qxThen (cxSeq (cxBlock ?_)))
 obtain ⟨k,rfl⟩:∃ k,j=k+1:=⟨j - 1,by omega⟩
 rw [show ((k+1:Nat):Int) - 1=(k:Int) by omega]
 refine zr (zv .mv 1 ?_)
 refine zv (v:=(.int .i64 (((k / 8):Nat):Int))) (fun _ _ hF=>opQuo (z:=((k / 8:Nat):Int)) rfl (hF.ev 0 rfl) rfl (by omega) (wI quoN (by omega) (by omega))) 1 ?_
 have hi16:k / 8<32:=by omega
 refine zv (.ia 1 32 (k / 8) (hi:=hi16)) 1 ?_
 refine zs (hH.q 0 rfl) (.ld cByte (n (k / 8)) (fun _ hS=>((holds_blk0 hS).elt hi16))) 1 ?_
 refine zv .mv 0 ?_
 refine zv (v:=(.int .i64 (((k%8):Nat):Int))) (fun _ _ hF=>opRem (z:=((k%8:Nat):Int)) rfl (hF.ev 0 rfl) rfl (by omega) remN) 1 ?_
 refine zv (.rb (k%8) (u:=(n (k / 8)))) 3 ?_
 refine zv (.ab ((sr8 (n (k / 8)) (k%8)) &&& (1:UInt8)) (u:=(sr8 (n (k / 8)) (k%8))) (v:=(1:UInt8))) 1 ?_
 refine zv .mv 1 ?_
 refine zn (cxSeq (zr (zv .mv 0 ?_)))
 refine zv (.eq (((sr8 (n (k / 8)) (k%8)) &&& (1:UInt8)).toNat=1)) 1 ?_
 refine zn ?_
 refine zP (fun hc17 => ?_) (fun hc17 => ?_)
 refine cxRegX mixedOrders (by kernel_rfl) ?_
 replace hH:=hH.drew
 refine rld 0 (hH.q 6 rfl) (.ld (cNs 4) (wd c) (fun _ hS=>(holds_blk0 hS))) 1 ?_
 refine rld 1 (hH.q 7 rfl) (.ld (cNs 4) (wd d) (fun _ hS=>(holds_blk0 hS))) 0 ?_
 refine rld 2 (hH.q 4 rfl) (.ld (cNs 4) (wd a) (fun _ hS=>(holds_blk0 hS))) 0 ?_
 refine rld 3 (hH.q 5 rfl) (.ld (cNs 4) (wd b) (fun _ hS=>(holds_blk0 hS))) 0 ?_
 refine rx1k 4 ?_
 refine re0 4 4 hH rfl (.sw (cNs 4) (wd a) (wd c)) trivial (pgo [] (pgo [] (.keep (pgo [] (.nil _ []))))) ?_
 clear hH
 rintro _ _ w rfl hH
 refine ⟨pcons (hH.blk 7 rfl) pnil,?_⟩
 refine rx1k 5 ?_
 refine re0 5 5 hH rfl (.sw (cNs 4) (wd b) (wd d)) trivial (pgo [] (.nil _ [])) ?_
 clear hH
 rintro _ _ w rfl hH
 refine ⟨pnil,rx1k 6 ?_⟩
 refine re0 6 6 hH rfl (.sw (cNs 4) (wd c) (wd a)) trivial (.nil _ []) ?_
 clear hH
 rintro _ _ w rfl hH
 refine ⟨pnil,rx1k 7 ?_⟩
 refine re0 7 7 hH rfl (.sw (cNs 4) (wd d) (wd b)) trivial (.nil _ []) ?_
 clear hH
 rintro _ _ w rfl hH
 refine ⟨pnil,rn ?_⟩
 refine zx ?_
 replace hH:=hH.drew
 refine rxPg 0 [ldv 0 56 [] [] [1004] fun G=>((cNs 4).val (wd c)),ldv 1 57 [] [] [1005] fun G=>((cNs 4).val (wd d)),pv 2 58 [0,1] [] fun G=>((cNs 4).val (wd (nA c d))),ldv 3 59 [] [] [1004] fun G=>((cNs 4).val (wd c)),ldv 4 60 [] [] [1005] fun G=>((cNs 4).val (wd d)),pv 5 61 [3,4] [] fun G=>((cNs 4).val (wd (nS c d))),alv 6 12 [] [] fun G g=>[bl g 97 ((cNs 4).enc (fun _=>0))],alv 7 13 [] [] fun G g=>[bl g 97 ((cNs 4).enc (fun _=>0))],stv 8 [2,6] [6] 6 fun G=>[bl (G 6).g 97 ((cNs 4).enc (wd (nA c d)))],stv 9 [5,7] [7] 7 fun G=>[bl (G 7).g 97 ((cNs 4).enc (wd (nS c d)))]] (fun G=>[(12,(.pointer (some ⟨(G 6).g,0,none⟩))),(13,(.pointer (some ⟨(G 7).g,0,none⟩))),(11,(.int .u8 (((((sr8 (n (k / 8)) (k%8)) &&& (1:UInt8)).toNat):Nat):Int))),(10,(.int .i64 (((k):Nat):Int))),(9,(.pointer (some ⟨g14,0,none⟩))),(8,(.pointer (some ⟨g13,0,none⟩))),(7,(.pointer (some ⟨g12,0,none⟩))),(6,(.pointer (some ⟨g11,0,none⟩))),(5,(.pointer (some ⟨g10,0,none⟩))),(4,(.pointer (some ⟨g3,0,none⟩))),(2,(.pointer (some ⟨g1,0,none⟩)))]) (fun G=>[[bl g1 22 ((cArr 32).enc n)],[bl g2 22 ((cArr 32).enc (stF u 31 ((u 31) &&& (127:UInt8))))],[bl g3 22 ((cArr 32).enc (fun _=>0))],[bl g10 97 ((cNs 4).enc (wd x))],[bl g11 97 ((cNs 4).enc (wd c))],[bl g12 97 ((cNs 4).enc (wd d))],[bl g13 97 ((cNs 4).enc (wd a))],[bl g14 97 ((cNs 4).enc (wd b))],[bl (G 6).g 97 ((cNs 4).enc (wd (nA c d)))],[bl (G 7).g 97 ((cNs 4).enc (wd (nS c d)))]]) hH (.c (.ld (fun G _ _ hH=>(hH.q 0 rfl)) fun G=>(.ld (cNs 4) (wd c) (fun _ hS=>(holds_blk0 hS)))) <| .c (.ld (fun G _ _ hH=>(hH.q 0 rfl)) fun G=>(.ld (cNs 4) (wd d) (fun _ hS=>(holds_blk0 hS)))) <| .c (Sp.c Tryz.func73 (fun G=>(rplus_p c d lc ld)) fun _=>trivial) <| .c (.ld (fun G _ _ hH=>(hH.q 0 rfl)) fun G=>(.ld (cNs 4) (wd c) (fun _ hS=>(holds_blk0 hS)))) <| .c (.ld (fun G _ _ hH=>(hH.q 0 rfl)) fun G=>(.ld (cNs 4) (wd d) (fun _ hS=>(holds_blk0 hS)))) <| .c (Sp.c Tryz.func74 (fun G=>(rminus_p c d lc ld)) fun _=>trivial) <| .c (.a (fun _ _ _ _=>trivial) (fun G=>(.al (cNs 4) (fun _=>0))) fun _ _ _ h=>h) <| .c (.a (fun _ _ _ _=>trivial) (fun G=>(.al (cNs 4) (fun _=>0))) fun _ _ _ h=>h) <| .c (.tn (fun G=>(.sw (cNs 4) (fun _=>0) (wd (nA c d)))) (fun _ _ _ _=>trivial) fun _ _ _ h=>h) <| .c (.tn (fun G=>(.sw (cNs 4) (fun _=>0) (wd (nS c d)))) (fun _ _ _ _=>trivial) fun _ _ _ h=>h) <| .nil) ?_
 clear hH
 rintro G w - hH
 revert hH
 generalize (G 6).g=g18
 generalize (G 7).g=g19
 intro hH
 refine rn ?_
 obtain ⟨p,hp,lp⟩:∃ p,p=nA c d∧p<2^256:=⟨_,rfl,(nA_lt lc ld)⟩
 replace hH:HH w0 [] [[bl g1 22 ((cArr 32).enc n)],[bl g2 22 ((cArr 32).enc (stF u 31 ((u 31) &&& (127:UInt8))))],[bl g3 22 ((cArr 32).enc (fun _=>0))],[bl g10 97 ((cNs 4).enc (wd x))],[bl g11 97 ((cNs 4).enc (wd c))],[bl g12 97 ((cNs 4).enc (wd d))],[bl g13 97 ((cNs 4).enc (wd a))],[bl g14 97 ((cNs 4).enc (wd b))],[bl g18 97 ((cNs 4).enc (wd p))],[bl g19 97 ((cNs 4).enc (wd (nS c d)))]] w:=by rw [hp]; exact hH
 obtain ⟨q,hq,lq⟩:∃ q,q=nS c d∧q<2^256:=⟨_,rfl,(nS_lt lc)⟩
 replace hH:HH w0 [] [[bl g1 22 ((cArr 32).enc n)],[bl g2 22 ((cArr 32).enc (stF u 31 ((u 31) &&& (127:UInt8))))],[bl g3 22 ((cArr 32).enc (fun _=>0))],[bl g10 97 ((cNs 4).enc (wd x))],[bl g11 97 ((cNs 4).enc (wd c))],[bl g12 97 ((cNs 4).enc (wd d))],[bl g13 97 ((cNs 4).enc (wd a))],[bl g14 97 ((cNs 4).enc (wd b))],[bl g18 97 ((cNs 4).enc (wd p))],[bl g19 97 ((cNs 4).enc (wd q))]] w:=by rw [hq]; exact hH
 refine zx ?_
 replace hH:=hH.drew
 refine rxPg 0 [ldv 0 62 [] [] [1008] fun G=>((cNs 4).val (wd p)),ldv 1 63 [] [] [1008] fun G=>((cNs 4).val (wd p)),pv 2 64 [0,1] [] fun G=>((cNs 4).val (wd (tm p p))),ldv 3 65 [] [] [1009] fun G=>((cNs 4).val (wd q)),ldv 4 66 [] [] [1009] fun G=>((cNs 4).val (wd q)),pv 5 67 [3,4] [] fun G=>((cNs 4).val (wd (tm q q))),alv 6 14 [] [] fun G g=>[bl g 97 ((cNs 4).enc (fun _=>0))],alv 7 15 [] [] fun G g=>[bl g 97 ((cNs 4).enc (fun _=>0))],stv 8 [2,6] [6] 6 fun G=>[bl (G 6).g 97 ((cNs 4).enc (wd (tm p p)))],stv 9 [5,7] [7] 7 fun G=>[bl (G 7).g 97 ((cNs 4).enc (wd (tm q q)))]] (fun G=>[(14,(.pointer (some ⟨(G 6).g,0,none⟩))),(15,(.pointer (some ⟨(G 7).g,0,none⟩))),(12,(.pointer (some ⟨g18,0,none⟩))),(13,(.pointer (some ⟨g19,0,none⟩))),(11,(.int .u8 (((((sr8 (n (k / 8)) (k%8)) &&& (1:UInt8)).toNat):Nat):Int))),(10,(.int .i64 (((k):Nat):Int))),(9,(.pointer (some ⟨g14,0,none⟩))),(8,(.pointer (some ⟨g13,0,none⟩))),(7,(.pointer (some ⟨g12,0,none⟩))),(6,(.pointer (some ⟨g11,0,none⟩))),(5,(.pointer (some ⟨g10,0,none⟩))),(4,(.pointer (some ⟨g3,0,none⟩))),(2,(.pointer (some ⟨g1,0,none⟩)))]) (fun G=>[[bl g1 22 ((cArr 32).enc n)],[bl g2 22 ((cArr 32).enc (stF u 31 ((u 31) &&& (127:UInt8))))],[bl g3 22 ((cArr 32).enc (fun _=>0))],[bl g10 97 ((cNs 4).enc (wd x))],[bl g11 97 ((cNs 4).enc (wd c))],[bl g12 97 ((cNs 4).enc (wd d))],[bl g13 97 ((cNs 4).enc (wd a))],[bl g14 97 ((cNs 4).enc (wd b))],[bl g18 97 ((cNs 4).enc (wd p))],[bl g19 97 ((cNs 4).enc (wd q))],[bl (G 6).g 97 ((cNs 4).enc (wd (tm p p)))],[bl (G 7).g 97 ((cNs 4).enc (wd (tm q q)))]]) hH (.c (.ld (fun G _ _ hH=>(hH.q 0 rfl)) fun G=>(.ld (cNs 4) (wd p) (fun _ hS=>(holds_blk0 hS)))) <| .c (.ld (fun G _ _ hH=>(hH.q 0 rfl)) fun G=>(.ld (cNs 4) (wd p) (fun _ hS=>(holds_blk0 hS)))) <| .c (Sp.c Tryz.func75 (fun G=>(rtimes_p p p lp lp)) fun _=>trivial) <| .c (.ld (fun G _ _ hH=>(hH.q 0 rfl)) fun G=>(.ld (cNs 4) (wd q) (fun _ hS=>(holds_blk0 hS)))) <| .c (.ld (fun G _ _ hH=>(hH.q 0 rfl)) fun G=>(.ld (cNs 4) (wd q) (fun _ hS=>(holds_blk0 hS)))) <| .c (Sp.c Tryz.func75 (fun G=>(rtimes_p q q lq lq)) fun _=>trivial) <| .c (.a (fun _ _ _ _=>trivial) (fun G=>(.al (cNs 4) (fun _=>0))) fun _ _ _ h=>h) <| .c (.a (fun _ _ _ _=>trivial) (fun G=>(.al (cNs 4) (fun _=>0))) fun _ _ _ h=>h) <| .c (.tn (fun G=>(.sw (cNs 4) (fun _=>0) (wd (tm p p)))) (fun _ _ _ _=>trivial) fun _ _ _ h=>h) <| .c (.tn (fun G=>(.sw (cNs 4) (fun _=>0) (wd (tm q q)))) (fun _ _ _ _=>trivial) fun _ _ _ h=>h) <| .nil) ?_
 clear hH
 rintro G w - hH
 revert hH
 generalize (G 6).g=g20
 generalize (G 7).g=g21
 intro hH
 refine rn ?_
 obtain ⟨aa,haa,laa⟩:∃ aa,aa=tm p p∧aa<2^256:=⟨_,rfl,(tm_lt lp lp)⟩
 replace hH:HH w0 [] [[bl g1 22 ((cArr 32).enc n)],[bl g2 22 ((cArr 32).enc (stF u 31 ((u 31) &&& (127:UInt8))))],[bl g3 22 ((cArr 32).enc (fun _=>0))],[bl g10 97 ((cNs 4).enc (wd x))],[bl g11 97 ((cNs 4).enc (wd c))],[bl g12 97 ((cNs 4).enc (wd d))],[bl g13 97 ((cNs 4).enc (wd a))],[bl g14 97 ((cNs 4).enc (wd b))],[bl g18 97 ((cNs 4).enc (wd p))],[bl g19 97 ((cNs 4).enc (wd q))],[bl g20 97 ((cNs 4).enc (wd aa))],[bl g21 97 ((cNs 4).enc (wd (tm q q)))]] w:=by rw [haa]; exact hH
 obtain ⟨bb,hbb,lbb⟩:∃ bb,bb=tm q q∧bb<2^256:=⟨_,rfl,(tm_lt lq lq)⟩
 replace hH:HH w0 [] [[bl g1 22 ((cArr 32).enc n)],[bl g2 22 ((cArr 32).enc (stF u 31 ((u 31) &&& (127:UInt8))))],[bl g3 22 ((cArr 32).enc (fun _=>0))],[bl g10 97 ((cNs 4).enc (wd x))],[bl g11 97 ((cNs 4).enc (wd c))],[bl g12 97 ((cNs 4).enc (wd d))],[bl g13 97 ((cNs 4).enc (wd a))],[bl g14 97 ((cNs 4).enc (wd b))],[bl g18 97 ((cNs 4).enc (wd p))],[bl g19 97 ((cNs 4).enc (wd q))],[bl g20 97 ((cNs 4).enc (wd aa))],[bl g21 97 ((cNs 4).enc (wd bb))]] w:=by rw [hbb]; exact hH
 refine zr (zs (hH.q 10 rfl) (.ld (cNs 4) (wd aa) (fun _ hS=>(holds_blk0 hS))) 0 ?_)
 refine zs (hH.q 11 rfl) (.ld (cNs 4) (wd bb) (fun _ hS=>(holds_blk0 hS))) 0 ?_
 refine zc Tryz.func74 (rminus_p aa bb laa lbb) trivial hH 3 ?_
 clear hH
 intro w hH
 refine zm hH (.al (cNs 4) (fun _=>0)) trivial 0 ?_
 clear hH
 rintro _ _ w ⟨g22,rfl,rfl⟩ hH
 refine ze0 12 hH rfl (.sw (cNs 4) (fun _=>0) (wd (nS aa bb))) trivial ?_
 clear hH
 rintro _ _ w rfl hH
 refine zn ?_
 obtain ⟨ee,hee,lee⟩:∃ ee,ee=nS aa bb∧ee<2^256:=⟨_,rfl,(nS_lt laa)⟩
 replace hH:HH w0 [] [[bl g1 22 ((cArr 32).enc n)],[bl g2 22 ((cArr 32).enc (stF u 31 ((u 31) &&& (127:UInt8))))],[bl g3 22 ((cArr 32).enc (fun _=>0))],[bl g10 97 ((cNs 4).enc (wd x))],[bl g11 97 ((cNs 4).enc (wd c))],[bl g12 97 ((cNs 4).enc (wd d))],[bl g13 97 ((cNs 4).enc (wd a))],[bl g14 97 ((cNs 4).enc (wd b))],[bl g18 97 ((cNs 4).enc (wd p))],[bl g19 97 ((cNs 4).enc (wd q))],[bl g20 97 ((cNs 4).enc (wd aa))],[bl g21 97 ((cNs 4).enc (wd bb))],[bl g22 97 ((cNs 4).enc (wd ee))]] w:=by rw [hee]; exact hH
 refine zx ?_
 replace hH:=hH.drew
 refine rxPg 0 [ldv 0 71 [] [] [1009] fun G=>((cNs 4).val (wd q)),ldv 1 72 [] [] [1006] fun G=>((cNs 4).val (wd a)),ldv 2 73 [] [] [1007] fun G=>((cNs 4).val (wd b)),pv 3 74 [1,2] [] fun G=>((cNs 4).val (wd (nA a b))),pv 4 75 [0,3] [] fun G=>((cNs 4).val (wd (tm q (nA a b)))),ldv 5 76 [] [] [1008] fun G=>((cNs 4).val (wd p)),ldv 6 77 [] [] [1006] fun G=>((cNs 4).val (wd a)),ldv 7 78 [] [] [1007] fun G=>((cNs 4).val (wd b)),pv 8 79 [6,7] [] fun G=>((cNs 4).val (wd (nS a b))),pv 9 80 [5,8] [] fun G=>((cNs 4).val (wd (tm p (nS a b)))),alv 10 17 [] [] fun G g=>[bl g 97 ((cNs 4).enc (fun _=>0))],alv 11 18 [] [] fun G g=>[bl g 97 ((cNs 4).enc (fun _=>0))],stv 12 [4,10] [10] 10 fun G=>[bl (G 10).g 97 ((cNs 4).enc (wd (tm q (nA a b))))],stv 13 [9,11] [11] 11 fun G=>[bl (G 11).g 97 ((cNs 4).enc (wd (tm p (nS a b))))]] (fun G=>[(17,(.pointer (some ⟨(G 10).g,0,none⟩))),(18,(.pointer (some ⟨(G 11).g,0,none⟩))),(16,(.pointer (some ⟨g22,0,none⟩))),(14,(.pointer (some ⟨g20,0,none⟩))),(15,(.pointer (some ⟨g21,0,none⟩))),(11,(.int .u8 (((((sr8 (n (k / 8)) (k%8)) &&& (1:UInt8)).toNat):Nat):Int))),(10,(.int .i64 (((k):Nat):Int))),(9,(.pointer (some ⟨g14,0,none⟩))),(8,(.pointer (some ⟨g13,0,none⟩))),(7,(.pointer (some ⟨g12,0,none⟩))),(6,(.pointer (some ⟨g11,0,none⟩))),(5,(.pointer (some ⟨g10,0,none⟩))),(4,(.pointer (some ⟨g3,0,none⟩))),(2,(.pointer (some ⟨g1,0,none⟩)))]) (fun G=>[[bl g1 22 ((cArr 32).enc n)],[bl g2 22 ((cArr 32).enc (stF u 31 ((u 31) &&& (127:UInt8))))],[bl g3 22 ((cArr 32).enc (fun _=>0))],[bl g10 97 ((cNs 4).enc (wd x))],[bl g11 97 ((cNs 4).enc (wd c))],[bl g12 97 ((cNs 4).enc (wd d))],[bl g13 97 ((cNs 4).enc (wd a))],[bl g14 97 ((cNs 4).enc (wd b))],[bl g18 97 ((cNs 4).enc (wd p))],[bl g19 97 ((cNs 4).enc (wd q))],[bl g20 97 ((cNs 4).enc (wd aa))],[bl g21 97 ((cNs 4).enc (wd bb))],[bl g22 97 ((cNs 4).enc (wd ee))],[bl (G 10).g 97 ((cNs 4).enc (wd (tm q (nA a b))))],[bl (G 11).g 97 ((cNs 4).enc (wd (tm p (nS a b))))]]) hH (.c (.ld (fun G _ _ hH=>(hH.q 0 rfl)) fun G=>(.ld (cNs 4) (wd q) (fun _ hS=>(holds_blk0 hS)))) <| .c (.ld (fun G _ _ hH=>(hH.q 0 rfl)) fun G=>(.ld (cNs 4) (wd a) (fun _ hS=>(holds_blk0 hS)))) <| .c (.ld (fun G _ _ hH=>(hH.q 0 rfl)) fun G=>(.ld (cNs 4) (wd b) (fun _ hS=>(holds_blk0 hS)))) <| .c (Sp.c Tryz.func73 (fun G=>(rplus_p a b la lb)) fun _=>trivial) <| .c (Sp.c Tryz.func75 (fun G=>(rtimes_p q (nA a b) lq (nA_lt la lb))) fun _=>trivial) <| .c (.ld (fun G _ _ hH=>(hH.q 0 rfl)) fun G=>(.ld (cNs 4) (wd p) (fun _ hS=>(holds_blk0 hS)))) <| .c (.ld (fun G _ _ hH=>(hH.q 0 rfl)) fun G=>(.ld (cNs 4) (wd a) (fun _ hS=>(holds_blk0 hS)))) <| .c (.ld (fun G _ _ hH=>(hH.q 0 rfl)) fun G=>(.ld (cNs 4) (wd b) (fun _ hS=>(holds_blk0 hS)))) <| .c (Sp.c Tryz.func74 (fun G=>(rminus_p a b la lb)) fun _=>trivial) <| .c (Sp.c Tryz.func75 (fun G=>(rtimes_p p (nS a b) lp (nS_lt la))) fun _=>trivial) <| .c (.a (fun _ _ _ _=>trivial) (fun G=>(.al (cNs 4) (fun _=>0))) fun _ _ _ h=>h) <| .c (.a (fun _ _ _ _=>trivial) (fun G=>(.al (cNs 4) (fun _=>0))) fun _ _ _ h=>h) <| .c (.tn (fun G=>(.sw (cNs 4) (fun _=>0) (wd (tm q (nA a b))))) (fun _ _ _ _=>trivial) fun _ _ _ h=>h) <| .c (.tn (fun G=>(.sw (cNs 4) (fun _=>0) (wd (tm p (nS a b))))) (fun _ _ _ _=>trivial) fun _ _ _ h=>h) <| .nil) ?_
 clear hH
 rintro G w - hH
 revert hH
 generalize (G 10).g=g23
 generalize (G 11).g=g24
 intro hH
 refine rn ?_
 obtain ⟨da,hda,lda⟩:∃ da,da=tm q (nA a b)∧da<2^256:=⟨_,rfl,(tm_lt lq (nA_lt la lb))⟩
 replace hH:HH w0 [] [[bl g1 22 ((cArr 32).enc n)],[bl g2 22 ((cArr 32).enc (stF u 31 ((u 31) &&& (127:UInt8))))],[bl g3 22 ((cArr 32).enc (fun _=>0))],[bl g10 97 ((cNs 4).enc (wd x))],[bl g11 97 ((cNs 4).enc (wd c))],[bl g12 97 ((cNs 4).enc (wd d))],[bl g13 97 ((cNs 4).enc (wd a))],[bl g14 97 ((cNs 4).enc (wd b))],[bl g18 97 ((cNs 4).enc (wd p))],[bl g19 97 ((cNs 4).enc (wd q))],[bl g20 97 ((cNs 4).enc (wd aa))],[bl g21 97 ((cNs 4).enc (wd bb))],[bl g22 97 ((cNs 4).enc (wd ee))],[bl g23 97 ((cNs 4).enc (wd da))],[bl g24 97 ((cNs 4).enc (wd (tm p (nS a b))))]] w:=by rw [hda]; exact hH
 obtain ⟨cb,hcb,lcb⟩:∃ cb,cb=tm p (nS a b)∧cb<2^256:=⟨_,rfl,(tm_lt lp (nS_lt la))⟩
 replace hH:HH w0 [] [[bl g1 22 ((cArr 32).enc n)],[bl g2 22 ((cArr 32).enc (stF u 31 ((u 31) &&& (127:UInt8))))],[bl g3 22 ((cArr 32).enc (fun _=>0))],[bl g10 97 ((cNs 4).enc (wd x))],[bl g11 97 ((cNs 4).enc (wd c))],[bl g12 97 ((cNs 4).enc (wd d))],[bl g13 97 ((cNs 4).enc (wd a))],[bl g14 97 ((cNs 4).enc (wd b))],[bl g18 97 ((cNs 4).enc (wd p))],[bl g19 97 ((cNs 4).enc (wd q))],[bl g20 97 ((cNs 4).enc (wd aa))],[bl g21 97 ((cNs 4).enc (wd bb))],[bl g22 97 ((cNs 4).enc (wd ee))],[bl g23 97 ((cNs 4).enc (wd da))],[bl g24 97 ((cNs 4).enc (wd cb))]] w:=by rw [hcb]; exact hH
 refine zx ?_
 replace hH:=hH.drew
 refine rld 0 (hH.q 13 rfl) (.ld (cNs 4) (wd da) (fun _ hS=>(holds_blk0 hS))) 0 ?_
 refine rld 1 (hH.q 14 rfl) (.ld (cNs 4) (wd cb) (fun _ hS=>(holds_blk0 hS))) 0 ?_
 refine rld 3 (hH.q 13 rfl) (.ld (cNs 4) (wd da) (fun _ hS=>(holds_blk0 hS))) 0 ?_
 refine rld 4 (hH.q 14 rfl) (.ld (cNs 4) (wd cb) (fun _ hS=>(holds_blk0 hS))) 0 ?_
 refine rld 7 (hH.q 3 rfl) (.ld (cNs 4) (wd x) (fun _ hS=>(holds_blk0 hS))) 0 ?_
 refine rld 8 (hH.q 13 rfl) (.ld (cNs 4) (wd da) (fun _ hS=>(holds_blk0 hS))) 0 ?_
 refine rld 9 (hH.q 14 rfl) (.ld (cNs 4) (wd cb) (fun _ hS=>(holds_blk0 hS))) 0 ?_
 refine rld 11 (hH.q 13 rfl) (.ld (cNs 4) (wd da) (fun _ hS=>(holds_blk0 hS))) 128 ?_
 refine rld 12 (hH.q 14 rfl) (.ld (cNs 4) (wd cb) (fun _ hS=>(holds_blk0 hS))) 256 ?_
 refine rx1k 2 (rpc 2 Tryz.func73 (rplus_p da cb lda lcb) trivial hH 384 (.keep (.keep (.keep (.keep (.keep (.keep (.keep (pgo [] (pgo [] (.nil _ [])))))))))) ?_)
 clear hH
 intro w hH
 refine ⟨pcons (hH.blk 14 rfl) (pcons (hH.blk 13 rfl) (pcons (hH.blk 14 rfl) (pcons (hH.blk 13 rfl) (pcons (hH.blk 3 rfl) (pcons (hH.blk 14 rfl) (pcons (hH.blk 13 rfl) pnil)))))),?_⟩
 refine rx1k 5 (rpc 5 Tryz.func73 (rplus_p da cb lda lcb) trivial hH 192 (.keep (.keep (.keep (.keep (.keep (pgo [] (pgo [] (.nil _ [])))))))) ?_)
 clear hH
 intro w hH
 refine ⟨pcons (hH.blk 14 rfl) (pcons (hH.blk 13 rfl) (pcons (hH.blk 14 rfl) (pcons (hH.blk 13 rfl) (pcons (hH.blk 3 rfl) pnil)))),?_⟩
 refine rx1k 6 (rpc 6 Tryz.func75 (rtimes_p (nA da cb) (nA da cb) (nA_lt lda lcb) (nA_lt lda lcb)) trivial hH 3 (.keep (.keep (.keep (.keep (.keep (.nil _ [])))))) ?_)
 clear hH
 intro w hH
 refine ⟨pcons (hH.blk 14 rfl) (pcons (hH.blk 13 rfl) (pcons (hH.blk 14 rfl) (pcons (hH.blk 13 rfl) (pcons (hH.blk 3 rfl) pnil)))),?_⟩
 refine rx1k 10 (rpc 10 Tryz.func74 (rminus_p da cb lda lcb) trivial hH 24 (.keep (.keep (pgo [] (pgo [] (.keep (.nil _ [])))))) ?_)
 clear hH
 intro w hH
 refine ⟨pcons (hH.blk 14 rfl) (pcons (hH.blk 13 rfl) (pcons (hH.blk 3 rfl) pnil)),?_⟩
 refine rx1k 13 (rpc 13 Tryz.func74 (rminus_p da cb lda lcb) trivial hH 12 (pgo [] (pgo [] (.keep (.nil _ [])))) ?_)
 clear hH
 intro w hH
 refine ⟨pcons (hH.blk 3 rfl) pnil,?_⟩
 refine rx1k 14 (rpc 14 Tryz.func75 (rtimes_p (nS da cb) (nS da cb) (nS_lt lda) (nS_lt lda)) trivial hH 3 (.keep (.nil _ [])) ?_)
 clear hH
 intro w hH
 refine ⟨pcons (hH.blk 3 rfl) pnil,?_⟩
 refine rx1k 15 (rpc 15 Tryz.func75 (rtimes_p x (tm (nS da cb) (nS da cb)) lx (tm_lt (nS_lt lda) (nS_lt lda))) trivial hH 5 (pgo [] (.nil _ [])) ?_)
 clear hH
 intro w hH
 refine ⟨pnil,rx1k 16 ?_⟩
 refine re0 16 6 hH rfl (.sw (cNs 4) (wd a) (wd (tm (nA da cb) (nA da cb)))) trivial (.nil _ []) ?_
 clear hH
 rintro _ _ w rfl hH
 refine ⟨pnil,rx1k 17 ?_⟩
 refine re0 17 7 hH rfl (.sw (cNs 4) (wd b) (wd (tm x (tm (nS da cb) (nS da cb))))) trivial (.nil _ []) ?_
 clear hH
 rintro _ _ w rfl hH
 refine ⟨pnil,rn ?_⟩
 refine zx ?_
 replace hH:=hH.drew
 refine rld 0 (hH.q 10 rfl) (.ld (cNs 4) (wd aa) (fun _ hS=>(holds_blk0 hS))) 3 ?_
 refine rld 1 (hH.q 11 rfl) (.ld (cNs 4) (wd bb) (fun _ hS=>(holds_blk0 hS))) 8 ?_
 refine rld 3 (hH.q 12 rfl) (.ld (cNs 4) (wd ee) (fun _ hS=>(holds_blk0 hS))) 0 ?_
 refine rld 4 (hH.q 10 rfl) (.ld (cNs 4) (wd aa) (fun _ hS=>(holds_blk0 hS))) 16 ?_
 refine rld 6 (hH.q 12 rfl) (.ld (cNs 4) (wd ee) (fun _ hS=>(holds_blk0 hS))) 16 ?_
 refine rx1k 2 (rpc 2 Tryz.func75 (rtimes_p aa bb laa lbb) trivial hH 24 (.keep (.keep (.keep (pgo [] (pgo [] (.nil _ [])))))) ?_)
 clear hH
 intro w hH
 refine ⟨pcons (hH.blk 12 rfl) (pcons (hH.blk 10 rfl) (pcons (hH.blk 12 rfl) pnil)),?_⟩
 refine rx1k 5 (rpc 5 Tryz.func72 (rsmall_p 121665 (by decide)) trivial hH 0 (.keep (.keep (.keep (.nil _ [])))) ?_)
 clear hH
 intro w hH
 refine ⟨pcons (hH.blk 12 rfl) (pcons (hH.blk 10 rfl) (pcons (hH.blk 12 rfl) pnil)),?_⟩
 refine rx1k 7 (rpc 7 Tryz.func75 (rtimes_p 121665 ee (by decide) lee) trivial hH 5 (pgo [] (.keep (.keep (.nil _ [])))) ?_)
 clear hH
 intro w hH
 refine ⟨pcons (hH.blk 10 rfl) (pcons (hH.blk 12 rfl) pnil),?_⟩
 refine rx1k 8 (rpc 8 Tryz.func73 (rplus_p aa (tm 121665 ee) laa (tm_lt (by decide) lee)) trivial hH 5 (pgo [] (.keep (.nil _ []))) ?_)
 clear hH
 intro w hH
 refine ⟨pcons (hH.blk 12 rfl) pnil,?_⟩
 refine rx1k 9 (rpc 9 Tryz.func75 (rtimes_p ee (nA aa (tm 121665 ee)) lee (nA_lt laa (tm_lt (by decide) lee))) trivial hH 5 (pgo [] (.nil _ [])) ?_)
 clear hH
 intro w hH
 refine ⟨pnil,rx1k 10 ?_⟩
 refine re0 10 4 hH rfl (.sw (cNs 4) (wd c) (wd (tm aa bb))) trivial (.nil _ []) ?_
 clear hH
 rintro _ _ w rfl hH
 refine ⟨pnil,rx1k 11 ?_⟩
 refine re0 11 5 hH rfl (.sw (cNs 4) (wd d) (wd (tm ee (nA aa (tm 121665 ee))))) trivial (.nil _ []) ?_
 clear hH
 rintro _ _ w rfl hH
 refine ⟨pnil,rn ?_⟩
 refine zr (zv .mv 7 ?_)
 refine zv (v:=(.bool true)) (fun _ _ hF=>opEqI rfl (hF.ev 0 rfl) rfl (decide_eq_true (by omega))) 1 ?_
 refine zn (zT ?_)
 refine cxRegX mixedOrders (by kernel_rfl) ?_
 replace hH:=hH.drew
 refine rld 0 (hH.q 6 rfl) (.ld (cNs 4) (wd (tm (nA da cb) (nA da cb))) (fun _ hS=>(holds_blk0 hS))) 1 ?_
 refine rld 1 (hH.q 7 rfl) (.ld (cNs 4) (wd (tm x (tm (nS da cb) (nS da cb)))) (fun _ hS=>(holds_blk0 hS))) 0 ?_
 refine rld 2 (hH.q 4 rfl) (.ld (cNs 4) (wd (tm aa bb)) (fun _ hS=>(holds_blk0 hS))) 0 ?_
 refine rld 3 (hH.q 5 rfl) (.ld (cNs 4) (wd (tm ee (nA aa (tm 121665 ee)))) (fun _ hS=>(holds_blk0 hS))) 0 ?_
 refine rx1k 4 ?_
 refine re0 4 4 hH rfl (.sw (cNs 4) (wd (tm aa bb)) (wd (tm (nA da cb) (nA da cb)))) trivial (pgo [] (pgo [] (.keep (pgo [] (.nil _ []))))) ?_
 clear hH
 rintro _ _ w rfl hH
 refine ⟨pcons (hH.blk 7 rfl) pnil,?_⟩
 refine rx1k 5 ?_
 refine re0 5 5 hH rfl (.sw (cNs 4) (wd (tm ee (nA aa (tm 121665 ee)))) (wd (tm x (tm (nS da cb) (nS da cb))))) trivial (pgo [] (.nil _ [])) ?_
 clear hH
 rintro _ _ w rfl hH
 refine ⟨pnil,rx1k 6 ?_⟩
 refine re0 6 6 hH rfl (.sw (cNs 4) (wd (tm (nA da cb) (nA da cb))) (wd (tm aa bb))) trivial (.nil _ []) ?_
 clear hH
 rintro _ _ w rfl hH
 refine ⟨pnil,rx1k 7 ?_⟩
 refine re0 7 7 hH rfl (.sw (cNs 4) (wd (tm x (tm (nS da cb) (nS da cb)))) (wd (tm ee (nA aa (tm 121665 ee))))) trivial (.nil _ []) ?_
 clear hH
 rintro _ _ w rfl hH
 refine ⟨pnil,rxEnd (by kernel_rfl) ?_⟩
 refine qxInN (qxThen (cxReg (zv .mv 31 ?_)))
 refine zv (.sub ((k:Int) - 1)) 1 ?_
 refine zv .mv 1 ?_
 refine pxEnd ?_
 replace hH:HH w0 [] [[bl g1 22 ((cArr 32).enc n)],[bl g2 22 ((cArr 32).enc (stF u 31 ((u 31) &&& (127:UInt8))))],[bl g3 22 ((cArr 32).enc (fun _=>0))],[bl g10 97 ((cNs 4).enc (wd x))],[bl g11 97 ((cNs 4).enc (wd (tm (nA da cb) (nA da cb))))],[bl g12 97 ((cNs 4).enc (wd (tm x (tm (nS da cb) (nS da cb)))))],[bl g13 97 ((cNs 4).enc (wd (tm aa bb)))],[bl g14 97 ((cNs 4).enc (wd (tm ee (nA aa (tm 121665 ee)))))]] w:=hH.only [true,true,true,true,true,true,true,true,false,false,false,false,false,false,false]
 exact zR5 k (tm (nA da cb) (nA da cb)) (tm x (tm (nS da cb) (nS da cb))) (tm aa bb) (tm ee (nA aa (tm 121665 ee))) ⟨hH,(by omega),(tm_lt (nA_lt lda lcb) (nA_lt lda lcb)),(tm_lt lx (tm_lt (nS_lt lda) (nS_lt lda))),(tm_lt laa lbb),(tm_lt lee (nA_lt laa (tm_lt (by decide) lee))),(by rw [dLad_next n x (by omega),← hS]; unfold dStep; rw [if_pos (show (bitB n k).toNat=1 from hc17)]; subst hda hcb hee haa hbb hp hq; rfl)⟩ (by omega)
 refine cxSkip (qxThen (zx ?_))
 replace hH:=hH.drew
 refine rxPg 0 [ldv 0 56 [] [] [1004] fun G=>((cNs 4).val (wd a)),ldv 1 57 [] [] [1005] fun G=>((cNs 4).val (wd b)),pv 2 58 [0,1] [] fun G=>((cNs 4).val (wd (nA a b))),ldv 3 59 [] [] [1004] fun G=>((cNs 4).val (wd a)),ldv 4 60 [] [] [1005] fun G=>((cNs 4).val (wd b)),pv 5 61 [3,4] [] fun G=>((cNs 4).val (wd (nS a b))),alv 6 12 [] [] fun G g=>[bl g 97 ((cNs 4).enc (fun _=>0))],alv 7 13 [] [] fun G g=>[bl g 97 ((cNs 4).enc (fun _=>0))],stv 8 [2,6] [6] 6 fun G=>[bl (G 6).g 97 ((cNs 4).enc (wd (nA a b)))],stv 9 [5,7] [7] 7 fun G=>[bl (G 7).g 97 ((cNs 4).enc (wd (nS a b)))]] (fun G=>[(12,(.pointer (some ⟨(G 6).g,0,none⟩))),(13,(.pointer (some ⟨(G 7).g,0,none⟩))),(11,(.int .u8 (((((sr8 (n (k / 8)) (k%8)) &&& (1:UInt8)).toNat):Nat):Int))),(10,(.int .i64 (((k):Nat):Int))),(9,(.pointer (some ⟨g14,0,none⟩))),(8,(.pointer (some ⟨g13,0,none⟩))),(7,(.pointer (some ⟨g12,0,none⟩))),(6,(.pointer (some ⟨g11,0,none⟩))),(5,(.pointer (some ⟨g10,0,none⟩))),(4,(.pointer (some ⟨g3,0,none⟩))),(2,(.pointer (some ⟨g1,0,none⟩)))]) (fun G=>[[bl g1 22 ((cArr 32).enc n)],[bl g2 22 ((cArr 32).enc (stF u 31 ((u 31) &&& (127:UInt8))))],[bl g3 22 ((cArr 32).enc (fun _=>0))],[bl g10 97 ((cNs 4).enc (wd x))],[bl g11 97 ((cNs 4).enc (wd a))],[bl g12 97 ((cNs 4).enc (wd b))],[bl g13 97 ((cNs 4).enc (wd c))],[bl g14 97 ((cNs 4).enc (wd d))],[bl (G 6).g 97 ((cNs 4).enc (wd (nA a b)))],[bl (G 7).g 97 ((cNs 4).enc (wd (nS a b)))]]) hH (.c (.ld (fun G _ _ hH=>(hH.q 0 rfl)) fun G=>(.ld (cNs 4) (wd a) (fun _ hS=>(holds_blk0 hS)))) <| .c (.ld (fun G _ _ hH=>(hH.q 0 rfl)) fun G=>(.ld (cNs 4) (wd b) (fun _ hS=>(holds_blk0 hS)))) <| .c (Sp.c Tryz.func73 (fun G=>(rplus_p a b la lb)) fun _=>trivial) <| .c (.ld (fun G _ _ hH=>(hH.q 0 rfl)) fun G=>(.ld (cNs 4) (wd a) (fun _ hS=>(holds_blk0 hS)))) <| .c (.ld (fun G _ _ hH=>(hH.q 0 rfl)) fun G=>(.ld (cNs 4) (wd b) (fun _ hS=>(holds_blk0 hS)))) <| .c (Sp.c Tryz.func74 (fun G=>(rminus_p a b la lb)) fun _=>trivial) <| .c (.a (fun _ _ _ _=>trivial) (fun G=>(.al (cNs 4) (fun _=>0))) fun _ _ _ h=>h) <| .c (.a (fun _ _ _ _=>trivial) (fun G=>(.al (cNs 4) (fun _=>0))) fun _ _ _ h=>h) <| .c (.tn (fun G=>(.sw (cNs 4) (fun _=>0) (wd (nA a b)))) (fun _ _ _ _=>trivial) fun _ _ _ h=>h) <| .c (.tn (fun G=>(.sw (cNs 4) (fun _=>0) (wd (nS a b)))) (fun _ _ _ _=>trivial) fun _ _ _ h=>h) <| .nil) ?_
 clear hH
 rintro G w - hH
 revert hH
 generalize (G 6).g=g25
 generalize (G 7).g=g26
 intro hH
 refine rn ?_
 obtain ⟨p,hp,lp⟩:∃ p,p=nA a b∧p<2^256:=⟨_,rfl,(nA_lt la lb)⟩
 replace hH:HH w0 [] [[bl g1 22 ((cArr 32).enc n)],[bl g2 22 ((cArr 32).enc (stF u 31 ((u 31) &&& (127:UInt8))))],[bl g3 22 ((cArr 32).enc (fun _=>0))],[bl g10 97 ((cNs 4).enc (wd x))],[bl g11 97 ((cNs 4).enc (wd a))],[bl g12 97 ((cNs 4).enc (wd b))],[bl g13 97 ((cNs 4).enc (wd c))],[bl g14 97 ((cNs 4).enc (wd d))],[bl g25 97 ((cNs 4).enc (wd p))],[bl g26 97 ((cNs 4).enc (wd (nS a b)))]] w:=by rw [hp]; exact hH
 obtain ⟨q,hq,lq⟩:∃ q,q=nS a b∧q<2^256:=⟨_,rfl,(nS_lt la)⟩
 replace hH:HH w0 [] [[bl g1 22 ((cArr 32).enc n)],[bl g2 22 ((cArr 32).enc (stF u 31 ((u 31) &&& (127:UInt8))))],[bl g3 22 ((cArr 32).enc (fun _=>0))],[bl g10 97 ((cNs 4).enc (wd x))],[bl g11 97 ((cNs 4).enc (wd a))],[bl g12 97 ((cNs 4).enc (wd b))],[bl g13 97 ((cNs 4).enc (wd c))],[bl g14 97 ((cNs 4).enc (wd d))],[bl g25 97 ((cNs 4).enc (wd p))],[bl g26 97 ((cNs 4).enc (wd q))]] w:=by rw [hq]; exact hH
 refine zx ?_
 replace hH:=hH.drew
 refine rxPg 0 [ldv 0 62 [] [] [1008] fun G=>((cNs 4).val (wd p)),ldv 1 63 [] [] [1008] fun G=>((cNs 4).val (wd p)),pv 2 64 [0,1] [] fun G=>((cNs 4).val (wd (tm p p))),ldv 3 65 [] [] [1009] fun G=>((cNs 4).val (wd q)),ldv 4 66 [] [] [1009] fun G=>((cNs 4).val (wd q)),pv 5 67 [3,4] [] fun G=>((cNs 4).val (wd (tm q q))),alv 6 14 [] [] fun G g=>[bl g 97 ((cNs 4).enc (fun _=>0))],alv 7 15 [] [] fun G g=>[bl g 97 ((cNs 4).enc (fun _=>0))],stv 8 [2,6] [6] 6 fun G=>[bl (G 6).g 97 ((cNs 4).enc (wd (tm p p)))],stv 9 [5,7] [7] 7 fun G=>[bl (G 7).g 97 ((cNs 4).enc (wd (tm q q)))]] (fun G=>[(14,(.pointer (some ⟨(G 6).g,0,none⟩))),(15,(.pointer (some ⟨(G 7).g,0,none⟩))),(12,(.pointer (some ⟨g25,0,none⟩))),(13,(.pointer (some ⟨g26,0,none⟩))),(11,(.int .u8 (((((sr8 (n (k / 8)) (k%8)) &&& (1:UInt8)).toNat):Nat):Int))),(10,(.int .i64 (((k):Nat):Int))),(9,(.pointer (some ⟨g14,0,none⟩))),(8,(.pointer (some ⟨g13,0,none⟩))),(7,(.pointer (some ⟨g12,0,none⟩))),(6,(.pointer (some ⟨g11,0,none⟩))),(5,(.pointer (some ⟨g10,0,none⟩))),(4,(.pointer (some ⟨g3,0,none⟩))),(2,(.pointer (some ⟨g1,0,none⟩)))]) (fun G=>[[bl g1 22 ((cArr 32).enc n)],[bl g2 22 ((cArr 32).enc (stF u 31 ((u 31) &&& (127:UInt8))))],[bl g3 22 ((cArr 32).enc (fun _=>0))],[bl g10 97 ((cNs 4).enc (wd x))],[bl g11 97 ((cNs 4).enc (wd a))],[bl g12 97 ((cNs 4).enc (wd b))],[bl g13 97 ((cNs 4).enc (wd c))],[bl g14 97 ((cNs 4).enc (wd d))],[bl g25 97 ((cNs 4).enc (wd p))],[bl g26 97 ((cNs 4).enc (wd q))],[bl (G 6).g 97 ((cNs 4).enc (wd (tm p p)))],[bl (G 7).g 97 ((cNs 4).enc (wd (tm q q)))]]) hH (.c (.ld (fun G _ _ hH=>(hH.q 0 rfl)) fun G=>(.ld (cNs 4) (wd p) (fun _ hS=>(holds_blk0 hS)))) <| .c (.ld (fun G _ _ hH=>(hH.q 0 rfl)) fun G=>(.ld (cNs 4) (wd p) (fun _ hS=>(holds_blk0 hS)))) <| .c (Sp.c Tryz.func75 (fun G=>(rtimes_p p p lp lp)) fun _=>trivial) <| .c (.ld (fun G _ _ hH=>(hH.q 0 rfl)) fun G=>(.ld (cNs 4) (wd q) (fun _ hS=>(holds_blk0 hS)))) <| .c (.ld (fun G _ _ hH=>(hH.q 0 rfl)) fun G=>(.ld (cNs 4) (wd q) (fun _ hS=>(holds_blk0 hS)))) <| .c (Sp.c Tryz.func75 (fun G=>(rtimes_p q q lq lq)) fun _=>trivial) <| .c (.a (fun _ _ _ _=>trivial) (fun G=>(.al (cNs 4) (fun _=>0))) fun _ _ _ h=>h) <| .c (.a (fun _ _ _ _=>trivial) (fun G=>(.al (cNs 4) (fun _=>0))) fun _ _ _ h=>h) <| .c (.tn (fun G=>(.sw (cNs 4) (fun _=>0) (wd (tm p p)))) (fun _ _ _ _=>trivial) fun _ _ _ h=>h) <| .c (.tn (fun G=>(.sw (cNs 4) (fun _=>0) (wd (tm q q)))) (fun _ _ _ _=>trivial) fun _ _ _ h=>h) <| .nil) ?_
 clear hH
 rintro G w - hH
 revert hH
 generalize (G 6).g=g27
 generalize (G 7).g=g28
 intro hH
 refine rn ?_
 obtain ⟨aa,haa,laa⟩:∃ aa,aa=tm p p∧aa<2^256:=⟨_,rfl,(tm_lt lp lp)⟩
 replace hH:HH w0 [] [[bl g1 22 ((cArr 32).enc n)],[bl g2 22 ((cArr 32).enc (stF u 31 ((u 31) &&& (127:UInt8))))],[bl g3 22 ((cArr 32).enc (fun _=>0))],[bl g10 97 ((cNs 4).enc (wd x))],[bl g11 97 ((cNs 4).enc (wd a))],[bl g12 97 ((cNs 4).enc (wd b))],[bl g13 97 ((cNs 4).enc (wd c))],[bl g14 97 ((cNs 4).enc (wd d))],[bl g25 97 ((cNs 4).enc (wd p))],[bl g26 97 ((cNs 4).enc (wd q))],[bl g27 97 ((cNs 4).enc (wd aa))],[bl g28 97 ((cNs 4).enc (wd (tm q q)))]] w:=by rw [haa]; exact hH
 obtain ⟨bb,hbb,lbb⟩:∃ bb,bb=tm q q∧bb<2^256:=⟨_,rfl,(tm_lt lq lq)⟩
 replace hH:HH w0 [] [[bl g1 22 ((cArr 32).enc n)],[bl g2 22 ((cArr 32).enc (stF u 31 ((u 31) &&& (127:UInt8))))],[bl g3 22 ((cArr 32).enc (fun _=>0))],[bl g10 97 ((cNs 4).enc (wd x))],[bl g11 97 ((cNs 4).enc (wd a))],[bl g12 97 ((cNs 4).enc (wd b))],[bl g13 97 ((cNs 4).enc (wd c))],[bl g14 97 ((cNs 4).enc (wd d))],[bl g25 97 ((cNs 4).enc (wd p))],[bl g26 97 ((cNs 4).enc (wd q))],[bl g27 97 ((cNs 4).enc (wd aa))],[bl g28 97 ((cNs 4).enc (wd bb))]] w:=by rw [hbb]; exact hH
 refine zr (zs (hH.q 10 rfl) (.ld (cNs 4) (wd aa) (fun _ hS=>(holds_blk0 hS))) 0 ?_)
 refine zs (hH.q 11 rfl) (.ld (cNs 4) (wd bb) (fun _ hS=>(holds_blk0 hS))) 0 ?_
 refine zc Tryz.func74 (rminus_p aa bb laa lbb) trivial hH 3 ?_
 clear hH
 intro w hH
 refine zm hH (.al (cNs 4) (fun _=>0)) trivial 0 ?_
 clear hH
 rintro _ _ w ⟨g29,rfl,rfl⟩ hH
 refine ze0 12 hH rfl (.sw (cNs 4) (fun _=>0) (wd (nS aa bb))) trivial ?_
 clear hH
 rintro _ _ w rfl hH
 refine zn ?_
 obtain ⟨ee,hee,lee⟩:∃ ee,ee=nS aa bb∧ee<2^256:=⟨_,rfl,(nS_lt laa)⟩
 replace hH:HH w0 [] [[bl g1 22 ((cArr 32).enc n)],[bl g2 22 ((cArr 32).enc (stF u 31 ((u 31) &&& (127:UInt8))))],[bl g3 22 ((cArr 32).enc (fun _=>0))],[bl g10 97 ((cNs 4).enc (wd x))],[bl g11 97 ((cNs 4).enc (wd a))],[bl g12 97 ((cNs 4).enc (wd b))],[bl g13 97 ((cNs 4).enc (wd c))],[bl g14 97 ((cNs 4).enc (wd d))],[bl g25 97 ((cNs 4).enc (wd p))],[bl g26 97 ((cNs 4).enc (wd q))],[bl g27 97 ((cNs 4).enc (wd aa))],[bl g28 97 ((cNs 4).enc (wd bb))],[bl g29 97 ((cNs 4).enc (wd ee))]] w:=by rw [hee]; exact hH
 refine zx ?_
 replace hH:=hH.drew
 refine rxPg 0 [ldv 0 71 [] [] [1009] fun G=>((cNs 4).val (wd q)),ldv 1 72 [] [] [1006] fun G=>((cNs 4).val (wd c)),ldv 2 73 [] [] [1007] fun G=>((cNs 4).val (wd d)),pv 3 74 [1,2] [] fun G=>((cNs 4).val (wd (nA c d))),pv 4 75 [0,3] [] fun G=>((cNs 4).val (wd (tm q (nA c d)))),ldv 5 76 [] [] [1008] fun G=>((cNs 4).val (wd p)),ldv 6 77 [] [] [1006] fun G=>((cNs 4).val (wd c)),ldv 7 78 [] [] [1007] fun G=>((cNs 4).val (wd d)),pv 8 79 [6,7] [] fun G=>((cNs 4).val (wd (nS c d))),pv 9 80 [5,8] [] fun G=>((cNs 4).val (wd (tm p (nS c d)))),alv 10 17 [] [] fun G g=>[bl g 97 ((cNs 4).enc (fun _=>0))],alv 11 18 [] [] fun G g=>[bl g 97 ((cNs 4).enc (fun _=>0))],stv 12 [4,10] [10] 10 fun G=>[bl (G 10).g 97 ((cNs 4).enc (wd (tm q (nA c d))))],stv 13 [9,11] [11] 11 fun G=>[bl (G 11).g 97 ((cNs 4).enc (wd (tm p (nS c d))))]] (fun G=>[(17,(.pointer (some ⟨(G 10).g,0,none⟩))),(18,(.pointer (some ⟨(G 11).g,0,none⟩))),(16,(.pointer (some ⟨g29,0,none⟩))),(14,(.pointer (some ⟨g27,0,none⟩))),(15,(.pointer (some ⟨g28,0,none⟩))),(11,(.int .u8 (((((sr8 (n (k / 8)) (k%8)) &&& (1:UInt8)).toNat):Nat):Int))),(10,(.int .i64 (((k):Nat):Int))),(9,(.pointer (some ⟨g14,0,none⟩))),(8,(.pointer (some ⟨g13,0,none⟩))),(7,(.pointer (some ⟨g12,0,none⟩))),(6,(.pointer (some ⟨g11,0,none⟩))),(5,(.pointer (some ⟨g10,0,none⟩))),(4,(.pointer (some ⟨g3,0,none⟩))),(2,(.pointer (some ⟨g1,0,none⟩)))]) (fun G=>[[bl g1 22 ((cArr 32).enc n)],[bl g2 22 ((cArr 32).enc (stF u 31 ((u 31) &&& (127:UInt8))))],[bl g3 22 ((cArr 32).enc (fun _=>0))],[bl g10 97 ((cNs 4).enc (wd x))],[bl g11 97 ((cNs 4).enc (wd a))],[bl g12 97 ((cNs 4).enc (wd b))],[bl g13 97 ((cNs 4).enc (wd c))],[bl g14 97 ((cNs 4).enc (wd d))],[bl g25 97 ((cNs 4).enc (wd p))],[bl g26 97 ((cNs 4).enc (wd q))],[bl g27 97 ((cNs 4).enc (wd aa))],[bl g28 97 ((cNs 4).enc (wd bb))],[bl g29 97 ((cNs 4).enc (wd ee))],[bl (G 10).g 97 ((cNs 4).enc (wd (tm q (nA c d))))],[bl (G 11).g 97 ((cNs 4).enc (wd (tm p (nS c d))))]]) hH (.c (.ld (fun G _ _ hH=>(hH.q 0 rfl)) fun G=>(.ld (cNs 4) (wd q) (fun _ hS=>(holds_blk0 hS)))) <| .c (.ld (fun G _ _ hH=>(hH.q 0 rfl)) fun G=>(.ld (cNs 4) (wd c) (fun _ hS=>(holds_blk0 hS)))) <| .c (.ld (fun G _ _ hH=>(hH.q 0 rfl)) fun G=>(.ld (cNs 4) (wd d) (fun _ hS=>(holds_blk0 hS)))) <| .c (Sp.c Tryz.func73 (fun G=>(rplus_p c d lc ld)) fun _=>trivial) <| .c (Sp.c Tryz.func75 (fun G=>(rtimes_p q (nA c d) lq (nA_lt lc ld))) fun _=>trivial) <| .c (.ld (fun G _ _ hH=>(hH.q 0 rfl)) fun G=>(.ld (cNs 4) (wd p) (fun _ hS=>(holds_blk0 hS)))) <| .c (.ld (fun G _ _ hH=>(hH.q 0 rfl)) fun G=>(.ld (cNs 4) (wd c) (fun _ hS=>(holds_blk0 hS)))) <| .c (.ld (fun G _ _ hH=>(hH.q 0 rfl)) fun G=>(.ld (cNs 4) (wd d) (fun _ hS=>(holds_blk0 hS)))) <| .c (Sp.c Tryz.func74 (fun G=>(rminus_p c d lc ld)) fun _=>trivial) <| .c (Sp.c Tryz.func75 (fun G=>(rtimes_p p (nS c d) lp (nS_lt lc))) fun _=>trivial) <| .c (.a (fun _ _ _ _=>trivial) (fun G=>(.al (cNs 4) (fun _=>0))) fun _ _ _ h=>h) <| .c (.a (fun _ _ _ _=>trivial) (fun G=>(.al (cNs 4) (fun _=>0))) fun _ _ _ h=>h) <| .c (.tn (fun G=>(.sw (cNs 4) (fun _=>0) (wd (tm q (nA c d))))) (fun _ _ _ _=>trivial) fun _ _ _ h=>h) <| .c (.tn (fun G=>(.sw (cNs 4) (fun _=>0) (wd (tm p (nS c d))))) (fun _ _ _ _=>trivial) fun _ _ _ h=>h) <| .nil) ?_
 clear hH
 rintro G w - hH
 revert hH
 generalize (G 10).g=g30
 generalize (G 11).g=g31
 intro hH
 refine rn ?_
 obtain ⟨da,hda,lda⟩:∃ da,da=tm q (nA c d)∧da<2^256:=⟨_,rfl,(tm_lt lq (nA_lt lc ld))⟩
 replace hH:HH w0 [] [[bl g1 22 ((cArr 32).enc n)],[bl g2 22 ((cArr 32).enc (stF u 31 ((u 31) &&& (127:UInt8))))],[bl g3 22 ((cArr 32).enc (fun _=>0))],[bl g10 97 ((cNs 4).enc (wd x))],[bl g11 97 ((cNs 4).enc (wd a))],[bl g12 97 ((cNs 4).enc (wd b))],[bl g13 97 ((cNs 4).enc (wd c))],[bl g14 97 ((cNs 4).enc (wd d))],[bl g25 97 ((cNs 4).enc (wd p))],[bl g26 97 ((cNs 4).enc (wd q))],[bl g27 97 ((cNs 4).enc (wd aa))],[bl g28 97 ((cNs 4).enc (wd bb))],[bl g29 97 ((cNs 4).enc (wd ee))],[bl g30 97 ((cNs 4).enc (wd da))],[bl g31 97 ((cNs 4).enc (wd (tm p (nS c d))))]] w:=by rw [hda]; exact hH
 obtain ⟨cb,hcb,lcb⟩:∃ cb,cb=tm p (nS c d)∧cb<2^256:=⟨_,rfl,(tm_lt lp (nS_lt lc))⟩
 replace hH:HH w0 [] [[bl g1 22 ((cArr 32).enc n)],[bl g2 22 ((cArr 32).enc (stF u 31 ((u 31) &&& (127:UInt8))))],[bl g3 22 ((cArr 32).enc (fun _=>0))],[bl g10 97 ((cNs 4).enc (wd x))],[bl g11 97 ((cNs 4).enc (wd a))],[bl g12 97 ((cNs 4).enc (wd b))],[bl g13 97 ((cNs 4).enc (wd c))],[bl g14 97 ((cNs 4).enc (wd d))],[bl g25 97 ((cNs 4).enc (wd p))],[bl g26 97 ((cNs 4).enc (wd q))],[bl g27 97 ((cNs 4).enc (wd aa))],[bl g28 97 ((cNs 4).enc (wd bb))],[bl g29 97 ((cNs 4).enc (wd ee))],[bl g30 97 ((cNs 4).enc (wd da))],[bl g31 97 ((cNs 4).enc (wd cb))]] w:=by rw [hcb]; exact hH
 refine zx ?_
 replace hH:=hH.drew
 refine rld 0 (hH.q 13 rfl) (.ld (cNs 4) (wd da) (fun _ hS=>(holds_blk0 hS))) 0 ?_
 refine rld 1 (hH.q 14 rfl) (.ld (cNs 4) (wd cb) (fun _ hS=>(holds_blk0 hS))) 0 ?_
 refine rld 3 (hH.q 13 rfl) (.ld (cNs 4) (wd da) (fun _ hS=>(holds_blk0 hS))) 0 ?_
 refine rld 4 (hH.q 14 rfl) (.ld (cNs 4) (wd cb) (fun _ hS=>(holds_blk0 hS))) 0 ?_
 refine rld 7 (hH.q 3 rfl) (.ld (cNs 4) (wd x) (fun _ hS=>(holds_blk0 hS))) 0 ?_
 refine rld 8 (hH.q 13 rfl) (.ld (cNs 4) (wd da) (fun _ hS=>(holds_blk0 hS))) 0 ?_
 refine rld 9 (hH.q 14 rfl) (.ld (cNs 4) (wd cb) (fun _ hS=>(holds_blk0 hS))) 0 ?_
 refine rld 11 (hH.q 13 rfl) (.ld (cNs 4) (wd da) (fun _ hS=>(holds_blk0 hS))) 128 ?_
 refine rld 12 (hH.q 14 rfl) (.ld (cNs 4) (wd cb) (fun _ hS=>(holds_blk0 hS))) 256 ?_
 refine rx1k 2 (rpc 2 Tryz.func73 (rplus_p da cb lda lcb) trivial hH 384 (.keep (.keep (.keep (.keep (.keep (.keep (.keep (pgo [] (pgo [] (.nil _ [])))))))))) ?_)
 clear hH
 intro w hH
 refine ⟨pcons (hH.blk 14 rfl) (pcons (hH.blk 13 rfl) (pcons (hH.blk 14 rfl) (pcons (hH.blk 13 rfl) (pcons (hH.blk 3 rfl) (pcons (hH.blk 14 rfl) (pcons (hH.blk 13 rfl) pnil)))))),?_⟩
 refine rx1k 5 (rpc 5 Tryz.func73 (rplus_p da cb lda lcb) trivial hH 192 (.keep (.keep (.keep (.keep (.keep (pgo [] (pgo [] (.nil _ [])))))))) ?_)
 clear hH
 intro w hH
 refine ⟨pcons (hH.blk 14 rfl) (pcons (hH.blk 13 rfl) (pcons (hH.blk 14 rfl) (pcons (hH.blk 13 rfl) (pcons (hH.blk 3 rfl) pnil)))),?_⟩
 refine rx1k 6 (rpc 6 Tryz.func75 (rtimes_p (nA da cb) (nA da cb) (nA_lt lda lcb) (nA_lt lda lcb)) trivial hH 3 (.keep (.keep (.keep (.keep (.keep (.nil _ [])))))) ?_)
 clear hH
 intro w hH
 refine ⟨pcons (hH.blk 14 rfl) (pcons (hH.blk 13 rfl) (pcons (hH.blk 14 rfl) (pcons (hH.blk 13 rfl) (pcons (hH.blk 3 rfl) pnil)))),?_⟩
 refine rx1k 10 (rpc 10 Tryz.func74 (rminus_p da cb lda lcb) trivial hH 24 (.keep (.keep (pgo [] (pgo [] (.keep (.nil _ [])))))) ?_)
 clear hH
 intro w hH
 refine ⟨pcons (hH.blk 14 rfl) (pcons (hH.blk 13 rfl) (pcons (hH.blk 3 rfl) pnil)),?_⟩
 refine rx1k 13 (rpc 13 Tryz.func74 (rminus_p da cb lda lcb) trivial hH 12 (pgo [] (pgo [] (.keep (.nil _ [])))) ?_)
 clear hH
 intro w hH
 refine ⟨pcons (hH.blk 3 rfl) pnil,?_⟩
 refine rx1k 14 (rpc 14 Tryz.func75 (rtimes_p (nS da cb) (nS da cb) (nS_lt lda) (nS_lt lda)) trivial hH 3 (.keep (.nil _ [])) ?_)
 clear hH
 intro w hH
 refine ⟨pcons (hH.blk 3 rfl) pnil,?_⟩
 refine rx1k 15 (rpc 15 Tryz.func75 (rtimes_p x (tm (nS da cb) (nS da cb)) lx (tm_lt (nS_lt lda) (nS_lt lda))) trivial hH 5 (pgo [] (.nil _ [])) ?_)
 clear hH
 intro w hH
 refine ⟨pnil,rx1k 16 ?_⟩
 refine re0 16 6 hH rfl (.sw (cNs 4) (wd c) (wd (tm (nA da cb) (nA da cb)))) trivial (.nil _ []) ?_
 clear hH
 rintro _ _ w rfl hH
 refine ⟨pnil,rx1k 17 ?_⟩
 refine re0 17 7 hH rfl (.sw (cNs 4) (wd d) (wd (tm x (tm (nS da cb) (nS da cb))))) trivial (.nil _ []) ?_
 clear hH
 rintro _ _ w rfl hH
 refine ⟨pnil,rn ?_⟩
 refine zx ?_
 replace hH:=hH.drew
 refine rld 0 (hH.q 10 rfl) (.ld (cNs 4) (wd aa) (fun _ hS=>(holds_blk0 hS))) 3 ?_
 refine rld 1 (hH.q 11 rfl) (.ld (cNs 4) (wd bb) (fun _ hS=>(holds_blk0 hS))) 8 ?_
 refine rld 3 (hH.q 12 rfl) (.ld (cNs 4) (wd ee) (fun _ hS=>(holds_blk0 hS))) 0 ?_
 refine rld 4 (hH.q 10 rfl) (.ld (cNs 4) (wd aa) (fun _ hS=>(holds_blk0 hS))) 16 ?_
 refine rld 6 (hH.q 12 rfl) (.ld (cNs 4) (wd ee) (fun _ hS=>(holds_blk0 hS))) 16 ?_
 refine rx1k 2 (rpc 2 Tryz.func75 (rtimes_p aa bb laa lbb) trivial hH 24 (.keep (.keep (.keep (pgo [] (pgo [] (.nil _ [])))))) ?_)
 clear hH
 intro w hH
 refine ⟨pcons (hH.blk 12 rfl) (pcons (hH.blk 10 rfl) (pcons (hH.blk 12 rfl) pnil)),?_⟩
 refine rx1k 5 (rpc 5 Tryz.func72 (rsmall_p 121665 (by decide)) trivial hH 0 (.keep (.keep (.keep (.nil _ [])))) ?_)
 clear hH
 intro w hH
 refine ⟨pcons (hH.blk 12 rfl) (pcons (hH.blk 10 rfl) (pcons (hH.blk 12 rfl) pnil)),?_⟩
 refine rx1k 7 (rpc 7 Tryz.func75 (rtimes_p 121665 ee (by decide) lee) trivial hH 5 (pgo [] (.keep (.keep (.nil _ [])))) ?_)
 clear hH
 intro w hH
 refine ⟨pcons (hH.blk 10 rfl) (pcons (hH.blk 12 rfl) pnil),?_⟩
 refine rx1k 8 (rpc 8 Tryz.func73 (rplus_p aa (tm 121665 ee) laa (tm_lt (by decide) lee)) trivial hH 5 (pgo [] (.keep (.nil _ []))) ?_)
 clear hH
 intro w hH
 refine ⟨pcons (hH.blk 12 rfl) pnil,?_⟩
 refine rx1k 9 (rpc 9 Tryz.func75 (rtimes_p ee (nA aa (tm 121665 ee)) lee (nA_lt laa (tm_lt (by decide) lee))) trivial hH 5 (pgo [] (.nil _ [])) ?_)
 clear hH
 intro w hH
 refine ⟨pnil,rx1k 10 ?_⟩
 refine re0 10 4 hH rfl (.sw (cNs 4) (wd a) (wd (tm aa bb))) trivial (.nil _ []) ?_
 clear hH
 rintro _ _ w rfl hH
 refine ⟨pnil,rx1k 11 ?_⟩
 refine re0 11 5 hH rfl (.sw (cNs 4) (wd b) (wd (tm ee (nA aa (tm 121665 ee))))) trivial (.nil _ []) ?_
 clear hH
 rintro _ _ w rfl hH
 refine ⟨pnil,rn ?_⟩
 refine zr (zv .mv 7 ?_)
 refine zv (v:=(.bool false)) (fun _ _ hF=>opEqI rfl (hF.ev 0 rfl) rfl (decide_eq_false (by omega))) 1 ?_
 refine zn (zF ?_)
 refine cxSkip (qxInN (qxThen (cxReg (zv .mv 3 ?_))))
 refine zv (.sub ((k:Int) - 1)) 1 ?_
 refine zv .mv 1 ?_
 refine pxEnd ?_
 replace hH:HH w0 [] [[bl g1 22 ((cArr 32).enc n)],[bl g2 22 ((cArr 32).enc (stF u 31 ((u 31) &&& (127:UInt8))))],[bl g3 22 ((cArr 32).enc (fun _=>0))],[bl g10 97 ((cNs 4).enc (wd x))],[bl g11 97 ((cNs 4).enc (wd (tm aa bb)))],[bl g12 97 ((cNs 4).enc (wd (tm ee (nA aa (tm 121665 ee)))))],[bl g13 97 ((cNs 4).enc (wd (tm (nA da cb) (nA da cb))))],[bl g14 97 ((cNs 4).enc (wd (tm x (tm (nS da cb) (nS da cb)))))]] w:=hH.only [true,true,true,true,true,true,true,true,false,false,false,false,false,false,false]
 exact zR5 k (tm aa bb) (tm ee (nA aa (tm 121665 ee))) (tm (nA da cb) (nA da cb)) (tm x (tm (nS da cb) (nS da cb))) ⟨hH,(by omega),(tm_lt laa lbb),(tm_lt lee (nA_lt laa (tm_lt (by decide) lee))),(tm_lt (nA_lt lda lcb) (nA_lt lda lcb)),(tm_lt lx (tm_lt (nS_lt lda) (nS_lt lda))),(by rw [dLad_next n x (by omega),← hS]; unfold dStep; rw [if_neg (show ¬ (bitB n k).toNat=1 from hc17)]; subst hda hcb hee haa hbb hp hq; rfl)⟩ (by omega)
 refine cxExit (qxThenE (qxThenE (qxInE (qxThen ?_))))
 obtain rfl:j=0:=by omega
 refine zx ?_
 replace hH:=hH.drew
 refine rld 0 (hH.q 4 rfl) (.ld (cNs 4) (wd a) (fun _ hS=>(holds_blk0 hS))) 367 ?_
 refine rld 1 (hH.q 5 rfl) (.ld (cNs 4) (wd b) (fun _ hS=>(holds_blk0 hS))) 2 ?_
 refine rx1k 2 (rpc 2 Tryz.func77 (rinverse_p b lb) trivial hH 1 (pgo [] (.keep (.nil _ []))) ?_)
 clear hH
 intro w hH
 refine ⟨pcons (hH.blk 4 rfl) pnil,?_⟩
 refine rx1k 3 (rpc 3 Tryz.func75 (rtimes_p a (riv b) la (riv_lt lb)) trivial hH 3 (pgo [] (.nil _ [])) ?_)
 clear hH
 intro w hH
 refine ⟨pnil,?_⟩
 refine rx1k 4 (rpc 4 Tryz.func76 (rbytes_p (tm a (riv b)) (tm_lt la (riv_lt lb))) trivial hH 1 (.nil _ []) ?_)
 clear hH
 intro w hH
 refine ⟨pnil,rx1k 5 ?_⟩
 refine re0 5 2 hH rfl (.sw (cArr 32) (fun _=>0) (byteN (tm a (riv b)%pN))) trivial (.nil _ []) ?_
 clear hH
 rintro _ _ w rfl hH
 refine ⟨pnil,rn ?_⟩
 refine cxRet (qxRetC 1 (hH.blk 2 rfl) rfl rfl (by kernel_rfl) (Cod.size _ _) (by kernel_rfl) ?_)
 have hr:byteN (tm a (riv b)%pN)=dMul s u:=by
  unfold dMul
  rw [← hn,← hx,show dLad n x 255=((a,b),(c,d)) from hS.symm]
 exact ⟨by rw [← hr]; rfl,HH.toBelow hH⟩
end Go.Proofs.YtajppfmjbkebfaaGreatDoor

namespace Go.Proofs.YtajppfmjbkebfaaGreatDoor
open Go Go.RowKit
abbrev cP2:Cod (Bt×Bt):=cPair (cArr 32) (cArr 32)
def facE:Bt:=fun i=>[65,219,1].getD i 0
def xPl (a b:Bt×Bt) (u:Bt):Bt×Bt :=
 (fM (fA (fM (fA a.1 a.2) (fS b.1 b.2)) (fM (fS a.1 a.2) (fA b.1 b.2))) (fA (fM (fA a.1 a.2) (fS b.1 b.2)) (fM (fS a.1 a.2) (fA b.1 b.2))),
  fM u (fM (fS (fM (fA a.1 a.2) (fS b.1 b.2)) (fM (fS a.1 a.2) (fA b.1 b.2))) (fS (fM (fA a.1 a.2) (fS b.1 b.2)) (fM (fS a.1 a.2) (fA b.1 b.2)))))
def xDb (a:Bt×Bt):Bt×Bt :=
 (fM (fM (fA a.1 a.2) (fA a.1 a.2)) (fM (fS a.1 a.2) (fS a.1 a.2)),
  fM (fS (fM (fA a.1 a.2) (fA a.1 a.2)) (fM (fS a.1 a.2) (fS a.1 a.2))) (fA (fM (fA a.1 a.2) (fA a.1 a.2)) (fM facE (fS (fM (fA a.1 a.2) (fA a.1 a.2)) (fM (fS a.1 a.2) (fS a.1 a.2))))))
def mx8 (m:UInt8) (i:Nat) (a b:Bt):Bt:=fun j=>if j<i then a j ^^^ (m &&& (a j ^^^ b j)) else a j
theorem mx8_0 (m:UInt8) (a b:Bt):mx8 m 0 a b=a:=by funext j; simp [mx8]
theorem mx8_at (m:UInt8) (i:Nat) (a b:Bt):mx8 m i a b i=a i:=by simp [mx8]
theorem mx8_succ (m:UInt8) (i:Nat) (a b:Bt):stF (mx8 m i a b) i (a i ^^^ (m &&& (a i ^^^ b i)))=mx8 m (i+1) a b:=by
 funext j
 unfold stF mx8
 by_cases h:j=i
 ·subst h; simp
 ·by_cases h2:j<i
  ·simp [h,h2,Nat.lt_succ_of_lt h2]
  ·have h3:¬ j<i+1:=by omega
   simp [h,h2,h3]
theorem mx8_succ' (m:UInt8) (i:Nat) (a b:Bt):stF (mx8 m i a b) i (a i ^^^ (m &&& (b i ^^^ a i)))=mx8 m (i+1) a b:=by
 rw [UInt8.xor_comm (b i),mx8_succ]
def sxP (t:UInt8) (p q:Bt×Bt):Bt×Bt:=(mx8 (-t) 32 p.1 q.1,mx8 (-t) 32 p.2 q.2)
def xLad (n u:Bt):Nat→UInt8×(Bt×Bt)×(Bt×Bt)
 | 0=>(0,(oneB,fun _=>0),(u,oneB))
 | k+1 =>
  (bitB n (254 - k),xDb (sxP ((xLad n u k).1 ^^^ bitB n (254 - k)) (xLad n u k).2.1 (xLad n u k).2.2),
   xPl (sxP ((xLad n u k).1 ^^^ bitB n (254 - k)) (xLad n u k).2.1 (xLad n u k).2.2) (sxP ((xLad n u k).1 ^^^ bitB n (254 - k)) (xLad n u k).2.2 (xLad n u k).2.1) u)
def xPr (n u:Bt):Bt:=fM (xLad n u 255).2.1.1 (fI (xLad n u 255).2.1.2)
def xNm (s:Bt):Bt:=stF (stF s 0 (s 0 &&& ~~~7)) 31 ((stF s 0 (s 0 &&& ~~~7) 31 &&& ~~~128) ||| 64)
def xPt (u:Bt):Bt:=stF u 31 (u 31 &&& ~~~128)
def xMulB (s u:Bt):Bt:=xPr (xNm s) (xPt u)
def nineE:Bt:=fun i=>if i=0 then 9 else 0
def xPub (s:Bt):Bt:=xMulB s nineE
end Go.Proofs.YtajppfmjbkebfaaGreatDoor

namespace Go.Proofs.YtajppfmjbkebfaaGreatDoor
open Go Go.RowKit
theorem nF_congr {a b:Nat→UInt8} (h:∀ i,i<32→a i=b i):nF a=nF b:=congrArg toF (lv_congr h)
theorem nF_fA (a b:Nat→UInt8):nF (fA a b)=nF a+nF b:=nF_bF _
theorem nF_fS (a b:Nat→UInt8):nF (fS a b)=nF a - nF b:=nF_bF _
theorem nF_fM (a b:Nat→UInt8):nF (fM a b)=nF a*nF b:=nF_bF _
theorem nF_fI (a:Nat→UInt8):nF (fI a)=ivF (nF a):=nF_bF _
theorem nF_one:nF oneB=1:=by decide +kernel
theorem nF_zero:nF (fun _=>0)=0:=by decide +kernel
theorem nF_fac:nF facE=toF 121665:=by decide +kernel
theorem to_one:toF 1=1:=by decide +kernel
theorem to_zero:toF 0=0:=by decide +kernel
theorem toF_nA (a b:Nat):toF (nA a b)=toF a+toF b:=by unfold nA; rw [toF_fv,toF_add]
theorem toF_nS (a b:Nat):toF (nS a b)=toF a - toF b:=toF_minus a b
def fP (a:(Nat→UInt8)×(Nat→UInt8)):Fin pF×Fin pF:=(nF a.1,nF a.2)
def tP (a:Nat×Nat):Fin pF×Fin pF:=(toF a.1,toF a.2)
theorem bit_or (x:UInt8):(x &&& 1).toNat=0 ∨ (x &&& 1).toNat=1:=by
 rw [UInt8.toNat_and,show (1:UInt8).toNat=1 from rfl,Nat.and_one_is_mod]; omega
theorem eq01 {x:UInt8} (h:x.toNat=0 ∨ x.toNat=1):x=0 ∨ x=1:=h.imp (fun h=>UInt8.toNat_inj.1 h) fun h=>UInt8.toNat_inj.1 h
theorem mask0 (p q:UInt8):p ^^^ ((-0:UInt8) &&& (p ^^^ q))=p:=by simp
theorem mask1 (p q:UInt8):p ^^^ ((-1:UInt8) &&& (p ^^^ q))=q:=by
 rw [show (-1:UInt8)=255 from rfl]
 apply UInt8.toBitVec_inj.1
 simp only [UInt8.toBitVec_xor,UInt8.toBitVec_and]
 generalize p.toBitVec=a
 generalize q.toBitVec=b
 rw [show (255:UInt8).toBitVec=BitVec.allOnes 8 from rfl,BitVec.allOnes_and,← BitVec.xor_assoc,BitVec.xor_self,BitVec.zero_xor]
theorem fP_sx0 (p q:(Nat→UInt8)×(Nat→UInt8)):fP (sxP 0 p q)=fP p:=by
 refine Prod.ext (nF_congr fun i hi => ?_) (nF_congr fun i hi => ?_)
 ·show mx8 (-0) 32 p.1 q.1 i=p.1 i
  unfold mx8; rw [if_pos hi,mask0]
 ·show mx8 (-0) 32 p.2 q.2 i=p.2 i
  unfold mx8; rw [if_pos hi,mask0]
theorem fP_sx1 (p q:(Nat→UInt8)×(Nat→UInt8)):fP (sxP 1 p q)=fP q:=by
 refine Prod.ext (nF_congr fun i hi => ?_) (nF_congr fun i hi => ?_)
 ·show mx8 (-1) 32 p.1 q.1 i=q.1 i
  unfold mx8; rw [if_pos hi,mask1]
 ·show mx8 (-1) 32 p.2 q.2 i=q.2 i
  unfold mx8; rw [if_pos hi,mask1]
theorem fP_db {p:(Nat→UInt8)×(Nat→UInt8)} {a:Nat×Nat} (h:fP p=tP a):fP (xDb p)=tP (dD a.1 a.2):=by
 have h1:nF p.1=toF a.1:=congrArg Prod.fst h
 have h2:nF p.2=toF a.2:=congrArg Prod.snd h
 unfold fP tP xDb dD
 simp only [nF_fM,nF_fA,nF_fS,nF_fac,toF_tm,toF_nA,toF_nS,h1,h2]
theorem fP_pl {p q:(Nat→UInt8)×(Nat→UInt8)} {a b:Nat×Nat} {u:Nat→UInt8} {x:Nat} (h:fP p=tP a) (k:fP q=tP b) (hu:nF u=toF x):fP (xPl p q u)=tP (dA x a.1 a.2 b.1 b.2):=by
 have h1:nF p.1=toF a.1:=congrArg Prod.fst h
 have h2:nF p.2=toF a.2:=congrArg Prod.snd h
 have k1:nF q.1=toF b.1:=congrArg Prod.fst k
 have k2:nF q.2=toF b.2:=congrArg Prod.snd k
 unfold fP tP xPl dA
 simp only [nF_fM,nF_fA,nF_fS,toF_tm,toF_nA,toF_nS,h1,h2,k1,k2,hu]
 generalize toF a.1=a1
 generalize toF a.2=a2
 generalize toF b.1=b1
 generalize toF b.2=b2
 generalize toF x=x
 refine Prod.ext ?_ ?_
 ·show ((a1+a2)*(b1 - b2)+(a1 - a2)*(b1+b2))*((a1+a2)*(b1 - b2)+(a1 - a2)*(b1+b2))=((a1 - a2)*(b1+b2)+(a1+a2)*(b1 - b2))*((a1 - a2)*(b1+b2)+(a1+a2)*(b1 - b2))
  grind
 ·show x*(((a1+a2)*(b1 - b2) - (a1 - a2)*(b1+b2))*((a1+a2)*(b1 - b2) - (a1 - a2)*(b1+b2)))=x*(((a1 - a2)*(b1+b2) - (a1+a2)*(b1 - b2))*((a1 - a2)*(b1+b2) - (a1+a2)*(b1 - b2)))
  grind
theorem lads (n u:Nat→UInt8) (x:Nat) (hu:nF u=toF x):∀ k,((xLad n u k).1=0∧fP (xLad n u k).2.1=tP (dLad n x k).1∧fP (xLad n u k).2.2=tP (dLad n x k).2) ∨ ((xLad n u k).1=1∧fP (xLad n u k).2.1=tP (dLad n x k).2∧fP (xLad n u k).2.2=tP (dLad n x k).1)
 | 0=>.inl ⟨rfl,Prod.ext (nF_one.trans to_one.symm) (nF_zero.trans to_zero.symm),Prod.ext hu (nF_one.trans to_one.symm)⟩
 | k+1=>by
  have ih:=lads n u x hu k
  have hb:=eq01 (x:=bitB n (254 - k)) (bit_or _)
  show (bitB n (254 - k)=0∧fP (xDb _)=tP (dStep x (bitB n (254 - k)) (dLad n x k)).1∧fP (xPl _ _ u)=tP (dStep x (bitB n (254 - k)) (dLad n x k)).2) ∨ (bitB n (254 - k)=1∧fP (xDb _)=tP (dStep x (bitB n (254 - k)) (dLad n x k)).2∧fP (xPl _ _ u)=tP (dStep x (bitB n (254 - k)) (dLad n x k)).1)
  generalize xLad n u k=X at *
  generalize dLad n x k=S at *
  generalize bitB n (254 - k)=t at *
  obtain ⟨sb,p,q⟩:=X
  rcases hb with rfl | rfl
  ·refine .inl ⟨rfl,?_⟩
   show fP (xDb (sxP (sb ^^^ 0) p q))=tP (dD S.1.1 S.1.2)∧fP (xPl (sxP (sb ^^^ 0) p q) (sxP (sb ^^^ 0) q p) u)=tP (dA x S.1.1 S.1.2 S.2.1 S.2.2)
   rcases ih with ⟨h0,h1,h2⟩ | ⟨h0,h1,h2⟩ <;> subst h0
   ·have e1:fP (sxP (0 ^^^ 0) p q)=tP S.1:=(fP_sx0 p q).trans h1
    have e2:fP (sxP (0 ^^^ 0) q p)=tP S.2:=(fP_sx0 q p).trans h2
    exact ⟨fP_db e1,fP_pl e1 e2 hu⟩
   ·have e1:fP (sxP (1 ^^^ 0) p q)=tP S.1:=(fP_sx1 p q).trans h2
    have e2:fP (sxP (1 ^^^ 0) q p)=tP S.2:=(fP_sx1 q p).trans h1
    exact ⟨fP_db e1,fP_pl e1 e2 hu⟩
  ·refine .inr ⟨rfl,?_⟩
   show fP (xDb (sxP (sb ^^^ 1) p q))=tP (dD S.2.1 S.2.2)∧fP (xPl (sxP (sb ^^^ 1) p q) (sxP (sb ^^^ 1) q p) u)=tP (dA x S.2.1 S.2.2 S.1.1 S.1.2)
   rcases ih with ⟨h0,h1,h2⟩ | ⟨h0,h1,h2⟩ <;> subst h0
   ·have e1:fP (sxP (0 ^^^ 1) p q)=tP S.2:=(fP_sx1 p q).trans h2
    have e2:fP (sxP (0 ^^^ 1) q p)=tP S.1:=(fP_sx1 q p).trans h1
    exact ⟨fP_db e1,fP_pl e1 e2 hu⟩
   ·have e1:fP (sxP (1 ^^^ 1) p q)=tP S.2:=(fP_sx0 p q).trans h1
    have e2:fP (sxP (1 ^^^ 1) q p)=tP S.1:=(fP_sx0 q p).trans h2
    exact ⟨fP_db e1,fP_pl e1 e2 hu⟩
theorem xNm_is (s:Nat→UInt8):xNm s=dNm s:=rfl
theorem xPt_is (u:Nat→UInt8):xPt u=dPt u:=rfl
theorem low_bit (x:UInt8):sr8 (x &&& 248) 0 &&& 1=0:=by
 have h:∀ n:Fin 256,sr8 (UInt8.ofNat n.val &&& 248) 0 &&& 1=0:=by decide +kernel
 have:=h ⟨x.toNat,x.toNat_lt⟩
 simpa using this
theorem xMulB_is (s u:Nat→UInt8):xMulB s u=dMul s u:=by
 have hl:=lads (dNm s) (dPt u) (lv (dPt u) 32) rfl 255
 have hb:(xLad (dNm s) (dPt u) 255).1=0:=by
  show sr8 (dNm s 0) 0 &&& 1=0
  exact low_bit (s 0)
 rcases hl with ⟨_,h1,_⟩ | ⟨h0,_⟩
 ·unfold xMulB dMul
  rw [xNm_is,xPt_is]
  unfold xPr
  generalize xLad (dNm s) (dPt u) 255=X at *
  generalize dLad (dNm s) (lv (dPt u) 32) 255=S at *
  have k1:nF X.2.1.1=toF S.1.1:=congrArg Prod.fst h1
  have k2:nF X.2.1.2=toF S.1.2:=congrArg Prod.snd h1
  show bF (nF X.2.1.1*nF (fI X.2.1.2))=bF (toF (tm S.1.1 (riv S.1.2)))
  rw [nF_fI,toF_tm,toF_riv,k1,k2]
 ·rw [hb] at h0
  exact absurd h0 (by decide)
end Go.Proofs.YtajppfmjbkebfaaGreatDoor

namespace Go.Proofs.YtajppfmjbkebfaaGreatDoor
open Go Go.RowKit
set_option maxRecDepth 100000
theorem xsq_c (a:Bt):Pure Tryz.prog 132 #[((cArr 32).val a)] (fun _=>True) ((cArr 32).val (fM a a)):=by
 refine pure_of (fn:=Tryz.f132) Tryz.func132 rfl Tryz.ntmps132 (Nat.le_of_ble_eq_true rfl) rfl ?_
 intro w0 hH hR
 refine zr (zm hH (.bx (cArr 32) a) trivial 1 ?_)
 clear hH
 rintro _ _ w ⟨g1,rfl,rfl⟩ hH
 refine zm hH (.al (cArr 32) (fun _=>0)) trivial 0 ?_
 clear hH
 rintro _ _ w ⟨g2,rfl,rfl⟩ hH
 refine zn (zr (zs (hH.q 0 rfl) (.ld (cArr 32) a (fun _ hS=>(holds_blk0 hS))) 0 ?_))
 refine zs (hH.q 0 rfl) (.ld (cArr 32) a (fun _ hS=>(holds_blk0 hS))) 4 ?_
 refine zc Tryz.func96 (fM_c a a) trivial hH 3 ?_
 clear hH
 intro w hH
 refine ze0 1 hH rfl (.sw (cArr 32) (fun _=>0) (fM a a)) trivial ?_
 clear hH
 rintro _ _ w rfl hH
 refine zn (cxRet (qxRetC 1 (hH.blk 1 rfl) rfl rfl (by kernel_rfl) (Cod.size _ _) (by kernel_rfl) ?_))
 exact ⟨rfl,HH.toBelow hH⟩
theorem xfac_c  : Pure Tryz.prog 135 #[] (fun _=>True) ((cArr 32).val facE):=by
 refine pure_of (fn:=Tryz.f135) Tryz.func135 rfl Tryz.ntmps135 (Nat.le_of_ble_eq_true rfl) rfl ?_
 intro w0 hH hR
 refine zr (zm hH (.al (cArr 32) (fun _=>0)) trivial 0 ?_)
 clear hH
 rintro _ _ w ⟨g1,rfl,rfl⟩ hH
 refine zn (zr (zv (v:=((cArr 32).val facE)) (fun _ _ hF=>opBuildP (cells:=(cArr 32).enc facE) (vals:=[(0,(.int .u8 65)),(1,(.int .u8 219)),(2,(.int .u8 1))]) rfl (EvP.cons (v:=(.int .u8 65)) rfl (EvP.cons (v:=(.int .u8 219)) rfl (EvP.cons (v:=(.int .u8 1)) rfl EvP.nil))) (by kernel_rfl) _) 0 ?_))
 refine ze0 0 hH rfl (.sw (cArr 32) (fun _=>0) facE) trivial ?_
 clear hH
 rintro _ _ w rfl hH
 refine zn (cxRet (qxRetC 1 (hH.blk 0 rfl) rfl rfl (by kernel_rfl) (Cod.size _ _) (by kernel_rfl) ?_))
 exact ⟨rfl,HH.toBelow hH⟩
theorem xPl_c (a b:Bt×Bt) (u:Bt):Pure Tryz.prog 95 #[(cP2.val a),(cP2.val b),((cArr 32).val u)] (fun _=>True) (cP2.val (xPl a b u)):=by
 refine pure_of (fn:=Tryz.f95) Tryz.func95 rfl Tryz.ntmps95 (Nat.le_of_ble_eq_true rfl) rfl ?_
 intro w0 hH hR
 refine zr (zm hH (.bx cP2 a) trivial 1 ?_)
 clear hH
 rintro _ _ w ⟨g1,rfl,rfl⟩ hH
 refine zm hH (.bx cP2 b) trivial 2 ?_
 clear hH
 rintro _ _ w ⟨g2,rfl,rfl⟩ hH
 refine zm hH (.bx (cArr 32) u) trivial 4 ?_
 clear hH
 rintro _ _ w ⟨g3,rfl,rfl⟩ hH
 refine zm hH (.al cP2 (fun _=>0,fun _=>0)) trivial 0 ?_
 clear hH
 rintro _ _ w ⟨g4,rfl,rfl⟩ hH
 refine zn (zx ?_)
 replace hH:=hH.drew
 refine rxPg 0 [pv 0 9 [] [] fun G=>(.pointer (some ⟨g1,0,none⟩)),ldv 1 10 [0] [] [1000] fun G=>((cArr 32).val a.1),pv 2 11 [] [] fun G=>(.pointer (some ⟨g1,32,none⟩)),ldv 3 12 [2] [] [1000] fun G=>((cArr 32).val a.2),pv 4 13 [1,3] [] fun G=>((cArr 32).val (fA a.1 a.2)),pv 5 14 [] [] fun G=>(.pointer (some ⟨g2,0,none⟩)),ldv 6 15 [5] [] [1001] fun G=>((cArr 32).val b.1),pv 7 16 [] [] fun G=>(.pointer (some ⟨g2,32,none⟩)),ldv 8 17 [7] [] [1001] fun G=>((cArr 32).val b.2),pv 9 18 [6,8] [] fun G=>((cArr 32).val (fS b.1 b.2)),pv 10 19 [4,9] [] fun G=>((cArr 32).val (fM (fA a.1 a.2) (fS b.1 b.2))),alv 11 7 [] [] fun G g=>[bl g 22 ((cArr 32).enc (fun _=>0))],stv 12 [10,11] [11] 11 fun G=>[bl (G 11).g 22 ((cArr 32).enc (fM (fA a.1 a.2) (fS b.1 b.2)))]] (fun G=>[(7,(.pointer (some ⟨(G 11).g,0,none⟩))),(6,(.pointer (some ⟨g4,0,none⟩))),(5,(.pointer (some ⟨g3,0,none⟩))),(4,(.pointer (some ⟨g2,0,none⟩))),(3,(.pointer (some ⟨g1,0,none⟩)))]) (fun G=>[[bl g1 128 (cP2.enc a)],[bl g2 128 (cP2.enc b)],[bl g3 22 ((cArr 32).enc u)],[bl g4 128 (cP2.enc (fun _=>0,fun _=>0))],[bl (G 11).g 22 ((cArr 32).enc (fM (fA a.1 a.2) (fS b.1 b.2)))]]) hH (.c (.v fun G=>(.fld 0)) <| .c (.ld (fun G _ _ hH=>(hH.q 0 rfl)) fun G=>(.ld (cArr 32) a.1 (fun _ hS=>(holds_blk0 hS).fst))) <| .c (.v fun G=>(.fld 32)) <| .c (.ld (fun G _ _ hH=>(hH.q 0 rfl)) fun G=>(.ld (cArr 32) a.2 (fun _ hS=>(holds_blk0 hS).snd))) <| .c (Sp.c Tryz.func133 (fun G=>(fA_c a.1 a.2)) fun _=>trivial) <| .c (.v fun G=>(.fld 0)) <| .c (.ld (fun G _ _ hH=>(hH.q 0 rfl)) fun G=>(.ld (cArr 32) b.1 (fun _ hS=>(holds_blk0 hS).fst))) <| .c (.v fun G=>(.fld 32)) <| .c (.ld (fun G _ _ hH=>(hH.q 0 rfl)) fun G=>(.ld (cArr 32) b.2 (fun _ hS=>(holds_blk0 hS).snd))) <| .c (Sp.c Tryz.func134 (fun G=>(fS_c b.1 b.2)) fun _=>trivial) <| .c (Sp.c Tryz.func96 (fun G=>(fM_c (fA a.1 a.2) (fS b.1 b.2))) fun _=>trivial) <| .c (.a (fun _ _ _ _=>trivial) (fun G=>(.al (cArr 32) (fun _=>0))) fun _ _ _ h=>h) <| .c (.tn (fun G=>(.sw (cArr 32) (fun _=>0) (fM (fA a.1 a.2) (fS b.1 b.2)))) (fun _ _ _ _=>trivial) fun _ _ _ h=>h) <| .nil) ?_
 clear hH
 rintro G w - hH
 revert hH
 generalize (G 11).g=g5
 intro hH
 refine rn ?_
 refine zx ?_
 replace hH:=hH.drew
 refine rxPg 0 [pv 0 20 [] [] fun G=>(.pointer (some ⟨g1,0,none⟩)),ldv 1 21 [0] [] [1000] fun G=>((cArr 32).val a.1),pv 2 22 [] [] fun G=>(.pointer (some ⟨g1,32,none⟩)),ldv 3 23 [2] [] [1000] fun G=>((cArr 32).val a.2),pv 4 24 [1,3] [] fun G=>((cArr 32).val (fS a.1 a.2)),pv 5 25 [] [] fun G=>(.pointer (some ⟨g2,0,none⟩)),ldv 6 26 [5] [] [1001] fun G=>((cArr 32).val b.1),pv 7 27 [] [] fun G=>(.pointer (some ⟨g2,32,none⟩)),ldv 8 28 [7] [] [1001] fun G=>((cArr 32).val b.2),pv 9 29 [6,8] [] fun G=>((cArr 32).val (fA b.1 b.2)),pv 10 30 [4,9] [] fun G=>((cArr 32).val (fM (fS a.1 a.2) (fA b.1 b.2))),alv 11 8 [] [] fun G g=>[bl g 22 ((cArr 32).enc (fun _=>0))],stv 12 [10,11] [11] 11 fun G=>[bl (G 11).g 22 ((cArr 32).enc (fM (fS a.1 a.2) (fA b.1 b.2)))]] (fun G=>[(8,(.pointer (some ⟨(G 11).g,0,none⟩))),(7,(.pointer (some ⟨g5,0,none⟩))),(6,(.pointer (some ⟨g4,0,none⟩))),(5,(.pointer (some ⟨g3,0,none⟩)))]) (fun G=>[[bl g1 128 (cP2.enc a)],[bl g2 128 (cP2.enc b)],[bl g3 22 ((cArr 32).enc u)],[bl g4 128 (cP2.enc (fun _=>0,fun _=>0))],[bl g5 22 ((cArr 32).enc (fM (fA a.1 a.2) (fS b.1 b.2)))],[bl (G 11).g 22 ((cArr 32).enc (fM (fS a.1 a.2) (fA b.1 b.2)))]]) hH (.c (.v fun G=>(.fld 0)) <| .c (.ld (fun G _ _ hH=>(hH.q 0 rfl)) fun G=>(.ld (cArr 32) a.1 (fun _ hS=>(holds_blk0 hS).fst))) <| .c (.v fun G=>(.fld 32)) <| .c (.ld (fun G _ _ hH=>(hH.q 0 rfl)) fun G=>(.ld (cArr 32) a.2 (fun _ hS=>(holds_blk0 hS).snd))) <| .c (Sp.c Tryz.func134 (fun G=>(fS_c a.1 a.2)) fun _=>trivial) <| .c (.v fun G=>(.fld 0)) <| .c (.ld (fun G _ _ hH=>(hH.q 0 rfl)) fun G=>(.ld (cArr 32) b.1 (fun _ hS=>(holds_blk0 hS).fst))) <| .c (.v fun G=>(.fld 32)) <| .c (.ld (fun G _ _ hH=>(hH.q 0 rfl)) fun G=>(.ld (cArr 32) b.2 (fun _ hS=>(holds_blk0 hS).snd))) <| .c (Sp.c Tryz.func133 (fun G=>(fA_c b.1 b.2)) fun _=>trivial) <| .c (Sp.c Tryz.func96 (fun G=>(fM_c (fS a.1 a.2) (fA b.1 b.2))) fun _=>trivial) <| .c (.a (fun _ _ _ _=>trivial) (fun G=>(.al (cArr 32) (fun _=>0))) fun _ _ _ h=>h) <| .c (.tn (fun G=>(.sw (cArr 32) (fun _=>0) (fM (fS a.1 a.2) (fA b.1 b.2)))) (fun _ _ _ _=>trivial) fun _ _ _ h=>h) <| .nil) ?_
 clear hH
 rintro G w - hH
 revert hH
 generalize (G 11).g=g6
 intro hH
 refine rn ?_
 refine zx ?_
 replace hH:=hH.drew
 refine rld 0 (hH.q 4 rfl) (.ld (cArr 32) (fM (fA a.1 a.2) (fS b.1 b.2)) (fun _ hS=>(holds_blk0 hS))) 0 ?_
 refine rld 1 (hH.q 5 rfl) (.ld (cArr 32) (fM (fS a.1 a.2) (fA b.1 b.2)) (fun _ hS=>(holds_blk0 hS))) 0 ?_
 refine rld 4 (hH.q 2 rfl) (.ld (cArr 32) u (fun _ hS=>(holds_blk0 hS))) 32 ?_
 refine rld 5 (hH.q 4 rfl) (.ld (cArr 32) (fM (fA a.1 a.2) (fS b.1 b.2)) (fun _ hS=>(holds_blk0 hS))) 16 ?_
 refine rld 6 (hH.q 5 rfl) (.ld (cArr 32) (fM (fS a.1 a.2) (fA b.1 b.2)) (fun _ hS=>(holds_blk0 hS))) 16 ?_
 refine rx1k 2 (rpc 2 Tryz.func133 (fA_c (fM (fA a.1 a.2) (fS b.1 b.2)) (fM (fS a.1 a.2) (fA b.1 b.2))) trivial hH 24 (.keep (.keep (.keep (pgo [] (pgo [] (.nil _ [])))))) ?_)
 clear hH
 intro w hH
 refine ⟨pcons (hH.blk 5 rfl) (pcons (hH.blk 4 rfl) (pcons (hH.blk 2 rfl) pnil)),?_⟩
 refine rx1k 3 (rpc 3 Tryz.func132 (xsq_c (fA (fM (fA a.1 a.2) (fS b.1 b.2)) (fM (fS a.1 a.2) (fA b.1 b.2)))) trivial hH 1 (.keep (.keep (.keep (.nil _ [])))) ?_)
 clear hH
 intro w hH
 refine ⟨pcons (hH.blk 5 rfl) (pcons (hH.blk 4 rfl) (pcons (hH.blk 2 rfl) pnil)),?_⟩
 refine rx1k 7 (rpc 7 Tryz.func134 (fS_c (fM (fA a.1 a.2) (fS b.1 b.2)) (fM (fS a.1 a.2) (fA b.1 b.2))) trivial hH 6 (pgo [] (pgo [] (.keep (.nil _ [])))) ?_)
 clear hH
 intro w hH
 refine ⟨pcons (hH.blk 2 rfl) pnil,?_⟩
 refine rx1k 8 (rpc 8 Tryz.func132 (xsq_c (fS (fM (fA a.1 a.2) (fS b.1 b.2)) (fM (fS a.1 a.2) (fA b.1 b.2)))) trivial hH 1 (.keep (.nil _ [])) ?_)
 clear hH
 intro w hH
 refine ⟨pcons (hH.blk 2 rfl) pnil,?_⟩
 refine rx1k 9 (rpc 9 Tryz.func96 (fM_c u (fM (fS (fM (fA a.1 a.2) (fS b.1 b.2)) (fM (fS a.1 a.2) (fA b.1 b.2))) (fS (fM (fA a.1 a.2) (fS b.1 b.2)) (fM (fS a.1 a.2) (fA b.1 b.2))))) trivial hH 5 (pgo [] (.nil _ [])) ?_)
 clear hH
 intro w hH
 refine ⟨pnil,rv 10 (v:=(cP2.val ((fM (fA (fM (fA a.1 a.2) (fS b.1 b.2)) (fM (fS a.1 a.2) (fA b.1 b.2))) (fA (fM (fA a.1 a.2) (fS b.1 b.2)) (fM (fS a.1 a.2) (fA b.1 b.2)))),(fM u (fM (fS (fM (fA a.1 a.2) (fS b.1 b.2)) (fM (fS a.1 a.2) (fA b.1 b.2))) (fS (fM (fA a.1 a.2) (fS b.1 b.2)) (fM (fS a.1 a.2) (fA b.1 b.2)))))))) (fun _ _ hF=>opBuildP (cells:=cP2.enc ((fM (fA (fM (fA a.1 a.2) (fS b.1 b.2)) (fM (fS a.1 a.2) (fA b.1 b.2))) (fA (fM (fA a.1 a.2) (fS b.1 b.2)) (fM (fS a.1 a.2) (fA b.1 b.2)))),(fM u (fM (fS (fM (fA a.1 a.2) (fS b.1 b.2)) (fM (fS a.1 a.2) (fA b.1 b.2))) (fS (fM (fA a.1 a.2) (fS b.1 b.2)) (fM (fS a.1 a.2) (fA b.1 b.2))))))) rfl (EvP.cons (v:=((cArr 32).val (fM (fA (fM (fA a.1 a.2) (fS b.1 b.2)) (fM (fS a.1 a.2) (fA b.1 b.2))) (fA (fM (fA a.1 a.2) (fS b.1 b.2)) (fM (fS a.1 a.2) (fA b.1 b.2)))))) (hF.ev 1 rfl) (EvP.cons (v:=((cArr 32).val (fM u (fM (fS (fM (fA a.1 a.2) (fS b.1 b.2)) (fM (fS a.1 a.2) (fA b.1 b.2))) (fS (fM (fA a.1 a.2) (fS b.1 b.2)) (fM (fS a.1 a.2) (fA b.1 b.2))))))) (hF.ev 0 rfl) EvP.nil)) (built_pair (x:=(((fM (fA (fM (fA a.1 a.2) (fS b.1 b.2)) (fM (fS a.1 a.2) (fA b.1 b.2))) (fA (fM (fA a.1 a.2) (fS b.1 b.2)) (fM (fS a.1 a.2) (fA b.1 b.2)))),(fM u (fM (fS (fM (fA a.1 a.2) (fS b.1 b.2)) (fM (fS a.1 a.2) (fA b.1 b.2))) (fS (fM (fA a.1 a.2) (fS b.1 b.2)) (fM (fS a.1 a.2) (fA b.1 b.2)))))):Bt×Bt)) (by kernel_rfl) rfl rfl) _) 3 ?_⟩
 refine rx1k 11 ?_
 refine re0 11 3 hH rfl (.sw cP2 (fun _=>0,fun _=>0) ((fM (fA (fM (fA a.1 a.2) (fS b.1 b.2)) (fM (fS a.1 a.2) (fA b.1 b.2))) (fA (fM (fA a.1 a.2) (fS b.1 b.2)) (fM (fS a.1 a.2) (fA b.1 b.2)))),(fM u (fM (fS (fM (fA a.1 a.2) (fS b.1 b.2)) (fM (fS a.1 a.2) (fA b.1 b.2))) (fS (fM (fA a.1 a.2) (fS b.1 b.2)) (fM (fS a.1 a.2) (fA b.1 b.2))))))) trivial (.nil _ []) ?_
 clear hH
 rintro _ _ w rfl hH
 refine ⟨pnil,rn ?_⟩
 refine cxRet (qxRetC 1 (hH.blk 3 rfl) rfl rfl (by kernel_rfl) (Cod.size _ _) (by kernel_rfl) ?_)
 exact ⟨rfl,HH.toBelow hH⟩
theorem xDb_c (a:Bt×Bt):Pure Tryz.prog 94 #[(cP2.val a)] (fun _=>True) (cP2.val (xDb a)):=by
 refine pure_of (fn:=Tryz.f94) Tryz.func94 rfl Tryz.ntmps94 (Nat.le_of_ble_eq_true rfl) rfl ?_
 intro w0 hH hR
 refine zr (zm hH (.bx cP2 a) trivial 1 ?_)
 clear hH
 rintro _ _ w ⟨g1,rfl,rfl⟩ hH
 refine zm hH (.al cP2 (fun _=>0,fun _=>0)) trivial 0 ?_
 clear hH
 rintro _ _ w ⟨g2,rfl,rfl⟩ hH
 refine zn (zx ?_)
 replace hH:=hH.drew
 refine rxPg 0 [pv 0 6 [] [] fun G=>(.pointer (some ⟨g1,0,none⟩)),ldv 1 7 [0] [] [1000] fun G=>((cArr 32).val a.1),pv 2 8 [] [] fun G=>(.pointer (some ⟨g1,32,none⟩)),ldv 3 9 [2] [] [1000] fun G=>((cArr 32).val a.2),pv 4 10 [1,3] [] fun G=>((cArr 32).val (fA a.1 a.2)),pv 5 11 [4] [] fun G=>((cArr 32).val (fM (fA a.1 a.2) (fA a.1 a.2))),pv 6 12 [] [] fun G=>(.pointer (some ⟨g1,0,none⟩)),ldv 7 13 [6] [] [1000] fun G=>((cArr 32).val a.1),pv 8 14 [] [] fun G=>(.pointer (some ⟨g1,32,none⟩)),ldv 9 15 [8] [] [1000] fun G=>((cArr 32).val a.2),pv 10 16 [7,9] [] fun G=>((cArr 32).val (fS a.1 a.2)),pv 11 17 [10] [] fun G=>((cArr 32).val (fM (fS a.1 a.2) (fS a.1 a.2))),alv 12 3 [] [] fun G g=>[bl g 22 ((cArr 32).enc (fun _=>0))],alv 13 4 [] [] fun G g=>[bl g 22 ((cArr 32).enc (fun _=>0))],stv 14 [5,12] [12] 12 fun G=>[bl (G 12).g 22 ((cArr 32).enc (fM (fA a.1 a.2) (fA a.1 a.2)))],stv 15 [11,13] [13] 13 fun G=>[bl (G 13).g 22 ((cArr 32).enc (fM (fS a.1 a.2) (fS a.1 a.2)))]] (fun G=>[(3,(.pointer (some ⟨(G 12).g,0,none⟩))),(4,(.pointer (some ⟨(G 13).g,0,none⟩))),(2,(.pointer (some ⟨g2,0,none⟩)))]) (fun G=>[[bl g1 128 (cP2.enc a)],[bl g2 128 (cP2.enc (fun _=>0,fun _=>0))],[bl (G 12).g 22 ((cArr 32).enc (fM (fA a.1 a.2) (fA a.1 a.2)))],[bl (G 13).g 22 ((cArr 32).enc (fM (fS a.1 a.2) (fS a.1 a.2)))]]) hH (.c (.v fun G=>(.fld 0)) <| .c (.ld (fun G _ _ hH=>(hH.q 0 rfl)) fun G=>(.ld (cArr 32) a.1 (fun _ hS=>(holds_blk0 hS).fst))) <| .c (.v fun G=>(.fld 32)) <| .c (.ld (fun G _ _ hH=>(hH.q 0 rfl)) fun G=>(.ld (cArr 32) a.2 (fun _ hS=>(holds_blk0 hS).snd))) <| .c (Sp.c Tryz.func133 (fun G=>(fA_c a.1 a.2)) fun _=>trivial) <| .c (Sp.c Tryz.func132 (fun G=>(xsq_c (fA a.1 a.2))) fun _=>trivial) <| .c (.v fun G=>(.fld 0)) <| .c (.ld (fun G _ _ hH=>(hH.q 0 rfl)) fun G=>(.ld (cArr 32) a.1 (fun _ hS=>(holds_blk0 hS).fst))) <| .c (.v fun G=>(.fld 32)) <| .c (.ld (fun G _ _ hH=>(hH.q 0 rfl)) fun G=>(.ld (cArr 32) a.2 (fun _ hS=>(holds_blk0 hS).snd))) <| .c (Sp.c Tryz.func134 (fun G=>(fS_c a.1 a.2)) fun _=>trivial) <| .c (Sp.c Tryz.func132 (fun G=>(xsq_c (fS a.1 a.2))) fun _=>trivial) <| .c (.a (fun _ _ _ _=>trivial) (fun G=>(.al (cArr 32) (fun _=>0))) fun _ _ _ h=>h) <| .c (.a (fun _ _ _ _=>trivial) (fun G=>(.al (cArr 32) (fun _=>0))) fun _ _ _ h=>h) <| .c (.tn (fun G=>(.sw (cArr 32) (fun _=>0) (fM (fA a.1 a.2) (fA a.1 a.2)))) (fun _ _ _ _=>trivial) fun _ _ _ h=>h) <| .c (.tn (fun G=>(.sw (cArr 32) (fun _=>0) (fM (fS a.1 a.2) (fS a.1 a.2)))) (fun _ _ _ _=>trivial) fun _ _ _ h=>h) <| .nil) ?_
 clear hH
 rintro G w - hH
 revert hH
 generalize (G 12).g=g3
 generalize (G 13).g=g4
 intro hH
 refine rn ?_
 refine zr (zs (hH.q 2 rfl) (.ld (cArr 32) (fM (fA a.1 a.2) (fA a.1 a.2)) (fun _ hS=>(holds_blk0 hS))) 0 ?_)
 refine zs (hH.q 3 rfl) (.ld (cArr 32) (fM (fS a.1 a.2) (fS a.1 a.2)) (fun _ hS=>(holds_blk0 hS))) 0 ?_
 refine zc Tryz.func134 (fS_c (fM (fA a.1 a.2) (fA a.1 a.2)) (fM (fS a.1 a.2) (fS a.1 a.2))) trivial hH 3 ?_
 clear hH
 intro w hH
 refine zm hH (.al (cArr 32) (fun _=>0)) trivial 0 ?_
 clear hH
 rintro _ _ w ⟨g5,rfl,rfl⟩ hH
 refine ze0 4 hH rfl (.sw (cArr 32) (fun _=>0) (fS (fM (fA a.1 a.2) (fA a.1 a.2)) (fM (fS a.1 a.2) (fS a.1 a.2)))) trivial ?_
 clear hH
 rintro _ _ w rfl hH
 refine zn (zx ?_)
 replace hH:=hH.drew
 refine rld 0 (hH.q 2 rfl) (.ld (cArr 32) (fM (fA a.1 a.2) (fA a.1 a.2)) (fun _ hS=>(holds_blk0 hS))) 2 ?_
 refine rld 1 (hH.q 3 rfl) (.ld (cArr 32) (fM (fS a.1 a.2) (fS a.1 a.2)) (fun _ hS=>(holds_blk0 hS))) 8 ?_
 refine rld 3 (hH.q 4 rfl) (.ld (cArr 32) (fS (fM (fA a.1 a.2) (fA a.1 a.2)) (fM (fS a.1 a.2) (fS a.1 a.2))) (fun _ hS=>(holds_blk0 hS))) 0 ?_
 refine rld 4 (hH.q 2 rfl) (.ld (cArr 32) (fM (fA a.1 a.2) (fA a.1 a.2)) (fun _ hS=>(holds_blk0 hS))) 16 ?_
 refine rld 6 (hH.q 4 rfl) (.ld (cArr 32) (fS (fM (fA a.1 a.2) (fA a.1 a.2)) (fM (fS a.1 a.2) (fS a.1 a.2))) (fun _ hS=>(holds_blk0 hS))) 16 ?_
 refine rx1k 2 (rpc 2 Tryz.func96 (fM_c (fM (fA a.1 a.2) (fA a.1 a.2)) (fM (fS a.1 a.2) (fS a.1 a.2))) trivial hH 24 (.keep (.keep (.keep (pgo [] (pgo [] (.nil _ [])))))) ?_)
 clear hH
 intro w hH
 refine ⟨pcons (hH.blk 4 rfl) (pcons (hH.blk 2 rfl) (pcons (hH.blk 4 rfl) pnil)),?_⟩
 refine rx1k 5 (rpc 5 Tryz.func135 (xfac_c ) trivial hH 0 (.keep (.keep (.keep (.nil _ [])))) ?_)
 clear hH
 intro w hH
 refine ⟨pcons (hH.blk 4 rfl) (pcons (hH.blk 2 rfl) (pcons (hH.blk 4 rfl) pnil)),?_⟩
 refine rx1k 7 (rpc 7 Tryz.func96 (fM_c facE (fS (fM (fA a.1 a.2) (fA a.1 a.2)) (fM (fS a.1 a.2) (fS a.1 a.2)))) trivial hH 5 (pgo [] (.keep (.keep (.nil _ [])))) ?_)
 clear hH
 intro w hH
 refine ⟨pcons (hH.blk 2 rfl) (pcons (hH.blk 4 rfl) pnil),?_⟩
 refine rx1k 8 (rpc 8 Tryz.func133 (fA_c (fM (fA a.1 a.2) (fA a.1 a.2)) (fM facE (fS (fM (fA a.1 a.2) (fA a.1 a.2)) (fM (fS a.1 a.2) (fS a.1 a.2))))) trivial hH 5 (pgo [] (.keep (.nil _ []))) ?_)
 clear hH
 intro w hH
 refine ⟨pcons (hH.blk 4 rfl) pnil,?_⟩
 refine rx1k 9 (rpc 9 Tryz.func96 (fM_c (fS (fM (fA a.1 a.2) (fA a.1 a.2)) (fM (fS a.1 a.2) (fS a.1 a.2))) (fA (fM (fA a.1 a.2) (fA a.1 a.2)) (fM facE (fS (fM (fA a.1 a.2) (fA a.1 a.2)) (fM (fS a.1 a.2) (fS a.1 a.2)))))) trivial hH 5 (pgo [] (.nil _ [])) ?_)
 clear hH
 intro w hH
 refine ⟨pnil,rv 10 (v:=(cP2.val ((fM (fM (fA a.1 a.2) (fA a.1 a.2)) (fM (fS a.1 a.2) (fS a.1 a.2))),(fM (fS (fM (fA a.1 a.2) (fA a.1 a.2)) (fM (fS a.1 a.2) (fS a.1 a.2))) (fA (fM (fA a.1 a.2) (fA a.1 a.2)) (fM facE (fS (fM (fA a.1 a.2) (fA a.1 a.2)) (fM (fS a.1 a.2) (fS a.1 a.2))))))))) (fun _ _ hF=>opBuildP (cells:=cP2.enc ((fM (fM (fA a.1 a.2) (fA a.1 a.2)) (fM (fS a.1 a.2) (fS a.1 a.2))),(fM (fS (fM (fA a.1 a.2) (fA a.1 a.2)) (fM (fS a.1 a.2) (fS a.1 a.2))) (fA (fM (fA a.1 a.2) (fA a.1 a.2)) (fM facE (fS (fM (fA a.1 a.2) (fA a.1 a.2)) (fM (fS a.1 a.2) (fS a.1 a.2)))))))) rfl (EvP.cons (v:=((cArr 32).val (fM (fM (fA a.1 a.2) (fA a.1 a.2)) (fM (fS a.1 a.2) (fS a.1 a.2))))) (hF.ev 1 rfl) (EvP.cons (v:=((cArr 32).val (fM (fS (fM (fA a.1 a.2) (fA a.1 a.2)) (fM (fS a.1 a.2) (fS a.1 a.2))) (fA (fM (fA a.1 a.2) (fA a.1 a.2)) (fM facE (fS (fM (fA a.1 a.2) (fA a.1 a.2)) (fM (fS a.1 a.2) (fS a.1 a.2)))))))) (hF.ev 0 rfl) EvP.nil)) (built_pair (x:=(((fM (fM (fA a.1 a.2) (fA a.1 a.2)) (fM (fS a.1 a.2) (fS a.1 a.2))),(fM (fS (fM (fA a.1 a.2) (fA a.1 a.2)) (fM (fS a.1 a.2) (fS a.1 a.2))) (fA (fM (fA a.1 a.2) (fA a.1 a.2)) (fM facE (fS (fM (fA a.1 a.2) (fA a.1 a.2)) (fM (fS a.1 a.2) (fS a.1 a.2))))))):Bt×Bt)) (by kernel_rfl) rfl rfl) _) 3 ?_⟩
 refine rx1k 11 ?_
 refine re0 11 1 hH rfl (.sw cP2 (fun _=>0,fun _=>0) ((fM (fM (fA a.1 a.2) (fA a.1 a.2)) (fM (fS a.1 a.2) (fS a.1 a.2))),(fM (fS (fM (fA a.1 a.2) (fA a.1 a.2)) (fM (fS a.1 a.2) (fS a.1 a.2))) (fA (fM (fA a.1 a.2) (fA a.1 a.2)) (fM facE (fS (fM (fA a.1 a.2) (fA a.1 a.2)) (fM (fS a.1 a.2) (fS a.1 a.2)))))))) trivial (.nil _ []) ?_
 clear hH
 rintro _ _ w rfl hH
 refine ⟨pnil,rn ?_⟩
 refine cxRet (qxRetC 1 (hH.blk 1 rfl) rfl rfl (by kernel_rfl) (Cod.size _ _) (by kernel_rfl) ?_)
 exact ⟨rfl,HH.toBelow hH⟩
theorem sxP_c (t:UInt8) (p q:Bt×Bt):Pure Tryz.prog 93 #[(.int .u8 (((t.toNat):Nat):Int)),(cP2.val p),(cP2.val q)] (fun _=>True) (.tuple #[cP2.val (sxP t p q),cP2.val (sxP t q p)]):=by
 refine pure_of (fn:=Tryz.f93) Tryz.func93 rfl Tryz.ntmps93 (Nat.le_of_ble_eq_true rfl) rfl ?_
 intro w0 hH hR
 refine zr (zm hH (.bx cP2 p) trivial 2 ?_)
 clear hH
 rintro _ _ w ⟨g1,rfl,rfl⟩ hH
 refine zm hH (.bx cP2 q) trivial 4 ?_
 clear hH
 rintro _ _ w ⟨g2,rfl,rfl⟩ hH
 refine zm hH (.al cP2 (fun _=>0,fun _=>0)) trivial 0 ?_
 clear hH
 rintro _ _ w ⟨g3,rfl,rfl⟩ hH
 refine zm hH (.al cP2 (fun _=>0,fun _=>0)) trivial 0 ?_
 clear hH
 rintro _ _ w ⟨g4,rfl,rfl⟩ hH
 refine zn (zr (zv .mv 16 ?_))
 refine zv (.gb (u:=t)) 1 ?_
 refine zv .mv 1 ?_
 refine zn (cxSeq ?_)
 replace hH:HH w0 [] [[bl g1 128 (cP2.enc ((mx8 (-t) 0 p.1 q.1),(mx8 (-t) 0 p.2 q.2)))],[bl g2 128 (cP2.enc q)],[bl g3 128 (cP2.enc (fun _=>0,fun _=>0))],[bl g4 128 (cP2.enc (fun _=>0,fun _=>0))]] w:=by simp only [mx8_0]; exact hH
 replace hH:HH w0 [] [[bl g1 128 (cP2.enc ((mx8 (-t) 0 p.1 q.1),(mx8 (-t) 0 p.2 q.2)))],[bl g2 128 (cP2.enc ((mx8 (-t) 0 q.1 p.1),(mx8 (-t) 0 q.2 p.2)))],[bl g3 128 (cP2.enc (fun _=>0,fun _=>0))],[bl g4 128 (cP2.enc (fun _=>0,fun _=>0))]] w:=by simp only [mx8_0] at hH ⊢; exact hH
 refine zr (zv .mv 0 ?_)
 refine zn (cxBlock (zL1 (fun (i:Nat)=>[(14,(.int .i64 (((i):Nat):Int))),(8,(.int .u8 ((((-t).toNat):Nat):Int))),(7,(.pointer (some ⟨g4,0,none⟩))),(6,(.pointer (some ⟨g3,0,none⟩))),(5,(.pointer (some ⟨g2,0,none⟩))),(4,(.pointer (some ⟨g1,0,none⟩)))]) (fun i w=>HH w0 [] [[bl g1 128 (cP2.enc ((mx8 (-t) i p.1 q.1),(mx8 (-t) i p.2 q.2)))],[bl g2 128 (cP2.enc ((mx8 (-t) i q.1 p.1),(mx8 (-t) i q.2 p.2)))],[bl g3 128 (cP2.enc (fun _=>0,fun _=>0))],[bl g4 128 (cP2.enc (fun _=>0,fun _=>0))]] w∧(i≤32)) (fun i=>32 - i) 0 ⟨hH,(Nat.zero_le _)⟩ ?_))
 clear hH
 rintro i w ⟨hH,hi⟩
 refine zr (zv (.lt (i<32)) 0 ?_)
 refine zn (cxSeq ?_)
 refine zP (fun hc5 => ?_) (fun hc5 => ?_)
 refine cxSkip (qxThen (cxSeq (cxBlock (zr (zv .mv 1 ?_)))))
 refine zv .mv 1 ?_
 refine zn (zx ?_)
 replace hH:=hH.drew
 refine rv 0 .mv 0 ?_
 refine rv 1 .mv 0 ?_
 refine rv 2 (.fld 0) 0 ?_
 have hi6:i<32:=by omega
 refine rv 3 (.ia 1 32 i (hi:=hi6)) 3 ?_
 refine rld 4 (hH.q 0 rfl) (.ld cByte ((mx8 (-t) i p.1 q.1) i) (fun _ hS=>((holds_blk0 hS).fst.elt hi6))) 1 ?_
 refine rv 5 .mv 0 ?_
 refine rv 6 (.fld 0) 0 ?_
 have hi7:i<32:=by omega
 refine rv 7 (.ia 1 32 i (hi:=hi7)) 3 ?_
 refine rld 8 (hH.q 1 rfl) (.ld cByte ((mx8 (-t) i q.1 p.1) i) (fun _ hS=>((holds_blk0 hS).fst.elt hi7))) 1 ?_
 refine rv 9 (.xb (((mx8 (-t) i p.1 q.1) i) ^^^ ((mx8 (-t) i q.1 p.1) i)) (u:=((mx8 (-t) i p.1 q.1) i)) (v:=((mx8 (-t) i q.1 p.1) i))) 3 ?_
 refine rv 10 (.ab ((-t) &&& (((mx8 (-t) i p.1 q.1) i) ^^^ ((mx8 (-t) i q.1 p.1) i))) (u:=(-t)) (v:=(((mx8 (-t) i p.1 q.1) i) ^^^ ((mx8 (-t) i q.1 p.1) i)))) 3 ?_
 refine rv 11 .mv 0 ?_
 refine rv 12 .mv 0 ?_
 refine rv 13 (.fld 32) 0 ?_
 have hi8:i<32:=by omega
 refine rv 14 (.ia 1 32 i (hi:=hi8)) 3 ?_
 refine rld 15 (hH.q 0 rfl) (.ld cByte ((mx8 (-t) i p.2 q.2) i) (fun _ hS=>((holds_blk0 hS).snd.elt hi8))) 1 ?_
 refine rv 16 .mv 0 ?_
 refine rv 17 (.fld 32) 0 ?_
 have hi9:i<32:=by omega
 refine rv 18 (.ia 1 32 i (hi:=hi9)) 3 ?_
 refine rld 19 (hH.q 1 rfl) (.ld cByte ((mx8 (-t) i q.2 p.2) i) (fun _ hS=>((holds_blk0 hS).snd.elt hi9))) 1 ?_
 refine rv 20 (.xb (((mx8 (-t) i p.2 q.2) i) ^^^ ((mx8 (-t) i q.2 p.2) i)) (u:=((mx8 (-t) i p.2 q.2) i)) (v:=((mx8 (-t) i q.2 p.2) i))) 3 ?_
 refine rv 21 (.ab ((-t) &&& (((mx8 (-t) i p.2 q.2) i) ^^^ ((mx8 (-t) i q.2 p.2) i))) (u:=(-t)) (v:=(((mx8 (-t) i p.2 q.2) i) ^^^ ((mx8 (-t) i q.2 p.2) i)))) 3 ?_
 refine rv 22 .mv 2 ?_
 refine rv 23 .mv 2 ?_
 refine rn ?_
 simp only [mx8_at]
 refine zr (zv .mv 0 ?_)
 refine zv (.fld 0) 0 ?_
 have hi10:i<32:=by omega
 refine zv (.ia 1 32 i (hi:=hi10)) 1 ?_
 refine zs (hH.q 0 rfl) (.ld cByte ((mx8 (-t) i p.1 q.1) i) (fun _ hS=>((holds_blk0 hS).fst.elt hi10))) 1 ?_
 refine zv .mv 0 ?_
 refine zv (.xb (((mx8 (-t) i p.1 q.1) i) ^^^ (-t &&& (p.1 i ^^^ q.1 i))) (u:=((mx8 (-t) i p.1 q.1) i)) (v:=(-t &&& (p.1 i ^^^ q.1 i)))) 3 ?_
 refine zv (.fld 0) 0 ?_
 have hi11:i<32:=by omega
 refine zv (.ia 1 32 i (hi:=hi11)) 5 ?_
 refine ze0 0 hH rfl (.st cByte (((mx8 (-t) i p.1 q.1) i) ^^^ (-t &&& (p.1 i ^^^ q.1 i))) (by rw [Cod.size]; show 0+i*1+1≤64; omega) (put_fst (arr_set0 (mx8 (-t) i p.1 q.1) (((mx8 (-t) i p.1 q.1) i) ^^^ (-t &&& (p.1 i ^^^ q.1 i))) hi11) (by show 0+i*1+1≤32; omega))) trivial ?_
 clear hH
 rintro _ _ w rfl hH
 refine zn ?_
 replace hH:HH w0 [] [[bl g1 128 (cP2.enc ((mx8 (-t) (i+1) p.1 q.1),(mx8 (-t) i p.2 q.2)))],[bl g2 128 (cP2.enc ((mx8 (-t) i q.1 p.1),(mx8 (-t) i q.2 p.2)))],[bl g3 128 (cP2.enc (fun _=>0,fun _=>0))],[bl g4 128 (cP2.enc (fun _=>0,fun _=>0))]] w:=by rw [mx8_at,mx8_succ] at hH; exact hH
 refine zr (zv .mv 3 ?_)
 refine zv (.fld 0) 0 ?_
 have hi12:i<32:=by omega
 refine zv (.ia 1 32 i (hi:=hi12)) 1 ?_
 refine zs (hH.q 1 rfl) (.ld cByte ((mx8 (-t) i q.1 p.1) i) (fun _ hS=>((holds_blk0 hS).fst.elt hi12))) 1 ?_
 refine zv .mv 8 ?_
 refine zv (.xb (((mx8 (-t) i q.1 p.1) i) ^^^ (-t &&& (p.1 i ^^^ q.1 i))) (u:=((mx8 (-t) i q.1 p.1) i)) (v:=(-t &&& (p.1 i ^^^ q.1 i)))) 3 ?_
 refine zv (.fld 0) 0 ?_
 have hi13:i<32:=by omega
 refine zv (.ia 1 32 i (hi:=hi13)) 5 ?_
 refine ze0 1 hH rfl (.st cByte (((mx8 (-t) i q.1 p.1) i) ^^^ (-t &&& (p.1 i ^^^ q.1 i))) (by rw [Cod.size]; show 0+i*1+1≤64; omega) (put_fst (arr_set0 (mx8 (-t) i q.1 p.1) (((mx8 (-t) i q.1 p.1) i) ^^^ (-t &&& (p.1 i ^^^ q.1 i))) hi13) (by show 0+i*1+1≤32; omega))) trivial ?_
 clear hH
 rintro _ _ w rfl hH
 refine zn ?_
 replace hH:HH w0 [] [[bl g1 128 (cP2.enc ((mx8 (-t) (i+1) p.1 q.1),(mx8 (-t) i p.2 q.2)))],[bl g2 128 (cP2.enc ((mx8 (-t) (i+1) q.1 p.1),(mx8 (-t) i q.2 p.2)))],[bl g3 128 (cP2.enc (fun _=>0,fun _=>0))],[bl g4 128 (cP2.enc (fun _=>0,fun _=>0))]] w:=by rw [mx8_at,mx8_succ'] at hH; exact hH
 refine zr (zv .mv 3 ?_)
 refine zv (.fld 32) 0 ?_
 have hi14:i<32:=by omega
 refine zv (.ia 1 32 i (hi:=hi14)) 1 ?_
 refine zs (hH.q 0 rfl) (.ld cByte ((mx8 (-t) i p.2 q.2) i) (fun _ hS=>((holds_blk0 hS).snd.elt hi14))) 1 ?_
 refine zv .mv 0 ?_
 refine zv (.xb (((mx8 (-t) i p.2 q.2) i) ^^^ (-t &&& (p.2 i ^^^ q.2 i))) (u:=((mx8 (-t) i p.2 q.2) i)) (v:=(-t &&& (p.2 i ^^^ q.2 i)))) 3 ?_
 refine zv (.fld 32) 0 ?_
 have hi15:i<32:=by omega
 refine zv (.ia 1 32 i (hi:=hi15)) 5 ?_
 refine ze0 0 hH rfl (.st cByte (((mx8 (-t) i p.2 q.2) i) ^^^ (-t &&& (p.2 i ^^^ q.2 i))) (by rw [Cod.size]; show 32+i*1+1≤64; omega) (put_snA (a:=32) (o:=32+i*1) (arr_set0 (mx8 (-t) i p.2 q.2) (((mx8 (-t) i p.2 q.2) i) ^^^ (-t &&& (p.2 i ^^^ q.2 i))) hi15) (by omega))) trivial ?_
 clear hH
 rintro _ _ w rfl hH
 refine zn ?_
 replace hH:HH w0 [] [[bl g1 128 (cP2.enc ((mx8 (-t) (i+1) p.1 q.1),(mx8 (-t) (i+1) p.2 q.2)))],[bl g2 128 (cP2.enc ((mx8 (-t) (i+1) q.1 p.1),(mx8 (-t) i q.2 p.2)))],[bl g3 128 (cP2.enc (fun _=>0,fun _=>0))],[bl g4 128 (cP2.enc (fun _=>0,fun _=>0))]] w:=by rw [mx8_at,mx8_succ] at hH; exact hH
 refine cxReg (zv .mv 11 ?_)
 refine zv (.fld 32) 0 ?_
 have hi16:i<32:=by omega
 refine zv (.ia 1 32 i (hi:=hi16)) 1 ?_
 refine zs (hH.q 1 rfl) (.ld cByte ((mx8 (-t) i q.2 p.2) i) (fun _ hS=>((holds_blk0 hS).snd.elt hi16))) 1 ?_
 refine zv .mv 4 ?_
 refine zv (.xb (((mx8 (-t) i q.2 p.2) i) ^^^ (-t &&& (p.2 i ^^^ q.2 i))) (u:=((mx8 (-t) i q.2 p.2) i)) (v:=(-t &&& (p.2 i ^^^ q.2 i)))) 3 ?_
 refine zv (.fld 32) 0 ?_
 have hi17:i<32:=by omega
 refine zv (.ia 1 32 i (hi:=hi17)) 5 ?_
 refine ze0 1 hH rfl (.st cByte (((mx8 (-t) i q.2 p.2) i) ^^^ (-t &&& (p.2 i ^^^ q.2 i))) (by rw [Cod.size]; show 32+i*1+1≤64; omega) (put_snA (a:=32) (o:=32+i*1) (arr_set0 (mx8 (-t) i q.2 p.2) (((mx8 (-t) i q.2 p.2) i) ^^^ (-t &&& (p.2 i ^^^ q.2 i))) hi17) (by omega))) trivial ?_
 clear hH
 rintro _ _ w rfl hH
 refine pxEnd (qxInN (qxThen ?_))
 replace hH:HH w0 [] [[bl g1 128 (cP2.enc ((mx8 (-t) (i+1) p.1 q.1),(mx8 (-t) (i+1) p.2 q.2)))],[bl g2 128 (cP2.enc ((mx8 (-t) (i+1) q.1 p.1),(mx8 (-t) (i+1) q.2 p.2)))],[bl g3 128 (cP2.enc (fun _=>0,fun _=>0))],[bl g4 128 (cP2.enc (fun _=>0,fun _=>0))]] w:=by rw [mx8_at,mx8_succ'] at hH; exact hH
 refine cxReg (zv (.add ((i+1:Nat):Int)) 7 ?_)
 refine zv .mv 1 ?_
 refine pxEnd ?_
 exact zR1 (i+1) ⟨hH,(by omega)⟩ (by omega)
 refine cxExit (qxThenE (qxThenE (qxInE (qxThen ?_))))
 obtain rfl:i=32:=by omega
 refine zx ?_
 replace hH:=hH.drew
 refine rld 0 (hH.q 0 rfl) (.ld cP2 ((mx8 (-t) 32 p.1 q.1),(mx8 (-t) 32 p.2 q.2)) (fun _ hS=>(holds_blk0 hS))) 71 ?_
 refine rld 1 (hH.q 1 rfl) (.ld cP2 ((mx8 (-t) 32 q.1 p.1),(mx8 (-t) 32 q.2 p.2)) (fun _ hS=>(holds_blk0 hS))) 8 ?_
 refine rx1k 2 ?_
 refine re0 2 2 hH rfl (.sw cP2 (fun _=>0,fun _=>0) ((mx8 (-t) 32 p.1 q.1),(mx8 (-t) 32 p.2 q.2))) trivial (.keep (pgo [] (.nil _ []))) ?_
 clear hH
 rintro _ _ w rfl hH
 refine ⟨pcons (hH.blk 1 rfl) pnil,?_⟩
 refine rx1k 3 ?_
 refine re0 3 3 hH rfl (.sw cP2 (fun _=>0,fun _=>0) ((mx8 (-t) 32 q.1 p.1),(mx8 (-t) 32 q.2 p.2))) trivial (pgo [] (.nil _ [])) ?_
 clear hH
 rintro _ _ w rfl hH
 refine ⟨pnil,rn ?_⟩
 refine cxRet (qxRetCC 3 2 (hH.blk 2 rfl) (hH.blk 3 rfl) rfl rfl rfl (by kernel_rfl) (by kernel_rfl) (Cod.size _ _) (Cod.size _ _) (by kernel_rfl) (by kernel_rfl) ?_)
 exact ⟨rfl,HH.toBelow hH⟩
theorem xPr_c (n u:Bt):Pure Tryz.prog 51 #[((cArr 32).val n),((cArr 32).val u)] (fun _=>True) ((cArr 32).val (xPr n u)):=by
 refine pure_of (fn:=Tryz.f51) Tryz.func51 rfl Tryz.ntmps51 (Nat.le_of_ble_eq_true rfl) rfl ?_
 intro w0 hH hR
 refine zr (zm hH (.bx (cArr 32) n) trivial 1 ?_)
 clear hH
 rintro _ _ w ⟨g1,rfl,rfl⟩ hH
 refine zm hH (.bx (cArr 32) u) trivial 2 ?_
 clear hH
 rintro _ _ w ⟨g2,rfl,rfl⟩ hH
 refine zm hH (.al (cArr 32) (fun _=>0)) trivial 0 ?_
 clear hH
 rintro _ _ w ⟨g3,rfl,rfl⟩ hH
 refine zn (zx ?_)
 replace hH:=hH.drew
 refine rxPg 0 [pv 0 10 [] [] fun G=>((cArr 32).val oneB),pv 1 11 [0] [] fun G=>(cP2.val (oneB,fun _=>0)),ldv 2 12 [] [] [1001] fun G=>((cArr 32).val u),pv 3 13 [] [] fun G=>((cArr 32).val oneB),pv 4 14 [2,3] [] fun G=>(cP2.val (u,oneB)),alv 5 5 [] [] fun G g=>[bl g 128 (cP2.enc (fun _=>0,fun _=>0))],alv 6 6 [] [] fun G g=>[bl g 128 (cP2.enc (fun _=>0,fun _=>0))],stv 7 [1,5] [5] 5 fun G=>[bl (G 5).g 128 (cP2.enc (oneB,fun _=>0))],stv 8 [4,6] [6] 6 fun G=>[bl (G 6).g 128 (cP2.enc (u,oneB))]] (fun G=>[(5,(.pointer (some ⟨(G 5).g,0,none⟩))),(6,(.pointer (some ⟨(G 6).g,0,none⟩))),(4,(.pointer (some ⟨g3,0,none⟩))),(3,(.pointer (some ⟨g2,0,none⟩))),(2,(.pointer (some ⟨g1,0,none⟩)))]) (fun G=>[[bl g1 22 ((cArr 32).enc n)],[bl g2 22 ((cArr 32).enc u)],[bl g3 22 ((cArr 32).enc (fun _=>0))],[bl (G 5).g 128 (cP2.enc (oneB,fun _=>0))],[bl (G 6).g 128 (cP2.enc (u,oneB))]]) hH (.c (.v fun G=>(fun _ _ hF=>opBuildP (cells:=(cArr 32).enc oneB) (vals:=[(0,(.int .u8 1))]) rfl (EvP.cons (v:=(.int .u8 1)) rfl EvP.nil) (by kernel_rfl) _)) <| .c (.v fun G=>(fun _ _ hF=>opBuildP (cells:=cP2.enc (oneB,fun _=>0)) (vals:=[(0,((cArr 32).val oneB))]) rfl (EvP.cons (v:=((cArr 32).val oneB)) (hF.ev 0 rfl) EvP.nil) (by kernel_rfl) _)) <| .c (.ld (fun G _ _ hH=>(hH.q 0 rfl)) fun G=>(.ld (cArr 32) u (fun _ hS=>(holds_blk0 hS)))) <| .c (.v fun G=>(fun _ _ hF=>opBuildP (cells:=(cArr 32).enc oneB) (vals:=[(0,(.int .u8 1))]) rfl (EvP.cons (v:=(.int .u8 1)) rfl EvP.nil) (by kernel_rfl) _)) <| .c (.v fun G=>(fun _ _ hF=>opBuildP (cells:=cP2.enc (u,oneB)) rfl (EvP.cons (v:=((cArr 32).val u)) (hF.ev 0 rfl) (EvP.cons (v:=((cArr 32).val oneB)) (hF.ev 1 rfl) EvP.nil)) (built_pair (x:=((u,oneB):Bt×Bt)) (by kernel_rfl) rfl rfl) _)) <| .c (.a (fun _ _ _ _=>trivial) (fun G=>(.al cP2 (fun _=>0,fun _=>0))) fun _ _ _ h=>h) <| .c (.a (fun _ _ _ _=>trivial) (fun G=>(.al cP2 (fun _=>0,fun _=>0))) fun _ _ _ h=>h) <| .c (.tn (fun G=>(.sw cP2 (fun _=>0,fun _=>0) (oneB,fun _=>0))) (fun _ _ _ _=>trivial) fun _ _ _ h=>h) <| .c (.tn (fun G=>(.sw cP2 (fun _=>0,fun _=>0) (u,oneB))) (fun _ _ _ _=>trivial) fun _ _ _ h=>h) <| .nil) ?_
 clear hH
 rintro G w - hH
 revert hH
 generalize (G 5).g=g4
 generalize (G 6).g=g5
 intro hH
 refine rn ?_
 refine zr (zv .mv 0 ?_)
 refine zn (cxSeq ?_)
 replace hH:HH w0 [] [[bl g1 22 ((cArr 32).enc n)],[bl g2 22 ((cArr 32).enc u)],[bl g3 22 ((cArr 32).enc (fun _=>0))],[bl g4 128 (cP2.enc ((xLad n u 0).2.1))],[bl g5 128 (cP2.enc (u,oneB))]] w:=by exact hH
 replace hH:HH w0 [] [[bl g1 22 ((cArr 32).enc n)],[bl g2 22 ((cArr 32).enc u)],[bl g3 22 ((cArr 32).enc (fun _=>0))],[bl g4 128 (cP2.enc ((xLad n u 0).2.1))],[bl g5 128 (cP2.enc ((xLad n u 0).2.2))]] w:=by exact hH
 refine zr (zv .mv 0 ?_)
 refine zn (cxBlock (zL1 (fun (k:Nat)=>[(8,(.int .i64 (254 - (k:Int)))),(7,(.int .u8 ((((xLad n u k).1.toNat):Nat):Int))),(6,(.pointer (some ⟨g5,0,none⟩))),(5,(.pointer (some ⟨g4,0,none⟩))),(4,(.pointer (some ⟨g3,0,none⟩))),(3,(.pointer (some ⟨g2,0,none⟩))),(2,(.pointer (some ⟨g1,0,none⟩)))]) (fun k w=>HH w0 [] [[bl g1 22 ((cArr 32).enc n)],[bl g2 22 ((cArr 32).enc u)],[bl g3 22 ((cArr 32).enc (fun _=>0))],[bl g4 128 (cP2.enc ((xLad n u k).2.1))],[bl g5 128 (cP2.enc ((xLad n u k).2.2))]] w∧(k≤255)) (fun k=>255 - k) 0 ⟨hH,(Nat.zero_le _)⟩ ?_))
 clear hH
 rintro k w ⟨hH,hk⟩
 refine cxSeq (zr (zv .mv 0 ?_))
 refine zv (v:=(.bool (decide ((254 - (k:Int)) ≥ 0)))) (fun _ _ hF=>opGeq rfl (hF.ev 0 rfl) rfl rfl) 1 ?_
 refine zn ?_
 refine zP (fun hc6 => ?_) (fun hc6 => ?_)
 refine cxSkip (qxThen (cxSeq (cxBlock ?_)))
 rw [show (254:Int) - (k:Int)=((254 - k:Nat):Int) by omega]
 refine zr (zv .mv 1 ?_)
 refine zv (v:=(.int .i64 ((((254 - k) / 8):Nat):Int))) (fun _ _ hF=>opQuo (z:=(((254 - k) / 8:Nat):Int)) rfl (hF.ev 0 rfl) rfl (by omega) (wI quoN (by omega) (by omega))) 1 ?_
 have hi7:(254 - k) / 8<32:=by omega
 refine zv (.ia 1 32 ((254 - k) / 8) (hi:=hi7)) 1 ?_
 refine zs (hH.q 0 rfl) (.ld cByte (n ((254 - k) / 8)) (fun _ hS=>((holds_blk0 hS).elt hi7))) 1 ?_
 refine zv .mv 0 ?_
 refine zv (v:=(.int .i64 ((((254 - k)%8):Nat):Int))) (fun _ _ hF=>opRem (z:=(((254 - k)%8:Nat):Int)) rfl (hF.ev 0 rfl) rfl (by omega) remN) 1 ?_
 refine zv (.rb ((254 - k)%8) (u:=(n ((254 - k) / 8)))) 3 ?_
 refine zv (.ab ((sr8 (n ((254 - k) / 8)) ((254 - k)%8)) &&& (1:UInt8)) (u:=(sr8 (n ((254 - k) / 8)) ((254 - k)%8))) (v:=(1:UInt8))) 1 ?_
 refine zv .mv 1 ?_
 refine zn (zr (zv .mv 4 ?_))
 refine zv .mv 0 ?_
 refine zv (.xb ((xLad n u k).1 ^^^ ((sr8 (n ((254 - k) / 8)) ((254 - k)%8)) &&& (1:UInt8))) (u:=(xLad n u k).1) (v:=((sr8 (n ((254 - k) / 8)) ((254 - k)%8)) &&& (1:UInt8)))) 3 ?_
 refine zs (hH.q 3 rfl) (.ld cP2 ((xLad n u k).2.1) (fun _ hS=>(holds_blk0 hS))) 0 ?_
 refine zs (hH.q 4 rfl) (.ld cP2 ((xLad n u k).2.2) (fun _ hS=>(holds_blk0 hS))) 0 ?_
 refine zc Tryz.func93 (sxP_c ((xLad n u k).1 ^^^ ((sr8 (n ((254 - k) / 8)) ((254 - k)%8)) &&& (1:UInt8))) ((xLad n u k).2.1) ((xLad n u k).2.2)) trivial hH 7 ?_
 clear hH
 intro w hH
 refine zv .mv 1 ?_
 refine zv .ext 0 ?_
 refine zv .ext 2 ?_
 refine ze0 3 hH rfl (.sw cP2 ((xLad n u k).2.1) (sxP ((xLad n u k).1 ^^^ ((sr8 (n ((254 - k) / 8)) ((254 - k)%8)) &&& (1:UInt8))) ((xLad n u k).2.1) ((xLad n u k).2.2))) trivial ?_
 clear hH
 rintro _ _ w rfl hH
 refine ze0 4 hH rfl (.sw cP2 ((xLad n u k).2.2) (sxP ((xLad n u k).1 ^^^ ((sr8 (n ((254 - k) / 8)) ((254 - k)%8)) &&& (1:UInt8))) ((xLad n u k).2.2) ((xLad n u k).2.1))) trivial ?_
 clear hH
 rintro _ _ w rfl hH
 refine zn (zx ?_)
 replace hH:=hH.drew
 refine rld 0 (hH.q 3 rfl) (.ld cP2 (sxP ((xLad n u k).1 ^^^ ((sr8 (n ((254 - k) / 8)) ((254 - k)%8)) &&& (1:UInt8))) ((xLad n u k).2.1) ((xLad n u k).2.2)) (fun _ hS=>(holds_blk0 hS))) 3 ?_
 refine rld 2 (hH.q 3 rfl) (.ld cP2 (sxP ((xLad n u k).1 ^^^ ((sr8 (n ((254 - k) / 8)) ((254 - k)%8)) &&& (1:UInt8))) ((xLad n u k).2.1) ((xLad n u k).2.2)) (fun _ hS=>(holds_blk0 hS))) 0 ?_
 refine rld 3 (hH.q 4 rfl) (.ld cP2 (sxP ((xLad n u k).1 ^^^ ((sr8 (n ((254 - k) / 8)) ((254 - k)%8)) &&& (1:UInt8))) ((xLad n u k).2.2) ((xLad n u k).2.1)) (fun _ hS=>(holds_blk0 hS))) 0 ?_
 refine rld 4 (hH.q 1 rfl) (.ld (cArr 32) u (fun _ hS=>(holds_blk0 hS))) 0 ?_
 refine rx1k 1 (rpc 1 Tryz.func94 (xDb_c (sxP ((xLad n u k).1 ^^^ ((sr8 (n ((254 - k) / 8)) ((254 - k)%8)) &&& (1:UInt8))) ((xLad n u k).2.1) ((xLad n u k).2.2))) trivial hH 8 (.keep (.keep (.keep (pgo [] (.nil _ []))))) ?_)
 clear hH
 intro w hH
 refine ⟨pcons (hH.blk 1 rfl) (pcons (hH.blk 4 rfl) (pcons (hH.blk 3 rfl) pnil)),?_⟩
 refine rx1k 5 (rpc 5 Tryz.func95 (xPl_c (sxP ((xLad n u k).1 ^^^ ((sr8 (n ((254 - k) / 8)) ((254 - k)%8)) &&& (1:UInt8))) ((xLad n u k).2.1) ((xLad n u k).2.2)) (sxP ((xLad n u k).1 ^^^ ((sr8 (n ((254 - k) / 8)) ((254 - k)%8)) &&& (1:UInt8))) ((xLad n u k).2.2) ((xLad n u k).2.1)) u) trivial hH 14 (pgo [] (pgo [] (pgo [] (.nil _ [])))) ?_)
 clear hH
 intro w hH
 refine ⟨pnil,rx1k 6 ?_⟩
 refine re0 6 3 hH rfl (.sw cP2 (sxP ((xLad n u k).1 ^^^ ((sr8 (n ((254 - k) / 8)) ((254 - k)%8)) &&& (1:UInt8))) ((xLad n u k).2.1) ((xLad n u k).2.2)) (xDb (sxP ((xLad n u k).1 ^^^ ((sr8 (n ((254 - k) / 8)) ((254 - k)%8)) &&& (1:UInt8))) ((xLad n u k).2.1) ((xLad n u k).2.2)))) trivial (.nil _ []) ?_
 clear hH
 rintro _ _ w rfl hH
 refine ⟨pnil,rx1k 7 ?_⟩
 refine re0 7 4 hH rfl (.sw cP2 (sxP ((xLad n u k).1 ^^^ ((sr8 (n ((254 - k) / 8)) ((254 - k)%8)) &&& (1:UInt8))) ((xLad n u k).2.2) ((xLad n u k).2.1)) (xPl (sxP ((xLad n u k).1 ^^^ ((sr8 (n ((254 - k) / 8)) ((254 - k)%8)) &&& (1:UInt8))) ((xLad n u k).2.1) ((xLad n u k).2.2)) (sxP ((xLad n u k).1 ^^^ ((sr8 (n ((254 - k) / 8)) ((254 - k)%8)) &&& (1:UInt8))) ((xLad n u k).2.2) ((xLad n u k).2.1)) u)) trivial (.nil _ []) ?_
 clear hH
 rintro _ _ w rfl hH
 refine ⟨pnil,rn ?_⟩
 replace hH:HH w0 [] [[bl g1 22 ((cArr 32).enc n)],[bl g2 22 ((cArr 32).enc u)],[bl g3 22 ((cArr 32).enc (fun _=>0))],[bl g4 128 (cP2.enc ((xLad n u (k+1)).2.1))],[bl g5 128 (cP2.enc (xPl (sxP ((xLad n u k).1 ^^^ ((sr8 (n ((254 - k) / 8)) ((254 - k)%8)) &&& (1:UInt8))) ((xLad n u k).2.1) ((xLad n u k).2.2)) (sxP ((xLad n u k).1 ^^^ ((sr8 (n ((254 - k) / 8)) ((254 - k)%8)) &&& (1:UInt8))) ((xLad n u k).2.2) ((xLad n u k).2.1)) u))]] w:=by exact hH
 replace hH:HH w0 [] [[bl g1 22 ((cArr 32).enc n)],[bl g2 22 ((cArr 32).enc u)],[bl g3 22 ((cArr 32).enc (fun _=>0))],[bl g4 128 (cP2.enc ((xLad n u (k+1)).2.1))],[bl g5 128 (cP2.enc ((xLad n u (k+1)).2.2))]] w:=by exact hH
 refine cxReg (zv .mv 7 ?_)
 refine zv .mv 1 ?_
 refine pxEnd (qxInN (qxThen ?_))
 rw [show ((254 - k:Nat):Int)=(254:Int) - (k:Int) by omega]
 refine cxReg (zv .mv 2 ?_)
 refine zv (.sub (254 - ((k+1:Nat):Int))) 1 ?_
 refine zv .mv 1 ?_
 refine pxEnd ?_
 exact zR1 (k+1) ⟨hH,(by omega)⟩ (by omega)
 refine cxExit (qxThenE (qxThenE (qxInE (qxThen ?_))))
 obtain rfl:k=255:=by omega
 refine zx ?_
 replace hH:=hH.drew
 refine rv 0 (.fld 0) 207 ?_
 refine rld 1 (hH.q 3 rfl) (.ld (cArr 32) (((xLad n u 255).2.1).1) (fun _ hS=>(holds_blk0 hS).fst)) 1 ?_
 refine rv 2 (.fld 32) 2 ?_
 refine rld 3 (hH.q 3 rfl) (.ld (cArr 32) (((xLad n u 255).2.1).2) (fun _ hS=>(holds_blk0 hS).snd)) 1 ?_
 refine rx1k 4 (rpc 4 Tryz.func97 (fI_c (((xLad n u 255).2.1).2)) trivial hH 1 (pgo [] (.keep (.nil _ []))) ?_)
 clear hH
 intro w hH
 refine ⟨pcons (hH.blk 3 rfl) pnil,?_⟩
 refine rx1k 5 (rpc 5 Tryz.func96 (fM_c (((xLad n u 255).2.1).1) (fI (((xLad n u 255).2.1).2))) trivial hH 3 (pgo [] (.nil _ [])) ?_)
 clear hH
 intro w hH
 refine ⟨pnil,rx1k 6 ?_⟩
 refine re0 6 2 hH rfl (.sw (cArr 32) (fun _=>0) (fM (((xLad n u 255).2.1).1) (fI (((xLad n u 255).2.1).2)))) trivial (.nil _ []) ?_
 clear hH
 rintro _ _ w rfl hH
 refine ⟨pnil,rn ?_⟩
 refine cxRet (qxRetC 1 (hH.blk 2 rfl) rfl rfl (by kernel_rfl) (Cod.size _ _) (by kernel_rfl) ?_)
 exact ⟨rfl,HH.toBelow hH⟩
theorem xNm_c (s:Bt):Pure Tryz.prog 52 #[((cArr 32).val s)] (fun _=>True) ((cArr 32).val (xNm s)):=by
 refine pure_of (fn:=Tryz.f52) Tryz.func52 rfl Tryz.ntmps52 (Nat.le_of_ble_eq_true rfl) rfl ?_
 intro w0 hH hR
 refine zr (zm hH (.bx (cArr 32) s) trivial 1 ?_)
 clear hH
 rintro _ _ w ⟨g1,rfl,rfl⟩ hH
 refine zm hH (.al (cArr 32) (fun _=>0)) trivial 0 ?_
 clear hH
 rintro _ _ w ⟨g2,rfl,rfl⟩ hH
 refine zn (zr ?_)
 have hi3:0<32:=by omega
 refine zv (.ia 1 32 0 (hi:=hi3)) 0 ?_
 refine zs (hH.q 0 rfl) (.ld cByte (s 0) (fun _ hS=>((holds_blk0 hS).elt hi3))) 1 ?_
 refine zv (.nb ((s 0) &&& ~~~(7:UInt8)) (u:=(s 0)) (v:=(7:UInt8))) 1 ?_
 have hi4:0<32:=by omega
 refine zv (.ia 1 32 0 (hi:=hi4)) 0 ?_
 refine ze0 0 hH rfl (.st cByte ((s 0) &&& ~~~(7:UInt8)) (room_1 (S:=sBy) (C:=(cArr 32)) rfl hi4) (arr_set0 s ((s 0) &&& ~~~(7:UInt8)) hi4)) trivial ?_
 clear hH
 rintro _ _ w rfl hH
 refine zn (zr ?_)
 have hi5:31<32:=by omega
 refine zv (.ia 1 32 31 (hi:=hi5)) 3 ?_
 refine zs (hH.q 0 rfl) (.ld cByte ((stF s 0 ((s 0) &&& ~~~(7:UInt8))) 31) (fun _ hS=>((holds_blk0 hS).elt hi5))) 1 ?_
 refine zv (.nb (((stF s 0 ((s 0) &&& ~~~(7:UInt8))) 31) &&& ~~~(128:UInt8)) (u:=((stF s 0 ((s 0) &&& ~~~(7:UInt8))) 31)) (v:=(128:UInt8))) 1 ?_
 refine zv (.ob ((((stF s 0 ((s 0) &&& ~~~(7:UInt8))) 31) &&& ~~~(128:UInt8)) ||| (64:UInt8)) (u:=(((stF s 0 ((s 0) &&& ~~~(7:UInt8))) 31) &&& ~~~(128:UInt8))) (v:=(64:UInt8))) 1 ?_
 have hi6:31<32:=by omega
 refine zv (.ia 1 32 31 (hi:=hi6)) 0 ?_
 refine ze0 0 hH rfl (.st cByte ((((stF s 0 ((s 0) &&& ~~~(7:UInt8))) 31) &&& ~~~(128:UInt8)) ||| (64:UInt8)) (room_1 (S:=sBy) (C:=(cArr 32)) rfl hi6) (arr_set0 (stF s 0 ((s 0) &&& ~~~(7:UInt8))) ((((stF s 0 ((s 0) &&& ~~~(7:UInt8))) 31) &&& ~~~(128:UInt8)) ||| (64:UInt8)) hi6)) trivial ?_
 clear hH
 rintro _ _ w rfl hH
 refine zn (zr (zs (hH.q 0 rfl) (.ld (cArr 32) (stF (stF s 0 ((s 0) &&& ~~~(7:UInt8))) 31 ((((stF s 0 ((s 0) &&& ~~~(7:UInt8))) 31) &&& ~~~(128:UInt8)) ||| (64:UInt8))) (fun _ hS=>(holds_blk0 hS))) 11 ?_))
 refine ze0 1 hH rfl (.sw (cArr 32) (fun _=>0) (stF (stF s 0 ((s 0) &&& ~~~(7:UInt8))) 31 ((((stF s 0 ((s 0) &&& ~~~(7:UInt8))) 31) &&& ~~~(128:UInt8)) ||| (64:UInt8)))) trivial ?_
 clear hH
 rintro _ _ w rfl hH
 refine zn (cxRet (qxRetC 1 (hH.blk 1 rfl) rfl rfl (by kernel_rfl) (Cod.size _ _) (by kernel_rfl) ?_))
 exact ⟨rfl,HH.toBelow hH⟩
theorem xPt_c (u:Bt):Pure Tryz.prog 53 #[((cArr 32).val u)] (fun _=>True) ((cArr 32).val (xPt u)):=by
 refine pure_of (fn:=Tryz.f53) Tryz.func53 rfl Tryz.ntmps53 (Nat.le_of_ble_eq_true rfl) rfl ?_
 intro w0 hH hR
 refine zr (zm hH (.bx (cArr 32) u) trivial 1 ?_)
 clear hH
 rintro _ _ w ⟨g1,rfl,rfl⟩ hH
 refine zm hH (.al (cArr 32) (fun _=>0)) trivial 0 ?_
 clear hH
 rintro _ _ w ⟨g2,rfl,rfl⟩ hH
 refine zn (zr ?_)
 have hi3:31<32:=by omega
 refine zv (.ia 1 32 31 (hi:=hi3)) 0 ?_
 refine zs (hH.q 0 rfl) (.ld cByte (u 31) (fun _ hS=>((holds_blk0 hS).elt hi3))) 1 ?_
 refine zv (.nb ((u 31) &&& ~~~(128:UInt8)) (u:=(u 31)) (v:=(128:UInt8))) 1 ?_
 have hi4:31<32:=by omega
 refine zv (.ia 1 32 31 (hi:=hi4)) 0 ?_
 refine ze0 0 hH rfl (.st cByte ((u 31) &&& ~~~(128:UInt8)) (room_1 (S:=sBy) (C:=(cArr 32)) rfl hi4) (arr_set0 u ((u 31) &&& ~~~(128:UInt8)) hi4)) trivial ?_
 clear hH
 rintro _ _ w rfl hH
 refine zn (zr (zs (hH.q 0 rfl) (.ld (cArr 32) (stF u 31 ((u 31) &&& ~~~(128:UInt8))) (fun _ hS=>(holds_blk0 hS))) 11 ?_))
 refine ze0 1 hH rfl (.sw (cArr 32) (fun _=>0) (stF u 31 ((u 31) &&& ~~~(128:UInt8)))) trivial ?_
 clear hH
 rintro _ _ w rfl hH
 refine zn (cxRet (qxRetC 1 (hH.blk 1 rfl) rfl rfl (by kernel_rfl) (Cod.size _ _) (by kernel_rfl) ?_))
 exact ⟨rfl,HH.toBelow hH⟩
theorem xMulB_c (s u:Bt):Pure Tryz.prog 31 #[((cArr 32).val s),((cArr 32).val u)] (fun _=>True) ((cArr 32).val (xMulB s u)):=by
 refine pure_of (fn:=Tryz.f31) Tryz.func31 rfl Tryz.ntmps31 (Nat.le_of_ble_eq_true rfl) rfl ?_
 intro w0 hH hR
 refine zr (zm hH (.bx (cArr 32) s) trivial 1 ?_)
 clear hH
 rintro _ _ w ⟨g1,rfl,rfl⟩ hH
 refine zm hH (.bx (cArr 32) u) trivial 2 ?_
 clear hH
 rintro _ _ w ⟨g2,rfl,rfl⟩ hH
 refine zm hH (.al (cArr 32) (fun _=>0)) trivial 0 ?_
 clear hH
 rintro _ _ w ⟨g3,rfl,rfl⟩ hH
 refine zn (zx ?_)
 replace hH:=hH.drew
 refine rld 0 (hH.q 0 rfl) (.ld (cArr 32) s (fun _ hS=>(holds_blk0 hS))) 4 ?_
 refine rld 2 (hH.q 1 rfl) (.ld (cArr 32) u (fun _ hS=>(holds_blk0 hS))) 4 ?_
 refine rx1k 1 (rpc 1 Tryz.func52 (xNm_c s) trivial hH 2 (.keep (pgo [] (.nil _ []))) ?_)
 clear hH
 intro w hH
 refine ⟨pcons (hH.blk 1 rfl) pnil,?_⟩
 refine rx1k 3 (rpc 3 Tryz.func53 (xPt_c u) trivial hH 2 (pgo [] (.nil _ [])) ?_)
 clear hH
 intro w hH
 refine ⟨pnil,?_⟩
 refine rx1k 4 (rpc 4 Tryz.func51 (xPr_c (xNm s) (xPt u)) trivial hH 3 (.nil _ []) ?_)
 clear hH
 intro w hH
 refine ⟨pnil,rx1k 5 ?_⟩
 refine re0 5 2 hH rfl (.sw (cArr 32) (fun _=>0) (xPr (xNm s) (xPt u))) trivial (.nil _ []) ?_
 clear hH
 rintro _ _ w rfl hH
 refine ⟨pnil,rn ?_⟩
 refine cxRet (qxRetC 1 (hH.blk 2 rfl) rfl rfl (by kernel_rfl) (Cod.size _ _) (by kernel_rfl) ?_)
 exact ⟨rfl,HH.toBelow hH⟩
theorem xPub_c (s:Bt):Pure Tryz.prog 14 #[((cArr 32).val s)] (fun _=>True) ((cArr 32).val (xPub s)):=by
 refine pure_of (fn:=Tryz.f14) Tryz.func14 rfl Tryz.ntmps14 (Nat.le_of_ble_eq_true rfl) rfl ?_
 intro w0 hH hR
 refine zr (zm hH (.bx (cArr 32) s) trivial 1 ?_)
 clear hH
 rintro _ _ w ⟨g1,rfl,rfl⟩ hH
 refine zm hH (.al (cArr 32) (fun _=>0)) trivial 0 ?_
 clear hH
 rintro _ _ w ⟨g2,rfl,rfl⟩ hH
 refine zn (zr (zs (hH.q 0 rfl) (.ld (cArr 32) s (fun _ hS=>(holds_blk0 hS))) 2 ?_))
 refine zv (v:=((cArr 32).val nineE)) (fun _ _ hF=>opBuildP (cells:=(cArr 32).enc nineE) (vals:=[(0,(.int .u8 9))]) rfl (EvP.cons (v:=(.int .u8 9)) rfl EvP.nil) (by kernel_rfl) _) 0 ?_
 refine zc Tryz.func31 (xMulB_c s nineE) trivial hH 3 ?_
 clear hH
 intro w hH
 refine ze0 1 hH rfl (.sw (cArr 32) (fun _=>0) (xMulB s nineE)) trivial ?_
 clear hH
 rintro _ _ w rfl hH
 refine zn (cxRet (qxRetC 1 (hH.blk 1 rfl) rfl rfl (by kernel_rfl) (Cod.size _ _) (by kernel_rfl) ?_))
 exact ⟨rfl,HH.toBelow hH⟩
end Go.Proofs.YtajppfmjbkebfaaGreatDoor

namespace Go.Proofs.YtajppfmjbkebfaaGreatDoor
open Go Go.RowKit
set_option maxRecDepth 100000
theorem row_of {f g:Nat→UInt8} (h:lst 32 f=lst 32 g):(cArr 32).enc f=(cArr 32).enc g:=by
 show row 32 f=row 32 g
 apply Array.toList_inj.1
 rw [← flat_lst,← flat_lst,h]
def shE (r:Nat→UInt8):Nat:=if lst 32 r=lst 32 (fun _=>0) then 2 else 0
theorem shared_p (s u:Nat→UInt8):Pure Tryz.prog 13 #[((cArr 32).val s),((cArr 32).val u)] (fun _=>True) (.tuple #[(cArr 32).val (xMulB s u),.int .i64 ((shE (xMulB s u):Nat):Int)]):=by
 refine pure_of (fn:=Tryz.f13) Tryz.func13 rfl Tryz.ntmps13 (Nat.le_of_ble_eq_true rfl) rfl ?_
 intro w0 hH hR
 refine zr (zm hH (.bx (cArr 32) s) trivial 1 ?_)
 clear hH
 rintro _ _ w ⟨g1,rfl,rfl⟩ hH
 refine zm hH (.bx (cArr 32) u) trivial 2 ?_
 clear hH
 rintro _ _ w ⟨g2,rfl,rfl⟩ hH
 refine zm hH (.al (cArr 32) (fun _=>0)) trivial 0 ?_
 clear hH
 rintro _ _ w ⟨g3,rfl,rfl⟩ hH
 refine zv .mv 0 ?_
 refine zn (zr (zs (hH.q 0 rfl) (.ld (cArr 32) s (fun _ hS=>(holds_blk0 hS))) 9 ?_))
 refine zs (hH.q 1 rfl) (.ld (cArr 32) u (fun _ hS=>(holds_blk0 hS))) 4 ?_
 refine zc Tryz.func31 (xMulB_c s u) trivial hH 3 ?_
 clear hH
 intro w hH
 refine zm hH (.al (cArr 32) (fun _=>0)) trivial 0 ?_
 clear hH
 rintro _ _ w ⟨g4,rfl,rfl⟩ hH
 refine ze0 3 hH rfl (.sw (cArr 32) (fun _=>0) (xMulB s u)) trivial ?_
 clear hH
 rintro _ _ w rfl hH
 refine zn (cxSeq (zr (zs (hH.q 3 rfl) (.ld (cArr 32) (xMulB s u) (fun _ hS=>(holds_blk0 hS))) 2 ?_)))
 refine zv (v:=((cArr 32).val (fun _=>0))) (fun _ _ hF=>opBuildP (cells:=(cArr 32).enc (fun _=>0)) (vals:=[]) rfl EvP.nil (by kernel_rfl) _) 0 ?_
 refine zv (v:=(.bool (decide (lst 32 (xMulB s u)=lst 32 (fun _=>0))))) (fun _ _ hF=>opEqA (n:=32) (e:=5) (f:=(xMulB s u)) (g:=(fun _=>0)) rfl (by kernel_rfl) (by kernel_rfl) (by kernel_rfl) (hF.ev 1 rfl) (hF.ev 0 rfl) (by kernel_rfl) Iff.rfl) 3 ?_
 refine zn ?_
 refine zP (fun hc5 => ?_) (fun hc5 => ?_)
 refine zr (zv (v:=((cArr 32).val (fun _=>0))) (fun _ _ hF=>opBuildP (cells:=(cArr 32).enc (fun _=>0)) (vals:=[]) rfl EvP.nil (by kernel_rfl) _) 3 ?_)
 refine ze0 2 hH rfl (.sw (cArr 32) (fun _=>0) (fun _=>0)) trivial ?_
 clear hH
 rintro _ _ w rfl hH
 refine zv .mv 1 ?_
 refine zn (cxRet (qxThenR ?_))
 refine qxRetCT 1 0 (hH.blk 2 rfl) rfl rfl rfl (by kernel_rfl) (Cod.size _ _) (by kernel_rfl) ?_
 have he:shE (xMulB s u)=2:=if_pos hc5
 have hz:(cArr 32).enc (fun _=>0)=(cArr 32).enc (xMulB s u):=(row_of hc5).symm
 exact ⟨by rw [he,hz]; rfl,HH.toBelow hH⟩
 refine cxSkip (qxThen (zr (zs (hH.q 3 rfl) (.ld (cArr 32) (xMulB s u) (fun _ hS=>(holds_blk0 hS))) 3 ?_)))
 refine ze0 2 hH rfl (.sw (cArr 32) (fun _=>0) (xMulB s u)) trivial ?_
 clear hH
 rintro _ _ w rfl hH
 refine zv .mv 1 ?_
 refine zn (cxRet (qxRetCT 1 0 (hH.blk 2 rfl) rfl rfl rfl (by kernel_rfl) (Cod.size _ _) (by kernel_rfl) ?_))
 have he:shE (xMulB s u)=0:=if_neg hc5
 exact ⟨by rw [he]; rfl,HH.toBelow hH⟩
theorem rshared_p (s u:Nat→UInt8):Pure Tryz.prog 20 #[((cArr 32).val s),((cArr 32).val u)] (fun _=>True) (.tuple #[(cArr 32).val (dMul s u),.int .i64 ((shE (dMul s u):Nat):Int)]):=by
 refine pure_of (fn:=Tryz.f20) Tryz.func20 rfl Tryz.ntmps20 (Nat.le_of_ble_eq_true rfl) rfl ?_
 intro w0 hH hR
 refine zr (zm hH (.bx (cArr 32) s) trivial 1 ?_)
 clear hH
 rintro _ _ w ⟨g1,rfl,rfl⟩ hH
 refine zm hH (.bx (cArr 32) u) trivial 2 ?_
 clear hH
 rintro _ _ w ⟨g2,rfl,rfl⟩ hH
 refine zm hH (.al (cArr 32) (fun _=>0)) trivial 0 ?_
 clear hH
 rintro _ _ w ⟨g3,rfl,rfl⟩ hH
 refine zv .mv 0 ?_
 refine zn (zr (zs (hH.q 0 rfl) (.ld (cArr 32) s (fun _ hS=>(holds_blk0 hS))) 9 ?_))
 refine zs (hH.q 1 rfl) (.ld (cArr 32) u (fun _ hS=>(holds_blk0 hS))) 4 ?_
 refine zc Tryz.func39 (rMul_p s u) trivial hH 3 ?_
 clear hH
 intro w hH
 refine zm hH (.al (cArr 32) (fun _=>0)) trivial 0 ?_
 clear hH
 rintro _ _ w ⟨g4,rfl,rfl⟩ hH
 refine ze0 3 hH rfl (.sw (cArr 32) (fun _=>0) (dMul s u)) trivial ?_
 clear hH
 rintro _ _ w rfl hH
 refine zn (cxSeq (zr (zs (hH.q 3 rfl) (.ld (cArr 32) (dMul s u) (fun _ hS=>(holds_blk0 hS))) 2 ?_)))
 refine zv (v:=((cArr 32).val (fun _=>0))) (fun _ _ hF=>opBuildP (cells:=(cArr 32).enc (fun _=>0)) (vals:=[]) rfl EvP.nil (by kernel_rfl) _) 0 ?_
 refine zv (v:=(.bool (decide (lst 32 (dMul s u)=lst 32 (fun _=>0))))) (fun _ _ hF=>opEqA (n:=32) (e:=5) (f:=(dMul s u)) (g:=(fun _=>0)) rfl (by kernel_rfl) (by kernel_rfl) (by kernel_rfl) (hF.ev 1 rfl) (hF.ev 0 rfl) (by kernel_rfl) Iff.rfl) 3 ?_
 refine zn ?_
 refine zP (fun hc5 => ?_) (fun hc5 => ?_)
 refine zr (zs (hH.q 3 rfl) (.ld (cArr 32) (dMul s u) (fun _ hS=>(holds_blk0 hS))) 3 ?_)
 refine ze0 2 hH rfl (.sw (cArr 32) (fun _=>0) (dMul s u)) trivial ?_
 clear hH
 rintro _ _ w rfl hH
 refine zv .mv 1 ?_
 refine zn (cxRet (qxThenR ?_))
 refine qxRetCT 1 0 (hH.blk 2 rfl) rfl rfl rfl (by kernel_rfl) (Cod.size _ _) (by kernel_rfl) ?_
 have he:shE (dMul s u)=2:=if_pos hc5
 exact ⟨by rw [he]; rfl,HH.toBelow hH⟩
 refine cxSkip (qxThen (zr (zs (hH.q 3 rfl) (.ld (cArr 32) (dMul s u) (fun _ hS=>(holds_blk0 hS))) 3 ?_)))
 refine ze0 2 hH rfl (.sw (cArr 32) (fun _=>0) (dMul s u)) trivial ?_
 clear hH
 rintro _ _ w rfl hH
 refine zv .mv 1 ?_
 refine zn (cxRet (qxRetCT 1 0 (hH.blk 2 rfl) rfl rfl rfl (by kernel_rfl) (Cod.size _ _) (by kernel_rfl) ?_))
 have he:shE (dMul s u)=0:=if_neg hc5
 exact ⟨by rw [he]; rfl,HH.toBelow hH⟩
theorem rpub_p (s:Nat→UInt8):Pure Tryz.prog 21 #[((cArr 32).val s)] (fun _=>True) ((cArr 32).val (dMul s nineE)):=by
 refine pure_of (fn:=Tryz.f21) Tryz.func21 rfl Tryz.ntmps21 (Nat.le_of_ble_eq_true rfl) rfl ?_
 intro w0 hH hR
 refine zr (zm hH (.bx (cArr 32) s) trivial 1 ?_)
 clear hH
 rintro _ _ w ⟨g1,rfl,rfl⟩ hH
 refine zm hH (.al (cArr 32) (fun _=>0)) trivial 0 ?_
 clear hH
 rintro _ _ w ⟨g2,rfl,rfl⟩ hH
 refine zn (zr (zs (hH.q 0 rfl) (.ld (cArr 32) s (fun _ hS=>(holds_blk0 hS))) 2 ?_))
 refine zv (v:=((cArr 32).val nineE)) (fun _ _ hF=>opBuildP (cells:=(cArr 32).enc nineE) (vals:=[(0,(.int .u8 9))]) rfl (EvP.cons (v:=(.int .u8 9)) rfl EvP.nil) (by kernel_rfl) _) 0 ?_
 refine zc Tryz.func39 (rMul_p s nineE) trivial hH 3 ?_
 clear hH
 intro w hH
 refine ze0 1 hH rfl (.sw (cArr 32) (fun _=>0) (dMul s nineE)) trivial ?_
 clear hH
 rintro _ _ w rfl hH
 refine zn (cxRet (qxRetC 1 (hH.blk 1 rfl) rfl rfl (by kernel_rfl) (Cod.size _ _) (by kernel_rfl) ?_))
 exact ⟨rfl,HH.toBelow hH⟩
theorem xPub_is (s:Nat→UInt8):xPub s=dMul s nineE:=xMulB_is s nineE
end Go.Proofs.YtajppfmjbkebfaaGreatDoor

namespace Go.Proofs.YtajppfmjbkebfaaGreatDoor
open Go Go.RowKit
def b4 (n:Nat):List UInt8:=[UInt8.ofNat (n / 2^24),UInt8.ofNat (n / 2^16),UInt8.ofNat (n / 2^8),UInt8.ofNat n]
theorem b4_len (n:Nat):(b4 n).length=4:=rfl
def kpL (t:Nat) (a:UInt8) (p:Nat→UInt8):List UInt8:=[[6],b4 t,[a],b4 32,lst 32 p].flatten
def hfL (l:List UInt8):List UInt8:=[[155],b4 l.length,l].flatten
theorem kpL_len (t:Nat) (a:UInt8) (p:Nat→UInt8):(kpL t a p).length=42:=by
 unfold kpL
 simp [b4_len,lst_len]
theorem hfL_len (l:List UInt8):(hfL l).length=l.length+5:=by
 unfold hfL
 simp [b4_len]
 omega
section
variable {P:Program} {a:Act} {o:Oper} {w:World} {x y:Operand} {t:TypeId}
theorem opIdx1 {i n:Nat} {e:TypeId} {cs:Array Value} {v:Value} {k:IntKind} (ho:o.op=.index t x y) (hu:P.underlying t=some (.array n e)) (he:(P.underlying e).map (·.isRow)=some false) (hs:(P.info? e).map (·.size)=some 1) (hx:a.eval x=.agg cs) (hy:a.eval y=.int k (i:Int)) (hi:i<n) (hv:cs[i]?=some v):(execOp a.eval o).run P w=.ok (.value v) w:=by
 obtain ⟨d,hd,hdr⟩:=Option.map_eq_some_iff.1 he
 obtain ⟨q,hq,hqs⟩:=Option.map_eq_some_iff.1 hs
 have hp:(part e cs (i*1)).run P w=.ok v w:=by
  rw [Nat.mul_one]
  simp [part,isAgg,run_underlying hd,hv]
  cases d <;> first | rfl | cases hdr
 unfold execOp
 simp only [ho,hx,hy,Sem.run_bind,Sem.run_pure]
 have hr2:(Instr.index t (.agg cs) (.int k (i:Int))).run P w=.ok v w:=by
  simp [Instr.index,asIntOf,run_underlying hu,sizeOf,typeInfo,hq,hqs,hi]
  simpa using hp
 rw [hr2]; rfl
end
def ov32 (f:Nat→UInt8) (i:Nat) (g:Nat→UInt8):Nat→UInt8:=fun j=>if i*32≤j∧j<i*32+32 then g (j - i*32) else f j
theorem put_32 {n:Nat} (f g:Nat→UInt8) (i:Nat):putL ((cArr n).enc f) (i*32) ((cArr 32).enc g).toList=(cArr n).enc (ov32 f i g):=by
 apply Array.ext_getElem?
 intro k
 have hsz:((cArr n).enc f).size=n:=(cArr n).size f
 have hl:((cArr 32).enc g).toList.length=32:=by rw [Array.length_toList,(cArr 32).size]; rfl
 rw [putL_get,hsz,hl]
 have e1:∀ h:Nat→UInt8,∀ m q,q<m→((cArr m).enc h)[q]?=some (by8 (h q)):=fun h m q hq=>row_get m h q hq
 by_cases hk:k<n
 ·rw [show ((cArr n).enc (ov32 f i g))[k]?=some (by8 (ov32 f i g k)) from e1 _ n k hk]
  unfold ov32
  by_cases h2:i*32≤k∧k<i*32+32
  ·rw [if_pos ⟨h2.1,h2.2,hk⟩,if_pos h2,Array.getElem?_toList,e1 g 32 (k - i*32) (by omega)]
  ·rw [if_neg (fun h=>h2 ⟨h.1,h.2.1⟩),if_neg h2,e1 f n k hk]
 ·rw [if_neg (fun h=>hk h.2.2),Array.getElem?_eq_none (by rw [hsz]; omega),Array.getElem?_eq_none (by rw [(cArr n).size]; show n≤k; omega)]
abbrev cCe:Cod (Nat×(Nat→UInt8)×(Nat→UInt8)×(Nat→UInt8)):=cPair (cNat .u32) (cPair (cArr 32) (cPair (cArr 32) (cArr 64)))
def prB (S:List UInt8→Nat→UInt8) (t:Nat) (s b:Nat→UInt8):Nat→UInt8:=ov32 (ov32 (fun _=>0) 0 (S (hfL (kpL t 27 s)))) 1 (S (hfL (kpL t 25 b)))
def certD (S:List UInt8→Nat→UInt8) (t:Nat) (s b:Nat→UInt8):Nat×(Nat→UInt8)×(Nat→UInt8)×(Nat→UInt8):=(t,s,b,prB S t s b)
end Go.Proofs.YtajppfmjbkebfaaGreatDoor

namespace Go.Proofs.YtajppfmjbkebfaaGreatDoor
open Go Go.RowKit
set_option maxRecDepth 100000
theorem one_c  : Pure Tryz.prog 147 #[] (fun _=>True) ((cArr 32).val oneB):=by
 refine pure_of (fn:=Tryz.f147) Tryz.func147 rfl Tryz.ntmps147 (Nat.le_of_ble_eq_true rfl) rfl ?_
 intro w0 hH hR
 refine zr (zm hH (.al (cArr 32) (fun _=>0)) trivial 0 ?_)
 clear hH
 rintro _ _ w ⟨g1,rfl,rfl⟩ hH
 refine zn (zr (zv (v:=((cArr 32).val oneB)) (fun _ _ hF=>opBuildP (cells:=(cArr 32).enc oneB) (vals:=[(0,(.int .u8 1))]) rfl (EvP.cons (v:=(.int .u8 1)) rfl EvP.nil) (by kernel_rfl) _) 0 ?_))
 refine ze0 0 hH rfl (.sw (cArr 32) (fun _=>0) oneB) trivial ?_
 clear hH
 rintro _ _ w rfl hH
 refine zn (cxRet (qxRetC 1 (hH.blk 0 rfl) rfl rfl (by kernel_rfl) (Cod.size _ _) (by kernel_rfl) ?_))
 exact ⟨rfl,HH.toBelow hH⟩
theorem dB_c  : Pure Tryz.prog 151 #[] (fun _=>True) ((cArr 32).val dB):=by
 refine pure_of (fn:=Tryz.f151) Tryz.func151 rfl Tryz.ntmps151 (Nat.le_of_ble_eq_true rfl) rfl ?_
 intro w0 hH hR
 refine zr (zm hH (.al (cArr 32) (fun _=>0)) trivial 0 ?_)
 clear hH
 rintro _ _ w ⟨g1,rfl,rfl⟩ hH
 refine zn (zr (zv (v:=((cArr 32).val dB)) (fun _ _ hF=>opBuildP (cells:=(cArr 32).enc dB) (vals:=[(0,(.int .u8 163)),(1,(.int .u8 120)),(2,(.int .u8 89)),(3,(.int .u8 19)),(4,(.int .u8 202)),(5,(.int .u8 77)),(6,(.int .u8 235)),(7,(.int .u8 117)),(8,(.int .u8 171)),(9,(.int .u8 216)),(10,(.int .u8 65)),(11,(.int .u8 65)),(12,(.int .u8 77)),(13,(.int .u8 10)),(14,(.int .u8 112)),(15,(.int .u8 0)),(16,(.int .u8 152)),(17,(.int .u8 232)),(18,(.int .u8 121)),(19,(.int .u8 119)),(20,(.int .u8 121)),(21,(.int .u8 64)),(22,(.int .u8 199)),(23,(.int .u8 140)),(24,(.int .u8 115)),(25,(.int .u8 254)),(26,(.int .u8 111)),(27,(.int .u8 43)),(28,(.int .u8 238)),(29,(.int .u8 108)),(30,(.int .u8 3)),(31,(.int .u8 82))]) rfl (EvP.cons (v:=(.int .u8 163)) rfl (EvP.cons (v:=(.int .u8 120)) rfl (EvP.cons (v:=(.int .u8 89)) rfl (EvP.cons (v:=(.int .u8 19)) rfl (EvP.cons (v:=(.int .u8 202)) rfl (EvP.cons (v:=(.int .u8 77)) rfl (EvP.cons (v:=(.int .u8 235)) rfl (EvP.cons (v:=(.int .u8 117)) rfl (EvP.cons (v:=(.int .u8 171)) rfl (EvP.cons (v:=(.int .u8 216)) rfl (EvP.cons (v:=(.int .u8 65)) rfl (EvP.cons (v:=(.int .u8 65)) rfl (EvP.cons (v:=(.int .u8 77)) rfl (EvP.cons (v:=(.int .u8 10)) rfl (EvP.cons (v:=(.int .u8 112)) rfl (EvP.cons (v:=(.int .u8 0)) rfl (EvP.cons (v:=(.int .u8 152)) rfl (EvP.cons (v:=(.int .u8 232)) rfl (EvP.cons (v:=(.int .u8 121)) rfl (EvP.cons (v:=(.int .u8 119)) rfl (EvP.cons (v:=(.int .u8 121)) rfl (EvP.cons (v:=(.int .u8 64)) rfl (EvP.cons (v:=(.int .u8 199)) rfl (EvP.cons (v:=(.int .u8 140)) rfl (EvP.cons (v:=(.int .u8 115)) rfl (EvP.cons (v:=(.int .u8 254)) rfl (EvP.cons (v:=(.int .u8 111)) rfl (EvP.cons (v:=(.int .u8 43)) rfl (EvP.cons (v:=(.int .u8 238)) rfl (EvP.cons (v:=(.int .u8 108)) rfl (EvP.cons (v:=(.int .u8 3)) rfl (EvP.cons (v:=(.int .u8 82)) rfl EvP.nil)))))))))))))))))))))))))))))))) (by kernel_rfl) _) 0 ?_))
 refine ze0 0 hH rfl (.sw (cArr 32) (fun _=>0) dB) trivial ?_
 clear hH
 rintro _ _ w rfl hH
 refine zn (cxRet (qxRetC 1 (hH.blk 0 rfl) rfl rfl (by kernel_rfl) (Cod.size _ _) (by kernel_rfl) ?_))
 exact ⟨rfl,HH.toBelow hH⟩
theorem plOf_c (a:Bt×Bt):Pure Tryz.prog 146 #[(cPr.val a)] (fun _=>True) (cPl.val (plOf a)):=by
 refine pure_of (fn:=Tryz.f146) Tryz.func146 rfl Tryz.ntmps146 (Nat.le_of_ble_eq_true rfl) rfl ?_
 intro w0 hH hR
 refine zr (zm hH (.bx cPr a) trivial 1 ?_)
 clear hH
 rintro _ _ w ⟨g1,rfl,rfl⟩ hH
 refine zm hH (.al cPl (fun _=>0,fun _=>0,fun _=>0,fun _=>0)) trivial 0 ?_
 clear hH
 rintro _ _ w ⟨g2,rfl,rfl⟩ hH
 refine zn (zx ?_)
 replace hH:=hH.drew
 refine rv 0 (.fld 0) 0 ?_
 refine rld 1 (hH.q 0 rfl) (.ld (cArr 32) a.1 (fun _ hS=>(holds_blk0 hS).fst)) 1 ?_
 refine rv 2 (.fld 32) 0 ?_
 refine rld 3 (hH.q 0 rfl) (.ld (cArr 32) a.2 (fun _ hS=>(holds_blk0 hS).snd)) 1 ?_
 refine rv 5 (.fld 0) 0 ?_
 refine rld 6 (hH.q 0 rfl) (.ld (cArr 32) a.1 (fun _ hS=>(holds_blk0 hS).fst)) 1 ?_
 refine rv 7 (.fld 32) 16 ?_
 refine rld 8 (hH.q 0 rfl) (.ld (cArr 32) a.2 (fun _ hS=>(holds_blk0 hS).snd)) 1 ?_
 refine rx1k 4 (rpc 4 Tryz.func147 (one_c ) trivial hH 0 (.keep (.keep (.keep (.keep (.nil _ []))))) ?_)
 clear hH
 intro w hH
 refine ⟨pcons (hH.blk 0 rfl) (pcons (hH.blk 0 rfl) (pcons (hH.blk 0 rfl) (pcons (hH.blk 0 rfl) pnil))),?_⟩
 refine rx1k 9 (rpc 9 Tryz.func96 (fM_c a.1 a.2) trivial hH 6 (pgo [] (pgo [] (.keep (.keep (.nil _ []))))) ?_)
 clear hH
 intro w hH
 refine ⟨pcons (hH.blk 0 rfl) (pcons (hH.blk 0 rfl) pnil),?_⟩
 refine rv 10 (v:=(cPl.val (a.1,a.2,oneB,(fM a.1 a.2)))) (fun _ _ hF=>opBuildP (cells:=cPl.enc (a.1,a.2,oneB,(fM a.1 a.2))) rfl (EvP.cons (v:=((cArr 32).val a.1)) (hF.ev 3 rfl) (EvP.cons (v:=((cArr 32).val a.2)) (hF.ev 2 rfl) (EvP.cons (v:=((cArr 32).val oneB)) (hF.ev 1 rfl) (EvP.cons (v:=((cArr 32).val (fM a.1 a.2))) (hF.ev 0 rfl) EvP.nil)))) (built_4 (x:=((a.1,a.2,oneB,(fM a.1 a.2)):Bt×Bt×Bt×Bt)) (by kernel_rfl) rfl rfl rfl rfl) _) 15 ?_
 refine rx1k 11 ?_
 refine re0 11 1 hH rfl (.sw cPl (fun _=>0,fun _=>0,fun _=>0,fun _=>0) (a.1,a.2,oneB,(fM a.1 a.2))) trivial (pgo [] (pgo [] (.nil _ []))) ?_
 clear hH
 rintro _ _ w rfl hH
 refine ⟨pnil,rn ?_⟩
 refine cxRet (qxRetC 1 (hH.blk 1 rfl) rfl rfl (by kernel_rfl) (Cod.size _ _) (by kernel_rfl) ?_)
 exact ⟨rfl,HH.toBelow hH⟩
theorem stOf_c (a:Bt×Bt):Pure Tryz.prog 114 #[(cPr.val a)] (fun _=>True) (cSt.val (stOf a)):=by
 refine pure_of (fn:=Tryz.f114) Tryz.func114 rfl Tryz.ntmps114 (Nat.le_of_ble_eq_true rfl) rfl ?_
 intro w0 hH hR
 refine zr (zm hH (.bx cPr a) trivial 1 ?_)
 clear hH
 rintro _ _ w ⟨g1,rfl,rfl⟩ hH
 refine zm hH (.al cSt (fun _=>0,fun _=>0,fun _=>0)) trivial 0 ?_
 clear hH
 rintro _ _ w ⟨g2,rfl,rfl⟩ hH
 refine zn (zx ?_)
 replace hH:=hH.drew
 refine rxPg 0 [pv 0 4 [] [] fun G=>((cArr 32).val dB),pv 1 5 [] [] fun G=>(.pointer (some ⟨g1,0,none⟩)),ldv 2 6 [1] [] [1000] fun G=>((cArr 32).val a.1),pv 3 7 [] [] fun G=>(.pointer (some ⟨g1,32,none⟩)),ldv 4 8 [3] [] [1000] fun G=>((cArr 32).val a.2),pv 5 9 [2,4] [] fun G=>((cArr 32).val (fM a.1 a.2)),pv 6 10 [0,5] [] fun G=>((cArr 32).val (fM dB (fM a.1 a.2))),alv 7 3 [] [] fun G g=>[bl g 22 ((cArr 32).enc (fun _=>0))],stv 8 [6,7] [7] 7 fun G=>[bl (G 7).g 22 ((cArr 32).enc (fM dB (fM a.1 a.2)))]] (fun G=>[(3,(.pointer (some ⟨(G 7).g,0,none⟩))),(2,(.pointer (some ⟨g2,0,none⟩))),(1,(.pointer (some ⟨g1,0,none⟩)))]) (fun G=>[[bl g1 144 (cPr.enc a)],[bl g2 152 (cSt.enc (fun _=>0,fun _=>0,fun _=>0))],[bl (G 7).g 22 ((cArr 32).enc (fM dB (fM a.1 a.2)))]]) hH (.c (Sp.c Tryz.func151 (fun G=>(dB_c )) fun _=>trivial) <| .c (.v fun G=>(.fld 0)) <| .c (.ld (fun G _ _ hH=>(hH.q 0 rfl)) fun G=>(.ld (cArr 32) a.1 (fun _ hS=>(holds_blk0 hS).fst))) <| .c (.v fun G=>(.fld 32)) <| .c (.ld (fun G _ _ hH=>(hH.q 0 rfl)) fun G=>(.ld (cArr 32) a.2 (fun _ hS=>(holds_blk0 hS).snd))) <| .c (Sp.c Tryz.func96 (fun G=>(fM_c a.1 a.2)) fun _=>trivial) <| .c (Sp.c Tryz.func96 (fun G=>(fM_c dB (fM a.1 a.2))) fun _=>trivial) <| .c (.a (fun _ _ _ _=>trivial) (fun G=>(.al (cArr 32) (fun _=>0))) fun _ _ _ h=>h) <| .c (.tn (fun G=>(.sw (cArr 32) (fun _=>0) (fM dB (fM a.1 a.2)))) (fun _ _ _ _=>trivial) fun _ _ _ h=>h) <| .nil) ?_
 clear hH
 rintro G w - hH
 revert hH
 generalize (G 7).g=g3
 intro hH
 refine rn ?_
 refine zx ?_
 replace hH:=hH.drew
 refine rv 0 (.fld 32) 0 ?_
 refine rld 1 (hH.q 0 rfl) (.ld (cArr 32) a.2 (fun _ hS=>(holds_blk0 hS).snd)) 1 ?_
 refine rv 2 (.fld 0) 0 ?_
 refine rld 3 (hH.q 0 rfl) (.ld (cArr 32) a.1 (fun _ hS=>(holds_blk0 hS).fst)) 1 ?_
 refine rv 5 (.fld 32) 0 ?_
 refine rld 6 (hH.q 0 rfl) (.ld (cArr 32) a.2 (fun _ hS=>(holds_blk0 hS).snd)) 1 ?_
 refine rv 7 (.fld 0) 32 ?_
 refine rld 8 (hH.q 0 rfl) (.ld (cArr 32) a.1 (fun _ hS=>(holds_blk0 hS).fst)) 1 ?_
 refine rld 10 (hH.q 2 rfl) (.ld (cArr 32) (fM dB (fM a.1 a.2)) (fun _ hS=>(holds_blk0 hS))) 0 ?_
 refine rld 11 (hH.q 2 rfl) (.ld (cArr 32) (fM dB (fM a.1 a.2)) (fun _ hS=>(holds_blk0 hS))) 32 ?_
 refine rx1k 4 (rpc 4 Tryz.func134 (fS_c a.2 a.1) trivial hH 48 (.keep (.keep (.keep (.keep (pgo [] (pgo [] (.nil _ []))))))) ?_)
 clear hH
 intro w hH
 refine ⟨pcons (hH.blk 2 rfl) (pcons (hH.blk 2 rfl) (pcons (hH.blk 0 rfl) (pcons (hH.blk 0 rfl) pnil))),?_⟩
 refine rx1k 9 (rpc 9 Tryz.func133 (fA_c a.2 a.1) trivial hH 24 (.keep (.keep (pgo [] (pgo [] (.nil _ []))))) ?_)
 clear hH
 intro w hH
 refine ⟨pcons (hH.blk 2 rfl) (pcons (hH.blk 2 rfl) pnil),?_⟩
 refine rx1k 12 (rpc 12 Tryz.func133 (fA_c (fM dB (fM a.1 a.2)) (fM dB (fM a.1 a.2))) trivial hH 12 (pgo [] (pgo [] (.nil _ []))) ?_)
 clear hH
 intro w hH
 refine ⟨pnil,rv 13 (v:=(cSt.val ((fS a.2 a.1),(fA a.2 a.1),(fA (fM dB (fM a.1 a.2)) (fM dB (fM a.1 a.2)))))) (fun _ _ hF=>opBuildP (cells:=cSt.enc ((fS a.2 a.1),(fA a.2 a.1),(fA (fM dB (fM a.1 a.2)) (fM dB (fM a.1 a.2))))) rfl (EvP.cons (v:=((cArr 32).val (fS a.2 a.1))) (hF.ev 2 rfl) (EvP.cons (v:=((cArr 32).val (fA a.2 a.1))) (hF.ev 1 rfl) (EvP.cons (v:=((cArr 32).val (fA (fM dB (fM a.1 a.2)) (fM dB (fM a.1 a.2))))) (hF.ev 0 rfl) EvP.nil))) (built_3 (x:=(((fS a.2 a.1),(fA a.2 a.1),(fA (fM dB (fM a.1 a.2)) (fM dB (fM a.1 a.2)))):Bt×Bt×Bt)) (by kernel_rfl) rfl rfl rfl) _) 7 ?_⟩
 refine rx1k 14 ?_
 refine re0 14 1 hH rfl (.sw cSt (fun _=>0,fun _=>0,fun _=>0) ((fS a.2 a.1),(fA a.2 a.1),(fA (fM dB (fM a.1 a.2)) (fM dB (fM a.1 a.2))))) trivial (.nil _ []) ?_
 clear hH
 rintro _ _ w rfl hH
 refine ⟨pnil,rn ?_⟩
 refine cxRet (qxRetC 1 (hH.blk 1 rfl) rfl rfl (by kernel_rfl) (Cod.size _ _) (by kernel_rfl) ?_)
 exact ⟨rfl,HH.toBelow hH⟩
theorem plAt_c (e f g h:Bt):Pure Tryz.prog 172 #[((cArr 32).val e),((cArr 32).val f),((cArr 32).val g),((cArr 32).val h)] (fun _=>True) (cPl.val (plAt e f g h)):=by
 refine pure_of (fn:=Tryz.f172) Tryz.func172 rfl Tryz.ntmps172 (Nat.le_of_ble_eq_true rfl) rfl ?_
 intro w0 hH hR
 refine zr (zm hH (.bx (cArr 32) e) trivial 1 ?_)
 clear hH
 rintro _ _ w ⟨g1,rfl,rfl⟩ hH
 refine zm hH (.bx (cArr 32) f) trivial 2 ?_
 clear hH
 rintro _ _ w ⟨g2,rfl,rfl⟩ hH
 refine zm hH (.bx (cArr 32) g) trivial 4 ?_
 clear hH
 rintro _ _ w ⟨g3,rfl,rfl⟩ hH
 refine zm hH (.bx (cArr 32) h) trivial 8 ?_
 clear hH
 rintro _ _ w ⟨g4,rfl,rfl⟩ hH
 refine zm hH (.al cPl (fun _=>0,fun _=>0,fun _=>0,fun _=>0)) trivial 0 ?_
 clear hH
 rintro _ _ w ⟨g5,rfl,rfl⟩ hH
 refine zn (zx ?_)
 replace hH:=hH.drew
 refine rld 0 (hH.q 0 rfl) (.ld (cArr 32) e (fun _ hS=>(holds_blk0 hS))) 0 ?_
 refine rld 1 (hH.q 1 rfl) (.ld (cArr 32) f (fun _ hS=>(holds_blk0 hS))) 0 ?_
 refine rld 3 (hH.q 2 rfl) (.ld (cArr 32) g (fun _ hS=>(holds_blk0 hS))) 0 ?_
 refine rld 4 (hH.q 3 rfl) (.ld (cArr 32) h (fun _ hS=>(holds_blk0 hS))) 0 ?_
 refine rld 6 (hH.q 1 rfl) (.ld (cArr 32) f (fun _ hS=>(holds_blk0 hS))) 128 ?_
 refine rld 7 (hH.q 2 rfl) (.ld (cArr 32) g (fun _ hS=>(holds_blk0 hS))) 128 ?_
 refine rld 9 (hH.q 0 rfl) (.ld (cArr 32) e (fun _ hS=>(holds_blk0 hS))) 256 ?_
 refine rld 10 (hH.q 3 rfl) (.ld (cArr 32) h (fun _ hS=>(holds_blk0 hS))) 256 ?_
 refine rx1k 2 (rpc 2 Tryz.func96 (fM_c e f) trivial hH 192 (.keep (.keep (.keep (.keep (.keep (.keep (pgo [] (pgo [] (.nil _ []))))))))) ?_)
 clear hH
 intro w hH
 refine ⟨pcons (hH.blk 3 rfl) (pcons (hH.blk 0 rfl) (pcons (hH.blk 2 rfl) (pcons (hH.blk 1 rfl) (pcons (hH.blk 3 rfl) (pcons (hH.blk 2 rfl) pnil))))),?_⟩
 refine rx1k 5 (rpc 5 Tryz.func96 (fM_c g h) trivial hH 96 (.keep (.keep (.keep (.keep (pgo [] (pgo [] (.nil _ []))))))) ?_)
 clear hH
 intro w hH
 refine ⟨pcons (hH.blk 3 rfl) (pcons (hH.blk 0 rfl) (pcons (hH.blk 2 rfl) (pcons (hH.blk 1 rfl) pnil))),?_⟩
 refine rx1k 8 (rpc 8 Tryz.func96 (fM_c f g) trivial hH 48 (.keep (.keep (pgo [] (pgo [] (.nil _ []))))) ?_)
 clear hH
 intro w hH
 refine ⟨pcons (hH.blk 3 rfl) (pcons (hH.blk 0 rfl) pnil),?_⟩
 refine rx1k 11 (rpc 11 Tryz.func96 (fM_c e h) trivial hH 24 (pgo [] (pgo [] (.nil _ []))) ?_)
 clear hH
 intro w hH
 refine ⟨pnil,rv 12 (v:=(cPl.val ((fM e f),(fM g h),(fM f g),(fM e h)))) (fun _ _ hF=>opBuildP (cells:=cPl.enc ((fM e f),(fM g h),(fM f g),(fM e h))) rfl (EvP.cons (v:=((cArr 32).val (fM e f))) (hF.ev 3 rfl) (EvP.cons (v:=((cArr 32).val (fM g h))) (hF.ev 2 rfl) (EvP.cons (v:=((cArr 32).val (fM f g))) (hF.ev 1 rfl) (EvP.cons (v:=((cArr 32).val (fM e h))) (hF.ev 0 rfl) EvP.nil)))) (built_4 (x:=(((fM e f),(fM g h),(fM f g),(fM e h)):Bt×Bt×Bt×Bt)) (by kernel_rfl) rfl rfl rfl rfl) _) 15 ?_⟩
 refine rx1k 13 ?_
 refine re0 13 4 hH rfl (.sw cPl (fun _=>0,fun _=>0,fun _=>0,fun _=>0) ((fM e f),(fM g h),(fM f g),(fM e h))) trivial (.nil _ []) ?_
 clear hH
 rintro _ _ w rfl hH
 refine ⟨pnil,rn ?_⟩
 refine cxRet (qxRetC 1 (hH.blk 4 rfl) rfl rfl (by kernel_rfl) (Cod.size _ _) (by kernel_rfl) ?_)
 exact ⟨rfl,HH.toBelow hH⟩
theorem ptA_c (a:Bt×Bt×Bt×Bt) (b:Bt×Bt×Bt):Pure Tryz.prog 148 #[(cPl.val a),(cSt.val b)] (fun _=>True) (cPl.val (ptA a b)):=by
 refine pure_of (fn:=Tryz.f148) Tryz.func148 rfl Tryz.ntmps148 (Nat.le_of_ble_eq_true rfl) rfl ?_
 intro w0 hH hR
 refine zr (zm hH (.bx cPl a) trivial 1 ?_)
 clear hH
 rintro _ _ w ⟨g1,rfl,rfl⟩ hH
 refine zm hH (.bx cSt b) trivial 2 ?_
 clear hH
 rintro _ _ w ⟨g2,rfl,rfl⟩ hH
 refine zm hH (.al cPl (fun _=>0,fun _=>0,fun _=>0,fun _=>0)) trivial 0 ?_
 clear hH
 rintro _ _ w ⟨g3,rfl,rfl⟩ hH
 refine zn (zx ?_)
 replace hH:=hH.drew
 refine rxPg 0 [pv 0 9 [] [] fun G=>(.pointer (some ⟨g1,32,none⟩)),ldv 1 10 [0] [] [1000] fun G=>((cArr 32).val a.2.1),pv 2 11 [] [] fun G=>(.pointer (some ⟨g1,0,none⟩)),ldv 3 12 [2] [] [1000] fun G=>((cArr 32).val a.1),pv 4 13 [1,3] [] fun G=>((cArr 32).val (fS a.2.1 a.1)),pv 5 14 [] [] fun G=>(.pointer (some ⟨g2,0,none⟩)),ldv 6 15 [5] [] [1001] fun G=>((cArr 32).val b.1),pv 7 16 [4,6] [] fun G=>((cArr 32).val (fM (fS a.2.1 a.1) b.1)),alv 8 5 [] [] fun G g=>[bl g 22 ((cArr 32).enc (fun _=>0))],stv 9 [7,8] [8] 8 fun G=>[bl (G 8).g 22 ((cArr 32).enc (fM (fS a.2.1 a.1) b.1))]] (fun G=>[(5,(.pointer (some ⟨(G 8).g,0,none⟩))),(4,(.pointer (some ⟨g3,0,none⟩))),(3,(.pointer (some ⟨g2,0,none⟩))),(2,(.pointer (some ⟨g1,0,none⟩)))]) (fun G=>[[bl g1 149 (cPl.enc a)],[bl g2 152 (cSt.enc b)],[bl g3 149 (cPl.enc (fun _=>0,fun _=>0,fun _=>0,fun _=>0))],[bl (G 8).g 22 ((cArr 32).enc (fM (fS a.2.1 a.1) b.1))]]) hH (.c (.v fun G=>(.fld 32)) <| .c (.ld (fun G _ _ hH=>(hH.q 0 rfl)) fun G=>(.ld (cArr 32) a.2.1 (fun _ hS=>((holds_blk0 hS).snd).fst))) <| .c (.v fun G=>(.fld 0)) <| .c (.ld (fun G _ _ hH=>(hH.q 0 rfl)) fun G=>(.ld (cArr 32) a.1 (fun _ hS=>(holds_blk0 hS).fst))) <| .c (Sp.c Tryz.func134 (fun G=>(fS_c a.2.1 a.1)) fun _=>trivial) <| .c (.v fun G=>(.fld 0)) <| .c (.ld (fun G _ _ hH=>(hH.q 0 rfl)) fun G=>(.ld (cArr 32) b.1 (fun _ hS=>(holds_blk0 hS).fst))) <| .c (Sp.c Tryz.func96 (fun G=>(fM_c (fS a.2.1 a.1) b.1)) fun _=>trivial) <| .c (.a (fun _ _ _ _=>trivial) (fun G=>(.al (cArr 32) (fun _=>0))) fun _ _ _ h=>h) <| .c (.tn (fun G=>(.sw (cArr 32) (fun _=>0) (fM (fS a.2.1 a.1) b.1))) (fun _ _ _ _=>trivial) fun _ _ _ h=>h) <| .nil) ?_
 clear hH
 rintro G w - hH
 revert hH
 generalize (G 8).g=g4
 intro hH
 refine rn ?_
 refine zx ?_
 replace hH:=hH.drew
 refine rxPg 0 [pv 0 17 [] [] fun G=>(.pointer (some ⟨g1,32,none⟩)),ldv 1 18 [0] [] [1000] fun G=>((cArr 32).val a.2.1),pv 2 19 [] [] fun G=>(.pointer (some ⟨g1,0,none⟩)),ldv 3 20 [2] [] [1000] fun G=>((cArr 32).val a.1),pv 4 21 [1,3] [] fun G=>((cArr 32).val (fA a.2.1 a.1)),pv 5 22 [] [] fun G=>(.pointer (some ⟨g2,32,none⟩)),ldv 6 23 [5] [] [1001] fun G=>((cArr 32).val b.2.1),pv 7 24 [4,6] [] fun G=>((cArr 32).val (fM (fA a.2.1 a.1) b.2.1)),alv 8 6 [] [] fun G g=>[bl g 22 ((cArr 32).enc (fun _=>0))],stv 9 [7,8] [8] 8 fun G=>[bl (G 8).g 22 ((cArr 32).enc (fM (fA a.2.1 a.1) b.2.1))]] (fun G=>[(6,(.pointer (some ⟨(G 8).g,0,none⟩))),(5,(.pointer (some ⟨g4,0,none⟩))),(4,(.pointer (some ⟨g3,0,none⟩))),(3,(.pointer (some ⟨g2,0,none⟩))),(2,(.pointer (some ⟨g1,0,none⟩)))]) (fun G=>[[bl g1 149 (cPl.enc a)],[bl g2 152 (cSt.enc b)],[bl g3 149 (cPl.enc (fun _=>0,fun _=>0,fun _=>0,fun _=>0))],[bl g4 22 ((cArr 32).enc (fM (fS a.2.1 a.1) b.1))],[bl (G 8).g 22 ((cArr 32).enc (fM (fA a.2.1 a.1) b.2.1))]]) hH (.c (.v fun G=>(.fld 32)) <| .c (.ld (fun G _ _ hH=>(hH.q 0 rfl)) fun G=>(.ld (cArr 32) a.2.1 (fun _ hS=>((holds_blk0 hS).snd).fst))) <| .c (.v fun G=>(.fld 0)) <| .c (.ld (fun G _ _ hH=>(hH.q 0 rfl)) fun G=>(.ld (cArr 32) a.1 (fun _ hS=>(holds_blk0 hS).fst))) <| .c (Sp.c Tryz.func133 (fun G=>(fA_c a.2.1 a.1)) fun _=>trivial) <| .c (.v fun G=>(.fld 32)) <| .c (.ld (fun G _ _ hH=>(hH.q 0 rfl)) fun G=>(.ld (cArr 32) b.2.1 (fun _ hS=>((holds_blk0 hS).snd).fst))) <| .c (Sp.c Tryz.func96 (fun G=>(fM_c (fA a.2.1 a.1) b.2.1)) fun _=>trivial) <| .c (.a (fun _ _ _ _=>trivial) (fun G=>(.al (cArr 32) (fun _=>0))) fun _ _ _ h=>h) <| .c (.tn (fun G=>(.sw (cArr 32) (fun _=>0) (fM (fA a.2.1 a.1) b.2.1))) (fun _ _ _ _=>trivial) fun _ _ _ h=>h) <| .nil) ?_
 clear hH
 rintro G w - hH
 revert hH
 generalize (G 8).g=g5
 intro hH
 refine rn ?_
 refine zr (zv (.fld 96) 0 ?_)
 refine zs (hH.q 0 rfl) (.ld (cArr 32) a.2.2.2 (fun _ hS=>(((holds_blk0 hS).snd).snd).snd)) 1 ?_
 refine zv (.fld 64) 16 ?_
 refine zs (hH.q 1 rfl) (.ld (cArr 32) b.2.2 (fun _ hS=>((holds_blk0 hS).snd).snd)) 1 ?_
 refine zc Tryz.func96 (fM_c a.2.2.2 b.2.2) trivial hH 3 ?_
 clear hH
 intro w hH
 refine zm hH (.al (cArr 32) (fun _=>0)) trivial 0 ?_
 clear hH
 rintro _ _ w ⟨g6,rfl,rfl⟩ hH
 refine ze0 5 hH rfl (.sw (cArr 32) (fun _=>0) (fM a.2.2.2 b.2.2)) trivial ?_
 clear hH
 rintro _ _ w rfl hH
 refine zn (zr (zv (.fld 64) 2 ?_))
 refine zs (hH.q 0 rfl) (.ld (cArr 32) a.2.2.1 (fun _ hS=>(((holds_blk0 hS).snd).snd).fst)) 1 ?_
 refine zv (.fld 64) 32 ?_
 refine zs (hH.q 0 rfl) (.ld (cArr 32) a.2.2.1 (fun _ hS=>(((holds_blk0 hS).snd).snd).fst)) 1 ?_
 refine zc Tryz.func133 (fA_c a.2.2.1 a.2.2.1) trivial hH 3 ?_
 clear hH
 intro w hH
 refine zm hH (.al (cArr 32) (fun _=>0)) trivial 0 ?_
 clear hH
 rintro _ _ w ⟨g7,rfl,rfl⟩ hH
 refine ze0 6 hH rfl (.sw (cArr 32) (fun _=>0) (fA a.2.2.1 a.2.2.1)) trivial ?_
 clear hH
 rintro _ _ w rfl hH
 refine zn (zx ?_)
 replace hH:=hH.drew
 refine rld 0 (hH.q 4 rfl) (.ld (cArr 32) (fM (fA a.2.1 a.1) b.2.1) (fun _ hS=>(holds_blk0 hS))) 2 ?_
 refine rld 1 (hH.q 3 rfl) (.ld (cArr 32) (fM (fS a.2.1 a.1) b.1) (fun _ hS=>(holds_blk0 hS))) 0 ?_
 refine rld 3 (hH.q 6 rfl) (.ld (cArr 32) (fA a.2.2.1 a.2.2.1) (fun _ hS=>(holds_blk0 hS))) 0 ?_
 refine rld 4 (hH.q 5 rfl) (.ld (cArr 32) (fM a.2.2.2 b.2.2) (fun _ hS=>(holds_blk0 hS))) 0 ?_
 refine rld 6 (hH.q 6 rfl) (.ld (cArr 32) (fA a.2.2.1 a.2.2.1) (fun _ hS=>(holds_blk0 hS))) 16 ?_
 refine rld 7 (hH.q 5 rfl) (.ld (cArr 32) (fM a.2.2.2 b.2.2) (fun _ hS=>(holds_blk0 hS))) 32 ?_
 refine rld 9 (hH.q 4 rfl) (.ld (cArr 32) (fM (fA a.2.1 a.1) b.2.1) (fun _ hS=>(holds_blk0 hS))) 64 ?_
 refine rld 10 (hH.q 3 rfl) (.ld (cArr 32) (fM (fS a.2.1 a.1) b.1) (fun _ hS=>(holds_blk0 hS))) 128 ?_
 refine rx1k 2 (rpc 2 Tryz.func134 (fS_c (fM (fA a.2.1 a.1) b.2.1) (fM (fS a.2.1 a.1) b.1)) trivial hH 192 (.keep (.keep (.keep (.keep (.keep (.keep (pgo [] (pgo [] (.nil _ []))))))))) ?_)
 clear hH
 intro w hH
 refine ⟨pcons (hH.blk 3 rfl) (pcons (hH.blk 4 rfl) (pcons (hH.blk 5 rfl) (pcons (hH.blk 6 rfl) (pcons (hH.blk 5 rfl) (pcons (hH.blk 6 rfl) pnil))))),?_⟩
 refine rx1k 5 (rpc 5 Tryz.func134 (fS_c (fA a.2.2.1 a.2.2.1) (fM a.2.2.2 b.2.2)) trivial hH 96 (.keep (.keep (.keep (.keep (pgo [] (pgo [] (.nil _ []))))))) ?_)
 clear hH
 intro w hH
 refine ⟨pcons (hH.blk 3 rfl) (pcons (hH.blk 4 rfl) (pcons (hH.blk 5 rfl) (pcons (hH.blk 6 rfl) pnil))),?_⟩
 refine rx1k 8 (rpc 8 Tryz.func133 (fA_c (fA a.2.2.1 a.2.2.1) (fM a.2.2.2 b.2.2)) trivial hH 48 (.keep (.keep (pgo [] (pgo [] (.nil _ []))))) ?_)
 clear hH
 intro w hH
 refine ⟨pcons (hH.blk 3 rfl) (pcons (hH.blk 4 rfl) pnil),?_⟩
 refine rx1k 11 (rpc 11 Tryz.func133 (fA_c (fM (fA a.2.1 a.1) b.2.1) (fM (fS a.2.1 a.1) b.1)) trivial hH 24 (pgo [] (pgo [] (.nil _ []))) ?_)
 clear hH
 intro w hH
 refine ⟨pnil,?_⟩
 refine rx1k 12 (rpc 12 Tryz.func172 (plAt_c (fS (fM (fA a.2.1 a.1) b.2.1) (fM (fS a.2.1 a.1) b.1)) (fS (fA a.2.2.1 a.2.2.1) (fM a.2.2.2 b.2.2)) (fA (fA a.2.2.1 a.2.2.1) (fM a.2.2.2 b.2.2)) (fA (fM (fA a.2.1 a.1) b.2.1) (fM (fS a.2.1 a.1) b.1))) trivial hH 15 (.nil _ []) ?_)
 clear hH
 intro w hH
 refine ⟨pnil,rx1k 13 ?_⟩
 refine re0 13 2 hH rfl (.sw cPl (fun _=>0,fun _=>0,fun _=>0,fun _=>0) (plAt (fS (fM (fA a.2.1 a.1) b.2.1) (fM (fS a.2.1 a.1) b.1)) (fS (fA a.2.2.1 a.2.2.1) (fM a.2.2.2 b.2.2)) (fA (fA a.2.2.1 a.2.2.1) (fM a.2.2.2 b.2.2)) (fA (fM (fA a.2.1 a.1) b.2.1) (fM (fS a.2.1 a.1) b.1)))) trivial (.nil _ []) ?_
 clear hH
 rintro _ _ w rfl hH
 refine ⟨pnil,rn ?_⟩
 refine cxRet (qxRetC 1 (hH.blk 2 rfl) rfl rfl (by kernel_rfl) (Cod.size _ _) (by kernel_rfl) ?_)
 exact ⟨rfl,HH.toBelow hH⟩
theorem ptD_c (a:Bt×Bt×Bt×Bt):Pure Tryz.prog 149 #[(cPl.val a)] (fun _=>True) (cPl.val (ptD a)):=by
 refine pure_of (fn:=Tryz.f149) Tryz.func149 rfl Tryz.ntmps149 (Nat.le_of_ble_eq_true rfl) rfl ?_
 intro w0 hH hR
 refine zr (zm hH (.bx cPl a) trivial 1 ?_)
 clear hH
 rintro _ _ w ⟨g1,rfl,rfl⟩ hH
 refine zm hH (.al cPl (fun _=>0,fun _=>0,fun _=>0,fun _=>0)) trivial 0 ?_
 clear hH
 rintro _ _ w ⟨g2,rfl,rfl⟩ hH
 refine zn (zx ?_)
 replace hH:=hH.drew
 refine rxPg 0 [pv 0 9 [] [] fun G=>(.pointer (some ⟨g1,0,none⟩)),ldv 1 10 [0] [] [1000] fun G=>((cArr 32).val a.1),pv 2 11 [] [] fun G=>(.pointer (some ⟨g1,0,none⟩)),ldv 3 12 [2] [] [1000] fun G=>((cArr 32).val a.1),pv 4 13 [1,3] [] fun G=>((cArr 32).val (fM a.1 a.1)),pv 5 14 [] [] fun G=>(.pointer (some ⟨g1,32,none⟩)),ldv 6 15 [5] [] [1000] fun G=>((cArr 32).val a.2.1),pv 7 16 [] [] fun G=>(.pointer (some ⟨g1,32,none⟩)),ldv 8 17 [7] [] [1000] fun G=>((cArr 32).val a.2.1),pv 9 18 [6,8] [] fun G=>((cArr 32).val (fM a.2.1 a.2.1)),pv 10 19 [] [] fun G=>(.pointer (some ⟨g1,64,none⟩)),ldv 11 20 [10] [] [1000] fun G=>((cArr 32).val a.2.2.1),pv 12 21 [] [] fun G=>(.pointer (some ⟨g1,64,none⟩)),ldv 13 22 [12] [] [1000] fun G=>((cArr 32).val a.2.2.1),pv 14 23 [11,13] [] fun G=>((cArr 32).val (fM a.2.2.1 a.2.2.1)),alv 15 3 [] [] fun G g=>[bl g 22 ((cArr 32).enc (fun _=>0))],alv 16 4 [] [] fun G g=>[bl g 22 ((cArr 32).enc (fun _=>0))],alv 17 5 [] [] fun G g=>[bl g 22 ((cArr 32).enc (fun _=>0))],stv 18 [4,15] [15] 15 fun G=>[bl (G 15).g 22 ((cArr 32).enc (fM a.1 a.1))],stv 19 [9,16] [16] 16 fun G=>[bl (G 16).g 22 ((cArr 32).enc (fM a.2.1 a.2.1))],stv 20 [14,17] [17] 17 fun G=>[bl (G 17).g 22 ((cArr 32).enc (fM a.2.2.1 a.2.2.1))]] (fun G=>[(3,(.pointer (some ⟨(G 15).g,0,none⟩))),(4,(.pointer (some ⟨(G 16).g,0,none⟩))),(5,(.pointer (some ⟨(G 17).g,0,none⟩))),(2,(.pointer (some ⟨g2,0,none⟩))),(1,(.pointer (some ⟨g1,0,none⟩)))]) (fun G=>[[bl g1 149 (cPl.enc a)],[bl g2 149 (cPl.enc (fun _=>0,fun _=>0,fun _=>0,fun _=>0))],[bl (G 15).g 22 ((cArr 32).enc (fM a.1 a.1))],[bl (G 16).g 22 ((cArr 32).enc (fM a.2.1 a.2.1))],[bl (G 17).g 22 ((cArr 32).enc (fM a.2.2.1 a.2.2.1))]]) hH (.c (.v fun G=>(.fld 0)) <| .c (.ld (fun G _ _ hH=>(hH.q 0 rfl)) fun G=>(.ld (cArr 32) a.1 (fun _ hS=>(holds_blk0 hS).fst))) <| .c (.v fun G=>(.fld 0)) <| .c (.ld (fun G _ _ hH=>(hH.q 0 rfl)) fun G=>(.ld (cArr 32) a.1 (fun _ hS=>(holds_blk0 hS).fst))) <| .c (Sp.c Tryz.func96 (fun G=>(fM_c a.1 a.1)) fun _=>trivial) <| .c (.v fun G=>(.fld 32)) <| .c (.ld (fun G _ _ hH=>(hH.q 0 rfl)) fun G=>(.ld (cArr 32) a.2.1 (fun _ hS=>((holds_blk0 hS).snd).fst))) <| .c (.v fun G=>(.fld 32)) <| .c (.ld (fun G _ _ hH=>(hH.q 0 rfl)) fun G=>(.ld (cArr 32) a.2.1 (fun _ hS=>((holds_blk0 hS).snd).fst))) <| .c (Sp.c Tryz.func96 (fun G=>(fM_c a.2.1 a.2.1)) fun _=>trivial) <| .c (.v fun G=>(.fld 64)) <| .c (.ld (fun G _ _ hH=>(hH.q 0 rfl)) fun G=>(.ld (cArr 32) a.2.2.1 (fun _ hS=>(((holds_blk0 hS).snd).snd).fst))) <| .c (.v fun G=>(.fld 64)) <| .c (.ld (fun G _ _ hH=>(hH.q 0 rfl)) fun G=>(.ld (cArr 32) a.2.2.1 (fun _ hS=>(((holds_blk0 hS).snd).snd).fst))) <| .c (Sp.c Tryz.func96 (fun G=>(fM_c a.2.2.1 a.2.2.1)) fun _=>trivial) <| .c (.a (fun _ _ _ _=>trivial) (fun G=>(.al (cArr 32) (fun _=>0))) fun _ _ _ h=>h) <| .c (.a (fun _ _ _ _=>trivial) (fun G=>(.al (cArr 32) (fun _=>0))) fun _ _ _ h=>h) <| .c (.a (fun _ _ _ _=>trivial) (fun G=>(.al (cArr 32) (fun _=>0))) fun _ _ _ h=>h) <| .c (.tn (fun G=>(.sw (cArr 32) (fun _=>0) (fM a.1 a.1))) (fun _ _ _ _=>trivial) fun _ _ _ h=>h) <| .c (.tn (fun G=>(.sw (cArr 32) (fun _=>0) (fM a.2.1 a.2.1))) (fun _ _ _ _=>trivial) fun _ _ _ h=>h) <| .c (.tn (fun G=>(.sw (cArr 32) (fun _=>0) (fM a.2.2.1 a.2.2.1))) (fun _ _ _ _=>trivial) fun _ _ _ h=>h) <| .nil) ?_
 clear hH
 rintro G w - hH
 revert hH
 generalize (G 15).g=g3
 generalize (G 16).g=g4
 generalize (G 17).g=g5
 intro hH
 refine rn ?_
 refine zr (zv (.fld 0) 0 ?_)
 refine zs (hH.q 0 rfl) (.ld (cArr 32) a.1 (fun _ hS=>(holds_blk0 hS).fst)) 1 ?_
 refine zv (.fld 32) 32 ?_
 refine zs (hH.q 0 rfl) (.ld (cArr 32) a.2.1 (fun _ hS=>((holds_blk0 hS).snd).fst)) 1 ?_
 refine zc Tryz.func133 (fA_c a.1 a.2.1) trivial hH 3 ?_
 clear hH
 intro w hH
 refine zm hH (.al (cArr 32) (fun _=>0)) trivial 0 ?_
 clear hH
 rintro _ _ w ⟨g6,rfl,rfl⟩ hH
 refine ze0 5 hH rfl (.sw (cArr 32) (fun _=>0) (fA a.1 a.2.1)) trivial ?_
 clear hH
 rintro _ _ w rfl hH
 refine zn (zx ?_)
 replace hH:=hH.drew
 refine rxPg 0 [ldv 0 29 [] [] [1002] fun G=>((cArr 32).val (fM a.1 a.1)),ldv 1 30 [] [] [1003] fun G=>((cArr 32).val (fM a.2.1 a.2.1)),pv 2 31 [0,1] [] fun G=>((cArr 32).val (fA (fM a.1 a.1) (fM a.2.1 a.2.1))),ldv 3 32 [] [] [1002] fun G=>((cArr 32).val (fM a.1 a.1)),ldv 4 33 [] [] [1003] fun G=>((cArr 32).val (fM a.2.1 a.2.1)),pv 5 34 [3,4] [] fun G=>((cArr 32).val (fS (fM a.1 a.1) (fM a.2.1 a.2.1))),alv 6 7 [] [] fun G g=>[bl g 22 ((cArr 32).enc (fun _=>0))],alv 7 8 [] [] fun G g=>[bl g 22 ((cArr 32).enc (fun _=>0))],stv 8 [2,6] [6] 6 fun G=>[bl (G 6).g 22 ((cArr 32).enc (fA (fM a.1 a.1) (fM a.2.1 a.2.1)))],stv 9 [5,7] [7] 7 fun G=>[bl (G 7).g 22 ((cArr 32).enc (fS (fM a.1 a.1) (fM a.2.1 a.2.1)))]] (fun G=>[(7,(.pointer (some ⟨(G 6).g,0,none⟩))),(8,(.pointer (some ⟨(G 7).g,0,none⟩))),(6,(.pointer (some ⟨g6,0,none⟩))),(5,(.pointer (some ⟨g5,0,none⟩))),(2,(.pointer (some ⟨g2,0,none⟩)))]) (fun G=>[[bl g1 149 (cPl.enc a)],[bl g2 149 (cPl.enc (fun _=>0,fun _=>0,fun _=>0,fun _=>0))],[bl g3 22 ((cArr 32).enc (fM a.1 a.1))],[bl g4 22 ((cArr 32).enc (fM a.2.1 a.2.1))],[bl g5 22 ((cArr 32).enc (fM a.2.2.1 a.2.2.1))],[bl g6 22 ((cArr 32).enc (fA a.1 a.2.1))],[bl (G 6).g 22 ((cArr 32).enc (fA (fM a.1 a.1) (fM a.2.1 a.2.1)))],[bl (G 7).g 22 ((cArr 32).enc (fS (fM a.1 a.1) (fM a.2.1 a.2.1)))]]) hH (.c (.ld (fun G _ _ hH=>(hH.q 0 rfl)) fun G=>(.ld (cArr 32) (fM a.1 a.1) (fun _ hS=>(holds_blk0 hS)))) <| .c (.ld (fun G _ _ hH=>(hH.q 0 rfl)) fun G=>(.ld (cArr 32) (fM a.2.1 a.2.1) (fun _ hS=>(holds_blk0 hS)))) <| .c (Sp.c Tryz.func133 (fun G=>(fA_c (fM a.1 a.1) (fM a.2.1 a.2.1))) fun _=>trivial) <| .c (.ld (fun G _ _ hH=>(hH.q 0 rfl)) fun G=>(.ld (cArr 32) (fM a.1 a.1) (fun _ hS=>(holds_blk0 hS)))) <| .c (.ld (fun G _ _ hH=>(hH.q 0 rfl)) fun G=>(.ld (cArr 32) (fM a.2.1 a.2.1) (fun _ hS=>(holds_blk0 hS)))) <| .c (Sp.c Tryz.func134 (fun G=>(fS_c (fM a.1 a.1) (fM a.2.1 a.2.1))) fun _=>trivial) <| .c (.a (fun _ _ _ _=>trivial) (fun G=>(.al (cArr 32) (fun _=>0))) fun _ _ _ h=>h) <| .c (.a (fun _ _ _ _=>trivial) (fun G=>(.al (cArr 32) (fun _=>0))) fun _ _ _ h=>h) <| .c (.tn (fun G=>(.sw (cArr 32) (fun _=>0) (fA (fM a.1 a.1) (fM a.2.1 a.2.1)))) (fun _ _ _ _=>trivial) fun _ _ _ h=>h) <| .c (.tn (fun G=>(.sw (cArr 32) (fun _=>0) (fS (fM a.1 a.1) (fM a.2.1 a.2.1)))) (fun _ _ _ _=>trivial) fun _ _ _ h=>h) <| .nil) ?_
 clear hH
 rintro G w - hH
 revert hH
 generalize (G 6).g=g7
 generalize (G 7).g=g8
 intro hH
 refine rn ?_
 refine zx ?_
 replace hH:=hH.drew
 refine rld 0 (hH.q 6 rfl) (.ld (cArr 32) (fA (fM a.1 a.1) (fM a.2.1 a.2.1)) (fun _ hS=>(holds_blk0 hS))) 0 ?_
 refine rld 1 (hH.q 5 rfl) (.ld (cArr 32) (fA a.1 a.2.1) (fun _ hS=>(holds_blk0 hS))) 0 ?_
 refine rld 2 (hH.q 5 rfl) (.ld (cArr 32) (fA a.1 a.2.1) (fun _ hS=>(holds_blk0 hS))) 16 ?_
 refine rld 5 (hH.q 4 rfl) (.ld (cArr 32) (fM a.2.2.1 a.2.2.1) (fun _ hS=>(holds_blk0 hS))) 0 ?_
 refine rld 6 (hH.q 4 rfl) (.ld (cArr 32) (fM a.2.2.1 a.2.2.1) (fun _ hS=>(holds_blk0 hS))) 64 ?_
 refine rld 8 (hH.q 7 rfl) (.ld (cArr 32) (fS (fM a.1 a.1) (fM a.2.1 a.2.1)) (fun _ hS=>(holds_blk0 hS))) 0 ?_
 refine rld 10 (hH.q 7 rfl) (.ld (cArr 32) (fS (fM a.1 a.1) (fM a.2.1 a.2.1)) (fun _ hS=>(holds_blk0 hS))) 128 ?_
 refine rld 11 (hH.q 6 rfl) (.ld (cArr 32) (fA (fM a.1 a.1) (fM a.2.1 a.2.1)) (fun _ hS=>(holds_blk0 hS))) 128 ?_
 refine rx1k 3 (rpc 3 Tryz.func96 (fM_c (fA a.1 a.2.1) (fA a.1 a.2.1)) trivial hH 96 (.keep (.keep (.keep (.keep (.keep (pgo [] (pgo [] (.keep (.nil _ []))))))))) ?_)
 clear hH
 intro w hH
 refine ⟨pcons (hH.blk 6 rfl) (pcons (hH.blk 7 rfl) (pcons (hH.blk 7 rfl) (pcons (hH.blk 4 rfl) (pcons (hH.blk 4 rfl) (pcons (hH.blk 6 rfl) pnil))))),?_⟩
 refine rx1k 4 (rpc 4 Tryz.func134 (fS_c (fA (fM a.1 a.1) (fM a.2.1 a.2.1)) (fM (fA a.1 a.2.1) (fA a.1 a.2.1))) trivial hH 65 (.keep (.keep (.keep (.keep (.keep (pgo [] (.nil _ []))))))) ?_)
 clear hH
 intro w hH
 refine ⟨pcons (hH.blk 6 rfl) (pcons (hH.blk 7 rfl) (pcons (hH.blk 7 rfl) (pcons (hH.blk 4 rfl) (pcons (hH.blk 4 rfl) pnil)))),?_⟩
 refine rx1k 7 (rpc 7 Tryz.func133 (fA_c (fM a.2.2.1 a.2.2.1) (fM a.2.2.1 a.2.2.1)) trivial hH 48 (.keep (.keep (.keep (pgo [] (pgo [] (.nil _ [])))))) ?_)
 clear hH
 intro w hH
 refine ⟨pcons (hH.blk 6 rfl) (pcons (hH.blk 7 rfl) (pcons (hH.blk 7 rfl) pnil)),?_⟩
 refine rx1k 9 (rpc 9 Tryz.func133 (fA_c (fA (fM a.2.2.1 a.2.2.1) (fM a.2.2.1 a.2.2.1)) (fS (fM a.1 a.1) (fM a.2.1 a.2.1))) trivial hH 17 (.keep (.keep (pgo [] (.nil _ [])))) ?_)
 clear hH
 intro w hH
 refine ⟨pcons (hH.blk 6 rfl) (pcons (hH.blk 7 rfl) pnil),?_⟩
 refine rx1k 12 (rpc 12 Tryz.func172 (plAt_c (fS (fA (fM a.1 a.1) (fM a.2.1 a.2.1)) (fM (fA a.1 a.2.1) (fA a.1 a.2.1))) (fA (fA (fM a.2.2.1 a.2.2.1) (fM a.2.2.1 a.2.2.1)) (fS (fM a.1 a.1) (fM a.2.1 a.2.1))) (fS (fM a.1 a.1) (fM a.2.1 a.2.1)) (fA (fM a.1 a.1) (fM a.2.1 a.2.1))) trivial hH 15 (pgo [] (pgo [] (.nil _ []))) ?_)
 clear hH
 intro w hH
 refine ⟨pnil,rx1k 13 ?_⟩
 refine re0 13 1 hH rfl (.sw cPl (fun _=>0,fun _=>0,fun _=>0,fun _=>0) (plAt (fS (fA (fM a.1 a.1) (fM a.2.1 a.2.1)) (fM (fA a.1 a.2.1) (fA a.1 a.2.1))) (fA (fA (fM a.2.2.1 a.2.2.1) (fM a.2.2.1 a.2.2.1)) (fS (fM a.1 a.1) (fM a.2.1 a.2.1))) (fS (fM a.1 a.1) (fM a.2.1 a.2.1)) (fA (fM a.1 a.1) (fM a.2.1 a.2.1)))) trivial (.nil _ []) ?_
 clear hH
 rintro _ _ w rfl hH
 refine ⟨pnil,rn ?_⟩
 refine cxRet (qxRetC 1 (hH.blk 1 rfl) rfl rfl (by kernel_rfl) (Cod.size _ _) (by kernel_rfl) ?_)
 exact ⟨rfl,HH.toBelow hH⟩
end Go.Proofs.YtajppfmjbkebfaaGreatDoor

namespace Go.Proofs.YtajppfmjbkebfaaGreatDoor
open Go Go.RowKit
set_option maxRecDepth 100000
abbrev vNb (n:Nat):Value:=(cQs 4).val (words n)
theorem vb (n:Nat):vNb n=vN n:=(vN_words n).symm
theorem ftm_c (a b:Nat) (ha:a<2^256) (hb:b<2^256):Pure Tryz.prog 137 #[vNb a,vNb b] (fun _=>True) (vNb (tm a b)):=by rw [vb,vb,vb]; exact times_p a b ha hb
theorem fmi_c (a b:Nat) (ha:a<2^256) (hb:b<2^256):Pure Tryz.prog 157 #[vNb a,vNb b] (fun _=>True) (vNb (mi a b)):=by rw [vb,vb,vb]; exact minus_p a b ha hb
theorem frs_c (a k:Nat) (ha:a<2^256) (hk:k<1000000):Pure Tryz.prog 163 #[vNb a,.int .i64 (k:Int)] (fun _=>True) (vNb (rs a k)):=by rw [vb,vb]; exact raise_p a k ha hk
theorem fo_c (a:Nat) (ha:a<2^256):Pure Tryz.prog 164 #[vNb a] (fun _=>True) (vNb (o250 a)):=by rw [vb,vb]; exact ones_p a ha
theorem fca_c (a:Nat) (ha:a<2^256):Pure Tryz.prog 158 #[vNb a] (fun _=>True) (vNb (a%pN)):=by rw [vb,vb]; exact canonical_p a ha
theorem fby_c (a:Nat) (ha:a<2^256):Pure Tryz.prog 136 #[vNb a] (fun _=>True) ((cArr 32).val (byteN (a%pN))):=by rw [vb]; exact bytesOf_p a ha
theorem frd_c (b:Bt):Pure Tryz.prog 138 #[(cArr 32).val b] (fun _=>True) (vNb (lv b 32)):=by rw [vb]; exact read_p b
theorem rl_c  : Pure Tryz.prog 182 #[] (fun _=>True) ((cQs 4).val (words iN)):=by
 refine pure_of (fn:=Tryz.f182) Tryz.func182 rfl Tryz.ntmps182 (Nat.le_of_ble_eq_true rfl) rfl ?_
 intro w0 hH hR
 refine zr (zm hH (.al (cQs 4) (words 0)) trivial 0 ?_)
 clear hH
 rintro _ _ w ⟨g1,rfl,rfl⟩ hH
 refine zn (zr (zv (v:=((cQs 4).val (words iN))) (fun _ _ hF=>opBuildP (cells:=(cQs 4).enc (words iN)) (vals:=[(0,(.int .u64 14190309331451158704)),(1,(.int .u64 3405592160176694392)),(2,(.int .u64 3120150775007532967)),(3,(.int .u64 3135389899092516619))]) rfl (EvP.cons rfl (EvP.cons rfl (EvP.cons rfl (EvP.cons rfl EvP.nil)))) (by kernel_rfl) _) 0 ?_))
 refine ze0 0 hH rfl (.sw (cQs 4) (words 0) (words iN)) trivial ?_
 clear hH
 rintro _ _ w rfl hH
 refine zn (cxRet (qxRetC 1 (hH.blk 0 rfl) rfl rfl (by kernel_rfl) (Cod.size _ _) (by kernel_rfl) ?_))
 exact ⟨rfl,HH.toBelow hH⟩
theorem sm_c (a b:Nat) (ha:a<2^256) (hb:b<2^256):Pure Tryz.prog 181 #[((cQs 4).val (words a)),((cQs 4).val (words b))] (fun _=>True) (.bool (decide (a%pN=b%pN))):=by
 refine pure_of (fn:=Tryz.f181) Tryz.func181 rfl Tryz.ntmps181 (Nat.le_of_ble_eq_true rfl) rfl ?_
 intro w0 hH hR
 refine zr (zm hH (.bx (cQs 4) (words a)) trivial 1 ?_)
 clear hH
 rintro _ _ w ⟨g1,rfl,rfl⟩ hH
 refine zm hH (.bx (cQs 4) (words b)) trivial 2 ?_
 clear hH
 rintro _ _ w ⟨g2,rfl,rfl⟩ hH
 refine zv .mv 0 ?_
 refine zn (zx ?_)
 replace hH:=hH.drew
 refine rld 0 (hH.q 0 rfl) (.ld (cQs 4) (words a) (fun _ hS=>(holds_blk0 hS))) 4 ?_
 refine rld 2 (hH.q 1 rfl) (.ld (cQs 4) (words b) (fun _ hS=>(holds_blk0 hS))) 4 ?_
 refine rx1k 1 (rpc 1 Tryz.func158 (fca_c a ha) trivial hH 2 (.keep (pgo [] (.nil _ []))) ?_)
 clear hH
 intro w hH
 refine ⟨pcons (hH.blk 1 rfl) pnil,?_⟩
 refine rx1k 3 (rpc 3 Tryz.func158 (fca_c b hb) trivial hH 2 (pgo [] (.nil _ [])) ?_)
 clear hH
 intro w hH
 refine ⟨pnil,rv 4 (v:=(.bool (decide (a%pN=b%pN)))) (fun _ _ hF=>opEqQs (n:=4) (e:=72) (f:=(words (a%pN))) (g:=(words (b%pN))) rfl (by kernel_rfl) (by kernel_rfl) (by kernel_rfl) (hF.ev 1 rfl) (hF.ev 0 rfl) (by kernel_rfl) words_pN) 3 ?_⟩
 refine rv 5 .mv 3 ?_
 refine rn ?_
 refine cxRet (qxRet1 0 rfl rfl ?_)
 exact ⟨rfl,HH.toBelow hH⟩
theorem ro_c (n:Nat) (hn:n<2^256):Pure Tryz.prog 171 #[((cQs 4).val (words n))] (fun _=>True) (.tuple #[vNb (rtV n),.bool (decide (rtF n))]):=by
 refine pure_of (fn:=Tryz.f171) Tryz.func171 rfl Tryz.ntmps171 (Nat.le_of_ble_eq_true rfl) rfl ?_
 intro w0 hH hR
 refine zr (zm hH (.bx (cQs 4) (words n)) trivial 1 ?_)
 clear hH
 rintro _ _ w ⟨g1,rfl,rfl⟩ hH
 refine zm hH (.al (cQs 4) (words 0)) trivial 0 ?_
 clear hH
 rintro _ _ w ⟨g2,rfl,rfl⟩ hH
 refine zv .mv 0 ?_
 refine zn (zx ?_)
 replace hH:=hH.drew
 refine rxPg 0 [ldv 0 5 [] [] [1000] fun G=>((cQs 4).val (words n)),pv 1 6 [0] [] fun G=>((cQs 4).val (words (o250 n))),pv 2 7 [1] [] fun G=>((cQs 4).val (words (rs (o250 n) 2))),ldv 3 8 [] [] [1000] fun G=>((cQs 4).val (words n)),pv 4 9 [3] [] fun G=>((cQs 4).val (words (rs n 1))),pv 5 10 [2,4] [] fun G=>((cQs 4).val (words (rt1 n))),alv 6 4 [] [] fun G g=>[bl g 170 ((cQs 4).enc (words 0))],stv 7 [5,6] [6] 6 fun G=>[bl (G 6).g 170 ((cQs 4).enc (words (rt1 n)))]] (fun G=>[(4,(.pointer (some ⟨(G 6).g,0,none⟩))),(2,(.pointer (some ⟨g2,0,none⟩))),(1,(.pointer (some ⟨g1,0,none⟩)))]) (fun G=>[[bl g1 170 ((cQs 4).enc (words n))],[bl g2 170 ((cQs 4).enc (words 0))],[bl (G 6).g 170 ((cQs 4).enc (words (rt1 n)))]]) hH (.c (.ld (fun G _ _ hH=>(hH.q 0 rfl)) fun G=>(.ld (cQs 4) (words n) (fun _ hS=>(holds_blk0 hS)))) <| .c (Sp.c Tryz.func164 (fun G=>(fo_c n hn)) fun _=>trivial) <| .c (Sp.c Tryz.func163 (fun G=>(frs_c (o250 n) 2 (o250_lt hn) (by decide))) fun _=>trivial) <| .c (.ld (fun G _ _ hH=>(hH.q 0 rfl)) fun G=>(.ld (cQs 4) (words n) (fun _ hS=>(holds_blk0 hS)))) <| .c (Sp.c Tryz.func163 (fun G=>(frs_c n 1 hn (by decide))) fun _=>trivial) <| .c (Sp.c Tryz.func137 (fun G=>(ftm_c (rs (o250 n) 2) (rs n 1) (rs_lt (o250_lt hn) 2) (rs_lt hn 1))) fun _=>trivial) <| .c (.a (fun _ _ _ _=>trivial) (fun G=>(.al (cQs 4) (words 0))) fun _ _ _ h=>h) <| .c (.tn (fun G=>(.sw (cQs 4) (words 0) (words (rt1 n)))) (fun _ _ _ _=>trivial) fun _ _ _ h=>h) <| .nil) ?_
 clear hH
 rintro G w - hH
 revert hH
 generalize (G 6).g=g3
 intro hH
 refine rn ?_
 refine cxSeq (zx ?_)
 replace hH:=hH.drew
 refine rld 0 (hH.q 2 rfl) (.ld (cQs 4) (words (rt1 n)) (fun _ hS=>(holds_blk0 hS))) 0 ?_
 refine rld 2 (hH.q 0 rfl) (.ld (cQs 4) (words n) (fun _ hS=>(holds_blk0 hS))) 0 ?_
 refine rx1k 1 (rpc 1 Tryz.func163 (frs_c (rt1 n) 1 (rt1_lt hn) (by decide)) trivial hH 2 (.keep (pgo [] (.nil _ []))) ?_)
 clear hH
 intro w hH
 refine ⟨pcons (hH.blk 0 rfl) pnil,?_⟩
 refine rx1k 3 (rpc 3 Tryz.func181 (sm_c (rs (rt1 n) 1) n (rs_lt (rt1_lt hn) 1) hn) trivial hH 3 (pgo [] (.nil _ [])) ?_)
 clear hH
 intro w hH
 refine ⟨pnil,rn ?_⟩
 refine zP (fun hc4 => ?_) (fun hc4 => ?_)
 refine zr (zs (hH.q 2 rfl) (.ld (cQs 4) (words (rt1 n)) (fun _ hS=>(holds_blk0 hS))) 11 ?_)
 refine ze0 1 hH rfl (.sw (cQs 4) (words 0) (words (rt1 n))) trivial ?_
 clear hH
 rintro _ _ w rfl hH
 refine zv .mv 1 ?_
 refine zn (cxRet (qxThenR ?_))
 refine qxRetCT 1 0 (hH.blk 1 rfl) rfl rfl rfl (by kernel_rfl) (Cod.size _ _) (by kernel_rfl) ?_
 have e1:rtV n=rt1 n:=if_pos hc4
 exact ⟨by rw [e1,decide_eq_true (show rtF n from .inl hc4)]; rfl,HH.toBelow hH⟩
 refine cxSkip (qxThen (zx ?_))
 replace hH:=hH.drew
 refine rld 0 (hH.q 2 rfl) (.ld (cQs 4) (words (rt1 n)) (fun _ hS=>(holds_blk0 hS))) 1 ?_
 refine rx1k 1 (rpc 1 Tryz.func182 (rl_c ) trivial hH 0 (.keep (.nil _ [])) ?_)
 clear hH
 intro w hH
 refine ⟨pcons (hH.blk 2 rfl) pnil,?_⟩
 refine rx1k 2 (rpc 2 Tryz.func137 (ftm_c (rt1 n) iN (rt1_lt hn) iN_lt) trivial hH 3 (pgo [] (.nil _ [])) ?_)
 clear hH
 intro w hH
 refine ⟨pnil,rx1k 3 ?_⟩
 refine re0 3 2 hH rfl (.sw (cQs 4) (words (rt1 n)) (words (rt2 n))) trivial (.nil _ []) ?_
 clear hH
 rintro _ _ w rfl hH
 refine ⟨pnil,rn ?_⟩
 refine zx ?_
 replace hH:=hH.drew
 refine rld 0 (hH.q 2 rfl) (.ld (cQs 4) (words (rt2 n)) (fun _ hS=>(holds_blk0 hS))) 1 ?_
 refine rld 1 (hH.q 2 rfl) (.ld (cQs 4) (words (rt2 n)) (fun _ hS=>(holds_blk0 hS))) 2 ?_
 refine rld 3 (hH.q 0 rfl) (.ld (cQs 4) (words n) (fun _ hS=>(holds_blk0 hS))) 8 ?_
 refine rx1k 2 (rpc 2 Tryz.func163 (frs_c (rt2 n) 1 (rt2_lt hn) (by decide)) trivial hH 2 (.keep (pgo [] (.keep (.nil _ [])))) ?_)
 clear hH
 intro w hH
 refine ⟨pcons (hH.blk 0 rfl) (pcons (hH.blk 2 rfl) pnil),?_⟩
 refine rx1k 4 (rpc 4 Tryz.func181 (sm_c (rs (rt2 n) 1) n (rs_lt (rt2_lt hn) 1) hn) trivial hH 3 (pgo [] (.keep (.nil _ []))) ?_)
 clear hH
 intro w hH
 refine ⟨pcons (hH.blk 2 rfl) pnil,?_⟩
 refine rx1k 5 ?_
 refine re0 5 1 hH rfl (.sw (cQs 4) (words 0) (words (rt2 n))) trivial (pgo [] (.nil _ [])) ?_
 clear hH
 rintro _ _ w rfl hH
 refine ⟨pnil,rv 6 .mv 3 ?_⟩
 refine rn ?_
 refine cxRet (qxRetCT 1 0 (hH.blk 1 rfl) rfl rfl rfl (by kernel_rfl) (Cod.size _ _) (by kernel_rfl) ?_)
 have e1:rtV n=rt2 n:=if_neg hc4
 exact ⟨by rw [e1,show decide (rtF n)=decide (rs (rt2 n) 1%pN=n%pN) from decide_eq_decide.2 (or_iff_right hc4)]; rfl,HH.toBelow hH⟩
theorem fC_c (a:Bt):Pure Tryz.prog 143 #[((cArr 32).val a)] (fun _=>True) (.bool (decide (lv a 32<pN))):=by
 refine pure_of (fn:=Tryz.f143) Tryz.func143 rfl Tryz.ntmps143 (Nat.le_of_ble_eq_true rfl) rfl ?_
 intro w0 hH hR
 refine zr (zm hH (.bx (cArr 32) a) trivial 1 ?_)
 clear hH
 rintro _ _ w ⟨g1,rfl,rfl⟩ hH
 refine zv .mv 0 ?_
 refine zn (zx ?_)
 replace hH:=hH.drew
 refine rld 0 (hH.q 0 rfl) (.ld (cArr 32) a (fun _ hS=>(holds_blk0 hS))) 0 ?_
 refine rld 3 (hH.q 0 rfl) (.ld (cArr 32) a (fun _ hS=>(holds_blk0 hS))) 4 ?_
 refine rx1k 1 (rpc 1 Tryz.func138 (frd_c a) trivial hH 2 (.keep (pgo [] (.nil _ []))) ?_)
 clear hH
 intro w hH
 refine ⟨pcons (hH.blk 0 rfl) pnil,?_⟩
 refine rx1k 2 (rpc 2 Tryz.func136 (fby_c (lv a 32) (lv_lt32 a)) trivial hH 1 (.keep (.nil _ [])) ?_)
 clear hH
 intro w hH
 refine ⟨pcons (hH.blk 0 rfl) pnil,?_⟩
 refine rv 4 (v:=(.bool (decide (lv a 32<pN)))) (fun _ _ hF=>opEqA (n:=32) (e:=5) (f:=(byteN ((lv a 32)%pN))) (g:=a) rfl (by kernel_rfl) (by kernel_rfl) (by kernel_rfl) (hF.ev 0 rfl) (hF.ev 1 rfl) (by kernel_rfl) (canon_iff a)) 3 ?_
 refine rv 5 .mv 3 ?_
 refine rn ?_
 refine cxRet (qxRet1 0 rfl rfl ?_)
 exact ⟨rfl,HH.toBelow hH⟩
theorem fQ_c (a:Bt):Pure Tryz.prog 144 #[((cArr 32).val a)] (fun _=>True) (.tuple #[(cArr 32).val (sqX a),.int .i64 (sqE a:Int)]):=by
 refine pure_of (fn:=Tryz.f144) Tryz.func144 rfl Tryz.ntmps144 (Nat.le_of_ble_eq_true rfl) rfl ?_
 intro w0 hH hR
 refine zr (zm hH (.bx (cArr 32) a) trivial 1 ?_)
 clear hH
 rintro _ _ w ⟨g1,rfl,rfl⟩ hH
 refine zm hH (.al (cArr 32) (fun _=>0)) trivial 0 ?_
 clear hH
 rintro _ _ w ⟨g2,rfl,rfl⟩ hH
 refine zv .mv 0 ?_
 refine zn (zr (zs (hH.q 0 rfl) (.ld (cArr 32) a (fun _ hS=>(holds_blk0 hS))) 5 ?_))
 refine zc Tryz.func138 (frd_c a) trivial hH 1 ?_
 clear hH
 intro w hH
 refine zm hH (.al (cQs 4) (words 0)) trivial 0 ?_
 clear hH
 rintro _ _ w ⟨g3,rfl,rfl⟩ hH
 refine ze0 2 hH rfl (.sw (cQs 4) (words 0) (words (lv a 32))) trivial ?_
 clear hH
 rintro _ _ w rfl hH
 refine zn (zr (zs (hH.q 2 rfl) (.ld (cQs 4) (words (lv a 32)) (fun _ hS=>(holds_blk0 hS))) 3 ?_))
 refine zc Tryz.func171 (ro_c (lv a 32) (lv_lt32 a)) trivial hH 1 ?_
 clear hH
 intro w hH
 refine zv .mv 1 ?_
 refine zv .ext 0 ?_
 refine zv .ext 2 ?_
 refine zm hH (.al (cQs 4) (words 0)) trivial 0 ?_
 clear hH
 rintro _ _ w ⟨g4,rfl,rfl⟩ hH
 refine ze0 3 hH rfl (.sw (cQs 4) (words 0) (words (rtV (lv a 32)))) trivial ?_
 clear hH
 rintro _ _ w rfl hH
 refine zv .mv 6 ?_
 refine zn (cxSeq (zr (zv .mv 1 ?_)))
 refine zv (v:=(.bool (decide (¬ (rtF (lv a 32)))))) (fun _ _ hF=>opNot rfl (hF.ev 0 rfl) decide_not.symm) 1 ?_
 refine zn ?_
 refine zP (fun hc5 => ?_) (fun hc5 => ?_)
 refine zr (zv (v:=((cArr 32).val (fun _=>0))) (fun _ _ hF=>opBuildP (cells:=(cArr 32).enc (fun _=>0)) (vals:=[]) rfl EvP.nil (by kernel_rfl) _) 3 ?_)
 refine ze0 1 hH rfl (.sw (cArr 32) (fun _=>0) (fun _=>0)) trivial ?_
 clear hH
 rintro _ _ w rfl hH
 refine zv .mv 1 ?_
 refine zn (cxRet (qxThenR ?_))
 refine qxRetCT 1 0 (hH.blk 1 rfl) rfl rfl rfl (by kernel_rfl) (Cod.size _ _) (by kernel_rfl) ?_
 have h1:¬ rtF (lv a 32):=hc5
 exact ⟨by rw [show sqX a=fun _=>0 from if_neg h1,show sqE a=3 from if_neg h1]; rfl,HH.toBelow hH⟩
 refine cxSkip (qxThen (zr (zs (hH.q 3 rfl) (.ld (cQs 4) (words (rtV (lv a 32))) (fun _ hS=>(holds_blk0 hS))) 1 ?_)))
 refine zc Tryz.func136 (fby_c (rtV (lv a 32)) (rtV_lt (lv_lt32 a))) trivial hH 1 ?_
 clear hH
 intro w hH
 refine zm hH (.al (cArr 32) (fun _=>0)) trivial 0 ?_
 clear hH
 rintro _ _ w ⟨g6,rfl,rfl⟩ hH
 refine ze0 4 hH rfl (.sw (cArr 32) (fun _=>0) (byteN ((rtV (lv a 32))%pN))) trivial ?_
 clear hH
 rintro _ _ w rfl hH
 refine zn (cxSeq (zr ?_))
 have hi7:0<32:=by omega
 refine zv (.ia 1 32 0 (hi:=hi7)) 2 ?_
 refine zs (hH.q 4 rfl) (.ld cByte ((byteN ((rtV (lv a 32))%pN)) 0) (fun _ hS=>((holds_blk0 hS).elt hi7))) 1 ?_
 refine zv (.ab (((byteN ((rtV (lv a 32))%pN)) 0) &&& (1:UInt8)) (u:=((byteN ((rtV (lv a 32))%pN)) 0)) (v:=(1:UInt8))) 1 ?_
 refine zv (.eq ((((byteN ((rtV (lv a 32))%pN)) 0) &&& (1:UInt8)).toNat=1)) 1 ?_
 refine zn ?_
 refine zP (fun hc8 => ?_) (fun hc8 => ?_)
 refine cxReg (zv (v:=((cQs 4).val (words 0))) (fun _ _ hF=>opBuildP (cells:=(cQs 4).enc (words 0)) (vals:=[]) rfl EvP.nil (by kernel_rfl) _) 1 ?_)
 refine zs (hH.q 3 rfl) (.ld (cQs 4) (words (rtV (lv a 32))) (fun _ hS=>(holds_blk0 hS))) 4 ?_
 refine zc Tryz.func157 (fmi_c 0 (rtV (lv a 32)) (by decide) (rtV_lt (lv_lt32 a))) trivial hH 3 ?_
 clear hH
 intro w hH
 refine zc Tryz.func136 (fby_c (mi 0 (rtV (lv a 32))) (mi_facts 0 _ (by decide) (rtV_lt (lv_lt32 a))).2.1) trivial hH 1 ?_
 clear hH
 intro w hH
 refine ze0 4 hH rfl (.sw (cArr 32) (byteN ((rtV (lv a 32))%pN)) (byteN ((mi 0 (rtV (lv a 32)))%pN))) trivial ?_
 clear hH
 rintro _ _ w rfl hH
 refine zn (zr (zs (hH.q 4 rfl) (.ld (cArr 32) (byteN ((mi 0 (rtV (lv a 32)))%pN)) (fun _ hS=>(holds_blk0 hS))) 3 ?_))
 refine ze0 1 hH rfl (.sw (cArr 32) (fun _=>0) (byteN ((mi 0 (rtV (lv a 32)))%pN))) trivial ?_
 clear hH
 rintro _ _ w rfl hH
 refine zv .mv 1 ?_
 refine zn (cxRet (qxRetCT 1 0 (hH.blk 1 rfl) rfl rfl rfl (by kernel_rfl) (Cod.size _ _) (by kernel_rfl) ?_))
 have h2:rtF (lv a 32):=Decidable.of_not_not hc5
 have e1:sqX a=byteN (mi 0 (rtV (lv a 32))%pN):=(if_pos h2).trans (if_pos hc8)
 exact ⟨by rw [e1,show sqE a=0 from if_pos h2]; rfl,HH.toBelow hH⟩
 refine cxSkip (qxThen (zr (zs (hH.q 4 rfl) (.ld (cArr 32) (byteN ((rtV (lv a 32))%pN)) (fun _ hS=>(holds_blk0 hS))) 7 ?_)))
 refine ze0 1 hH rfl (.sw (cArr 32) (fun _=>0) (byteN ((rtV (lv a 32))%pN))) trivial ?_
 clear hH
 rintro _ _ w rfl hH
 refine zv .mv 1 ?_
 refine zn (cxRet (qxRetCT 1 0 (hH.blk 1 rfl) rfl rfl rfl (by kernel_rfl) (Cod.size _ _) (by kernel_rfl) ?_))
 have h2:rtF (lv a 32):=Decidable.of_not_not hc5
 have e1:sqX a=byteN (rtV (lv a 32)%pN):=(if_pos h2).trans (if_neg hc8)
 exact ⟨by rw [e1,show sqE a=0 from if_pos h2]; rfl,HH.toBelow hH⟩
end Go.Proofs.YtajppfmjbkebfaaGreatDoor
