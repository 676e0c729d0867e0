/- What the claim leans on, part 4: plain theorems, and walks of functions of the program and of the document. -/
import Derived.Test.YtajppfmjbkebfaaGreatDoorKPkeskTurnedCC
import Derived.Test.YtajppfmjbkebfaaGreatDoorKPkeskTurnedCB
import Derived.Test.YtajppfmjbkebfaaGreatDoorKPkeskTurnedCA
import Derived.Test.YtajppfmjbkebfaaGreatDoorProg
set_option maxHeartbeats 8000000
namespace Go.Proofs.YtajppfmjbkebfaaGreatDoor
open Go Go.RowKit
set_option maxRecDepth 100000
theorem mT(a b i:Nat)(hb:b<2^256):Pure Tryz.prog 160 #[vN (a%2^(64*i)*b/2^(64*i)),.int .u64 ((wd a i:Nat):Int),vN b] (fun _=>True) (.tuple #[.int .u64 ((wd (a*b) i:Nat):Int),vN (a%2^(64*(i+1))*b/2^(64*(i+1)))]):=by
 have h:=yj (a%2^(64*i)*b/2^(64*i)) (wd a i) b (n5 a b i hb) (cg a i) hb
 rw[Nat.add_comm (wd a i*b),uc,ws,ud]at h
 exact h
theorem cS(a b:Nat)(ha:a<2^256)(hb:b<2^256):Pure Tryz.prog 137 #[(vN a),(vN b)] (fun _=>True) (vN (tm a b)):=by
 refine pU Tryz.func137 Tryz.ntmps137 ?_
 intro w0 hH hR
 have hL:=mK ha hb
 have r0:=mT a b 0 hb
 have r1:=mT a b 1 hb
 have r2:=mT a b 2 hb
 have r3:=mT a b 3 hb
 have z0:a%2^(64*0)*b/2^(64*0)=0:=by simp[Nat.mod_one]
 have z4:a%2^(64*(3+1))*b/2^(64*(3+1))=a*b/2^256:=by rw[show 64*(3+1)=256 from rfl,Nat.mod_eq_of_lt ha]
 rw[z0]at r0
 rw[z4]at r3
 have hH:a*b/2^256<2^256:=by omega
 have r4:=yj ((a*b)%2^256) 38 (a*b/2^256) (Nat.mod_lt _ (by decide)) (by decide) hH
 rw[show 38*(a*b/2^256)+a*b%2^256=f1 (a*b) by unfold f1;omega,ji]at r4
 have hf1:=qE hL
 have hf2:=zC hL
 have hT:tm a b=fv (f1 (a*b)):=rfl
 clear z0 z4 hL
 generalize a*b=L at *
 generalize L/2^256=H4 at *
 generalize f1 L=V at *
 have rf:=uy (V%2^256) (V/2^256) (Nat.mod_lt _ (by decide)) (by omega)
 rw[show V%2^256+2^256*(V/2^256)=V by omega,ji,← hT]at rf
 have w3:wd (V/18446744073709551616) 3=V/2^256:=by
  rw[ep]
  show V/2^256%18446744073709551616=V/2^256
  exact Nat.mod_eq_of_lt (by omega)
 have w0':wd (V/18446744073709551616) 0=wd V 1:=ep V 0
 have w1':wd (V/18446744073709551616) 1=wd V 2:=ep V 1
 have w2':wd (V/18446744073709551616) 2=wd V 3:=ep V 2
 clear hf1 hf2 hH
 generalize a%2^(64*(0+1))*b/2^(64*(0+1))=H1 at *
 generalize a%2^(64*(1+1))*b/2^(64*(1+1))=H2 at *
 generalize a%2^(64*(2+1))*b/2^(64*(2+1))=H3 at *
 refine zr (zm hH .bg trivial 1 ?_)
 clear hH
 rintro _ _ w ⟨g1,rfl,rfl⟩ hH
 refine zm hH .bg trivial 2 ?_
 clear hH
 rintro _ _ w ⟨g2,rfl,rfl⟩ hH
 refine zm hH (.az (.agg z4)) trivial 0 ?_
 clear hH
 rintro _ _ w ⟨g3,rfl,rfl⟩ hH
 refine zn (zr (zm hH (.az (.agg z4)) trivial 0 ?_))
 clear hH
 rintro _ _ w ⟨g4,rfl,rfl⟩ hH
 refine zm hH (.az (.agg z4)) trivial 0 ?_
 clear hH
 rintro _ _ w ⟨g5,rfl,rfl⟩ hH
 refine zn (zr (zs (hH.q 4 rfl) (.lr 4) 0 ?_))
 refine zv (.fld 0) 0 ?_
 refine zs (hH.q 0 rfl) .lc 1 ?_
 refine zs (hH.q 1 rfl) (.lr 4) 0 ?_
 refine zm hH (.call Tryz.func160 (r0.does)) trivial 7 ?_
 clear hH
 rintro _ _ w ⟨rfl,rfl⟩ hH
 replace hH:HH w0 [] [[bl g1 170 (cN a)],[bl g2 170 (cN b)],[bl g3 170 z4],[bl g4 170 z4],[bl g5 170 z4]] w:=hH.unpad
 refine zv .mv 1 ?_
 refine zv .ext 0 ?_
 refine zv .ext 2 ?_
 refine zv (.fld 0) 0 ?_
 refine ze0 3 hH rfl .sc trivial ?_
 clear hH
 rintro _ _ w rfl hH
 refine ze0 4 hH rfl (.sr 4) trivial ?_
 clear hH
 rintro _ _ w rfl hH
 refine zn (zr (zs (hH.q 4 rfl) (.lr 4) 7 ?_))
 refine zv (.fld 1) 0 ?_
 refine zs (hH.q 0 rfl) .lc 1 ?_
 refine zs (hH.q 1 rfl) (.lr 4) 0 ?_
 refine zm hH (.call Tryz.func160 (r1.does)) trivial 7 ?_
 clear hH
 rintro _ _ w ⟨rfl,rfl⟩ hH
 replace hH:HH w0 [] [[bl g1 170 (cN a)],[bl g2 170 (cN b)],[bl g3 170 z4],[bl g4 170 #[(.int .u64 (((wd L 0):Nat):Int)),(.int .u64 0),(.int .u64 0),(.int .u64 0)]],[bl g5 170 (cN H1)]] w:=hH.unpad
 refine zv .mv 1 ?_
 refine zv .ext 0 ?_
 refine zv .ext 2 ?_
 refine zv (.fld 1) 0 ?_
 refine ze0 3 hH rfl .sc trivial ?_
 clear hH
 rintro _ _ w rfl hH
 refine ze0 4 hH rfl (.sr 4) trivial ?_
 clear hH
 rintro _ _ w rfl hH
 refine zn (zr (zs (hH.q 4 rfl) (.lr 4) 7 ?_))
 refine zv (.fld 2) 0 ?_
 refine zs (hH.q 0 rfl) .lc 1 ?_
 refine zs (hH.q 1 rfl) (.lr 4) 0 ?_
 refine zm hH (.call Tryz.func160 (r2.does)) trivial 7 ?_
 clear hH
 rintro _ _ w ⟨rfl,rfl⟩ hH
 replace hH:HH w0 [] [[bl g1 170 (cN a)],[bl g2 170 (cN b)],[bl g3 170 z4],[bl g4 170 #[(.int .u64 (((wd L 0):Nat):Int)),(.int .u64 (((wd L 1):Nat):Int)),(.int .u64 0),(.int .u64 0)]],[bl g5 170 (cN H2)]] w:=hH.unpad
 refine zv .mv 1 ?_
 refine zv .ext 0 ?_
 refine zv .ext 2 ?_
 refine zv (.fld 2) 0 ?_
 refine ze0 3 hH rfl .sc trivial ?_
 clear hH
 rintro _ _ w rfl hH
 refine ze0 4 hH rfl (.sr 4) trivial ?_
 clear hH
 rintro _ _ w rfl hH
 refine zn (zr (zs (hH.q 4 rfl) (.lr 4) 7 ?_))
 refine zv (.fld 3) 32 ?_
 refine zs (hH.q 0 rfl) .lc 1 ?_
 refine zs (hH.q 1 rfl) (.lr 4) 32 ?_
 refine zm hH (.call Tryz.func160 (r3.does)) trivial 7 ?_
 clear hH
 rintro _ _ w ⟨rfl,rfl⟩ hH
 replace hH:HH w0 [] [[bl g1 170 (cN a)],[bl g2 170 (cN b)],[bl g3 170 z4],[bl g4 170 #[(.int .u64 (((wd L 0):Nat):Int)),(.int .u64 (((wd L 1):Nat):Int)),(.int .u64 (((wd L 2):Nat):Int)),(.int .u64 0)]],[bl g5 170 (cN H3)]] w:=hH.unpad
 refine zv .mv 1 ?_
 refine zv .ext 0 ?_
 refine zv .ext 2 ?_
 refine zv (.fld 3) 0 ?_
 refine ze0 3 hH rfl .sc trivial ?_
 clear hH
 rintro _ _ w rfl hH
 refine ze0 4 hH rfl (.sr 4) trivial ?_
 clear hH
 rintro _ _ w rfl hH
 refine zn (zr (zs (hH.q 3 rfl) (.lr 4) 23 ?_))
 refine zs (hH.q 4 rfl) (.lr 4) 2 ?_
 refine zm hH (.call Tryz.func160 (r4.does)) trivial 3 ?_
 clear hH
 rintro _ _ w ⟨rfl,rfl⟩ hH
 replace hH:HH w0 [] [[bl g1 170 (cN a)],[bl g2 170 (cN b)],[bl g3 170 z4],[bl g4 170 (cN L)],[bl g5 170 (cN H4)]] w:=hH.unpad
 refine zv .mv 1 ?_
 refine zv .ext 0 ?_
 refine zv .ext 2 ?_
 refine zm hH (.az (.agg z4)) trivial 0 ?_
 clear hH
 rintro _ _ w ⟨g6,rfl,rfl⟩ hH
 refine zv .mv 4 ?_
 refine ze0 5 hH rfl (.sr 4) trivial ?_
 clear hH
 rintro _ _ w rfl hH
 refine zn ?_
 replace hH:HH w0 [] [[bl g1 170 (cN a)],[bl g2 170 (cN b)],[bl g3 170 z4],[bl g4 170 (cN L)],[bl g5 170 (cN H4)],[bl g6 170 #[(.int .u64 (((wd V 1):Nat):Int)),(.int .u64 (((wd V 2):Nat):Int)),(.int .u64 (((wd V 3):Nat):Int)),(.int .u64 (((V/2^256):Nat):Int))]]] w:=by rw[← w0',← w1',← w2',← w3];exact hH
 refine zr (zv .mv 5 ?_)
 refine zv (.fld 0) 0 ?_
 refine zs (hH.q 5 rfl) .lc 1 ?_
 refine zv (.fld 1) 0 ?_
 refine zs (hH.q 5 rfl) .lc 1 ?_
 refine zv (.fld 2) 0 ?_
 refine zs (hH.q 5 rfl) .lc 1 ?_
 refine zv (v:=(vN V)) (fun _ _ hF=>aE (cells := #[(.int .u64 (((wd V 0):Nat):Int)),(.int .u64 (((wd V 1):Nat):Int)),(.int .u64 (((wd V 2):Nat):Int)),(.int .u64 (((wd V 3):Nat):Int))]) rfl (EvP.cons (v:=(.int .u64 (((wd V 0):Nat):Int))) (hF.ev 3 rfl) (EvP.cons (v:=(.int .u64 (((wd V 1):Nat):Int))) (hF.ev 2 rfl) (EvP.cons (v:=(.int .u64 (((wd V 2):Nat):Int))) (hF.ev 1 rfl) (EvP.cons (v:=(.int .u64 (((wd V 3):Nat):Int))) (hF.ev 0 rfl) EvP.nil)))) rfl _) 15 ?_
 refine zv (.fld 3) 2 ?_
 refine zs (hH.q 5 rfl) .lc 1 ?_
 refine zm hH (.call Tryz.func161 (rf.does)) trivial 3 ?_
 clear hH
 rintro _ _ w ⟨rfl,rfl⟩ hH
 replace hH:HH w0 [] [[bl g1 170 (cN a)],[bl g2 170 (cN b)],[bl g3 170 z4],[bl g4 170 (cN L)],[bl g5 170 (cN H4)],[bl g6 170 #[(.int .u64 (((wd V 1):Nat):Int)),(.int .u64 (((wd V 2):Nat):Int)),(.int .u64 (((wd V 3):Nat):Int)),(.int .u64 (((V/2^256):Nat):Int))]]] w:=hH.unpad
 refine ze0 2 hH rfl (.sr 4) trivial ?_
 clear hH
 rintro _ _ w rfl hH
 refine zn (ar (aI 1 (hH.blk 2 rfl) rfl rfl (by kernel_rfl) rfl (by kernel_rfl) ?_))
 exact zE hH
theorem jF(n:Nat)(hn:n<2^256):Pure Tryz.prog 158 #[(vN n)] (fun _=>True) (vN (n%pN)):=by
 refine pU Tryz.func158 Tryz.ntmps158 ?_
 intro w0 hH hR
 obtain ⟨f1,f2,f3,f4⟩:=sF n hn
 obtain ⟨g1,g2⟩:=uo n
 have hN1:n%2^255<2^255:=Nat.mod_lt _ (by decide)
 have hn3:=cg n 3
 generalize n%pN=P at *
 generalize n/2^255=t at *
 generalize n%2^255=N1 at *
 obtain ⟨m,hm⟩:∃ m,m=N1+19*t:=⟨_,rfl⟩
 rw[← hm]at f3 f4
 obtain ⟨u,hu⟩:∃ u,u=m+19:=⟨_,rfl⟩
 rw[← hu]at f4
 obtain ⟨q,hq⟩:∃ q,q=u/2^255:=⟨_,rfl⟩
 rw[← hq]at f4
 obtain ⟨z,hz⟩:∃ z,z=m+19*q:=⟨_,rfl⟩
 rw[← hz]at f4
 obtain ⟨k1,k2⟩:=uo z
 rw[f4]at k1 k2
 have hq1:q≤1:=by omega
 have e3:wd u 3/2^63=q:=by
  rw[hq]
  have hu2:u<2^255+38:=by omega
  clear f1 f2 f3 f4 g1 g2 k1 k2 hN1 hm hu hq hz hn3
  unfold wd
  omega
 have p1:=fJ N1 (19*t) (by omega)
 have p2:=fJ m 19 (by omega)
 have p3:=fJ m (19*q) (by omega)
 rw[← hm]at p1
 rw[← hu]at p2
 rw[← hz]at p3
 have a1:wd n 3&&&9223372036854775807=wd N1 3:=by rw[g1];exact Nat.and_two_pow_sub_one_eq_mod (wd n 3) 63
 have a2:wd z 3&&&9223372036854775807=wd P 3:=by rw[k1];exact Nat.and_two_pow_sub_one_eq_mod (wd z 3) 63
 have e2:(19*t)%2^64=19*t:=Nat.mod_eq_of_lt (by omega)
 have e5:(19*q)%2^64=19*q:=Nat.mod_eq_of_lt (by omega)
 have x0:=g2 0 (by decide);have x1:=g2 1 (by decide);have x2:=g2 2 (by decide)
 have y0:=k2 0 (by decide);have y1:=k2 1 (by decide);have y2:=k2 2 (by decide)
 have hz3:=cg z 3
 clear f2 f3 f4 g1 g2 k1 k2 hN1 hq1 hm hu hq hz
 refine zr (zm hH .bg trivial 1 ?_)
 clear hH
 rintro _ _ w ⟨g1,rfl,rfl⟩ hH
 refine zm hH (.az (.agg z4)) trivial 0 ?_
 clear hH
 rintro _ _ w ⟨g2,rfl,rfl⟩ hH
 refine zn (zr (zv (.fld 3) 0 ?_))
 refine zs (hH.q 0 rfl) .lc 1 ?_
 refine zv (.su t (j:=63) (hz:=f1)) 1 ?_
 refine zv .mv 1 ?_
 refine zn (zr (zv (.fld 3) 0 ?_))
 refine zs (hH.q 0 rfl) .lc 1 ?_
 refine zv (.nu (wd N1 3) hn3 (by decide) a1 (kk:=.u64) (j:=9223372036854775807)) 1 ?_
 refine zv (.fld 3) 0 ?_
 refine ze0 0 hH rfl .sc trivial ?_
 clear hH
 rintro _ _ w rfl hH
 refine zn ?_
 replace hH:HH w0 [] [[bl g1 170 (cN N1)],[bl g2 170 z4]] w:=by unfold cN;rw[x0,x1,x2];exact hH
 refine zr (zs (hH.q 0 rfl) (.lr 4) 3 ?_)
 refine zv .mv 2 ?_
 refine zv (.mu (19*t) (m:=19) (hz:=e2)) 1 ?_
 refine zm hH (.call Tryz.func174 (p1.does)) trivial 3 ?_
 clear hH
 rintro _ _ w ⟨rfl,rfl⟩ hH
 replace hH:HH w0 [] [[bl g1 170 (cN N1)],[bl g2 170 z4]] w:=hH.unpad
 refine zv .mv 1 ?_
 refine zv .ext 0 ?_
 refine zv .ext 2 ?_
 refine ze0 0 hH rfl (.sr 4) trivial ?_
 clear hH
 rintro _ _ w rfl hH
 refine zn (zr (zs (hH.q 0 rfl) (.lr 4) 3 ?_))
 refine zm hH (.call Tryz.func174 (p2.does)) trivial 1 ?_
 clear hH
 rintro _ _ w ⟨rfl,rfl⟩ hH
 replace hH:HH w0 [] [[bl g1 170 (cN m)],[bl g2 170 z4]] w:=hH.unpad
 refine zv .mv 1 ?_
 refine zv .ext 0 ?_
 refine zv .ext 2 ?_
 refine zm hH (.az (.agg z4)) trivial 0 ?_
 clear hH
 rintro _ _ w ⟨g3,rfl,rfl⟩ hH
 refine ze0 2 hH rfl (.sr 4) trivial ?_
 clear hH
 rintro _ _ w rfl hH
 refine zv .mv 6 ?_
 refine zn (zr (zs (hH.q 0 rfl) (.lr 4) 1 ?_))
 refine zv (.fld 3) 2 ?_
 refine zs (hH.q 2 rfl) .lc 1 ?_
 refine zv (.su q (j:=63) (hz:=e3)) 1 ?_
 refine zv (.mu (19*q) (m:=19) (hz:=e5)) 1 ?_
 refine zm hH (.call Tryz.func174 (p3.does)) trivial 3 ?_
 clear hH
 rintro _ _ w ⟨rfl,rfl⟩ hH
 replace hH:HH w0 [] [[bl g1 170 (cN m)],[bl g2 170 z4],[bl g3 170 (cN u)]] w:=hH.unpad
 refine zv .mv 1 ?_
 refine zv .ext 0 ?_
 refine zv .ext 2 ?_
 refine ze0 0 hH rfl (.sr 4) trivial ?_
 clear hH
 rintro _ _ w rfl hH
 refine zn (zr (zv (.fld 3) 3 ?_))
 refine zs (hH.q 0 rfl) .lc 1 ?_
 refine zv (.nu (wd P 3) hz3 (by decide) a2 (kk:=.u64) (j:=9223372036854775807)) 1 ?_
 refine zv (.fld 3) 0 ?_
 refine ze0 0 hH rfl .sc trivial ?_
 clear hH
 rintro _ _ w rfl hH
 refine zn ?_
 replace hH:HH w0 [] [[bl g1 170 (cN P)],[bl g2 170 z4],[bl g3 170 (cN u)]] w:=by unfold cN;rw[y0,y1,y2];exact hH
 refine zr (zs (hH.q 0 rfl) (.lr 4) 11 ?_)
 refine ze0 1 hH rfl (.sr 4) trivial ?_
 clear hH
 rintro _ _ w rfl hH
 refine zn (ar (aI 1 (hH.blk 1 rfl) rfl rfl (by kernel_rfl) rfl (by kernel_rfl) ?_))
 exact zE hH
theorem dj(n k:Nat)(hn:n<2^256)(hk:k<1000000):Pure Tryz.prog 163 #[(vN n),(.int .i64 k)] (fun _=>True) (vN (rs n k)):=by
 refine pU Tryz.func163 Tryz.ntmps163 ?_
 intro w0 hH hR
 refine zr (zm hH .bg trivial 1 ?_)
 clear hH
 rintro _ _ w ⟨g1,rfl,rfl⟩ hH
 refine zm hH (.az (.agg z4)) trivial 0 ?_
 clear hH
 rintro _ _ w ⟨g2,rfl,rfl⟩ hH
 refine zn (aj (zr (zv .mv 4 ?_)))
 refine zv .mv 0 ?_
 refine zn (ai (zL1 (fun (j:Nat)=>[(6,(.int .i64 j)),(5,(.int .i64 k)),(4,(.pointer (some ⟨g2,0,none⟩))),(2,(.pointer (some ⟨g1,0,none⟩)))]) (fun j w=>HH w0 [] [[bl g1 170 (cN (rs n j))],[bl g2 170 z4]] w∧(j≤k)) (fun j=>k-j) 0 ⟨hH,(Nat.zero_le _)⟩ ?_))
 clear hH
 rintro j w ⟨hH,hj⟩
 refine zr (zv (.lt (j<k)) 0 ?_)
 refine zn (aj ?_)
 refine zP (fun hc3 => ?_) (fun hc3 => ?_)
 refine aA (ag (aj (ai (aC (zs (hH.q 0 rfl) (.lr 4) 1 ?_)))))
 refine zs (hH.q 0 rfl) (.lr 4) 0 ?_
 refine zc Tryz.func137 (cS (rs n j) (rs n j) (bZ hn j) (bZ hn j)) trivial hH 3 ?_
 clear hH
 intro w hH
 refine ze0 0 hH rfl (.sr 4) trivial ?_
 clear hH
 rintro _ _ w rfl hH
 refine aD (aN (ag (aC (zv (.add ((j+1:Nat):Int)) 3 ?_))))
 refine zv .mv 1 ?_
 refine aD ?_
 exact zR1 (j+1) ⟨hH,(by omega)⟩ (by omega)
 refine aJ (ak (ak (aR (ag ?_))))
 obtain rfl:j=k:=by omega
 refine zr (zs (hH.q 0 rfl) (.lr 4) 23 ?_)
 refine ze0 1 hH rfl (.sr 4) trivial ?_
 clear hH
 rintro _ _ w rfl hH
 refine zn (ar (aI 1 (hH.blk 1 rfl) rfl rfl (by kernel_rfl) rfl (by kernel_rfl) ?_))
 exact zE hH
theorem uz(n:Nat)(hn:n<2^256):Pure Tryz.prog 164 #[(vN n)] (fun _=>True) (vN (kL n)):=by
 refine pU Tryz.func164 Tryz.ntmps164 ?_
 intro w0 hH hR
 refine zr (zm hH .bg trivial 1 ?_)
 clear hH
 rintro _ _ w ⟨g1,rfl,rfl⟩ hH
 refine zm hH (.az (.agg z4)) trivial 0 ?_
 clear hH
 rintro _ _ w ⟨g2,rfl,rfl⟩ hH
 refine zn (zx ?_)
 replace hH:=hH.drew
 refine de 0 [ldv 0 12 [] [] [1000] fun G=>(vN n),pv 1 13 [0] [] fun G=>(vN (rs n 1)),ldv 2 14 [] [] [1000] fun G=>(vN n),pv 3 15 [1,2] [] fun G=>(vN (o2 n)),alv 4 3 [] [] fun G g=>[bl g 170 z4],stv 5 [3,4] [4] 4 fun G=>[bl (G 4).g 170 (cN (o2 n))]] (fun G=>[(3,(.pointer (some ⟨(G 4).g,0,none⟩))),(2,(.pointer (some ⟨g2,0,none⟩))),(1,(.pointer (some ⟨g1,0,none⟩)))]) (fun G=>[[bl g1 170 (cN n)],[bl g2 170 z4],[bl (G 4).g 170 (cN (o2 n))]]) hH (.c (.ld (fun G _ _ hH=>(hH.q 0 rfl)) fun G=>(.lr 4)) <| .c (Sp.c Tryz.func163 (fun G=>(dj n 1 hn (by decide))) fun _=>trivial) <| .c (.ld (fun G _ _ hH=>(hH.q 0 rfl)) fun G=>(.lr 4)) <| .c (Sp.c Tryz.func137 (fun G=>(cS (rs n 1) n (bZ hn 1) hn)) fun _=>trivial) <| .c (.a (fun _ _ _ _=>trivial) (fun G=>(.az (.agg z4))) fun _ _ _ h=>h) <| .c (.tn (fun G=>(.sr 4 (cs:=z4))) (fun _ _ _ _=>trivial) fun _ _ _ h=>h) <| .nil) ?_
 clear hH
 rintro G w-hH
 revert hH
 generalize (G 4).g=g3
 intro hH
 refine rn ?_
 refine zx ?_
 replace hH:=hH.drew
 refine de 0 [ldv 0 16 [] [] [1002] fun G=>(vN (o2 n)),pv 1 17 [0] [] fun G=>(vN (rs (o2 n) 2)),ldv 2 18 [] [] [1002] fun G=>(vN (o2 n)),pv 3 19 [1,2] [] fun G=>(vN (o4 n)),alv 4 4 [] [] fun G g=>[bl g 170 z4],stv 5 [3,4] [4] 4 fun G=>[bl (G 4).g 170 (cN (o4 n))]] (fun G=>[(4,(.pointer (some ⟨(G 4).g,0,none⟩))),(2,(.pointer (some ⟨g2,0,none⟩))),(1,(.pointer (some ⟨g1,0,none⟩)))]) (fun G=>[[bl g1 170 (cN n)],[bl g2 170 z4],[bl g3 170 (cN (o2 n))],[bl (G 4).g 170 (cN (o4 n))]]) hH (.c (.ld (fun G _ _ hH=>(hH.q 0 rfl)) fun G=>(.lr 4)) <| .c (Sp.c Tryz.func163 (fun G=>(dj (o2 n) 2 (oh hn) (by decide))) fun _=>trivial) <| .c (.ld (fun G _ _ hH=>(hH.q 0 rfl)) fun G=>(.lr 4)) <| .c (Sp.c Tryz.func137 (fun G=>(cS (rs (o2 n) 2) (o2 n) (bZ (oh hn) 2) (oh hn))) fun _=>trivial) <| .c (.a (fun _ _ _ _=>trivial) (fun G=>(.az (.agg z4))) fun _ _ _ h=>h) <| .c (.tn (fun G=>(.sr 4 (cs:=z4))) (fun _ _ _ _=>trivial) fun _ _ _ h=>h) <| .nil) ?_
 clear hH
 rintro G w-hH
 revert hH
 generalize (G 4).g=g4
 intro hH
 refine rn ?_
 refine zx ?_
 replace hH:=hH.drew
 refine de 0 [ldv 0 20 [] [] [1003] fun G=>(vN (o4 n)),pv 1 21 [0] [] fun G=>(vN (rs (o4 n) 1)),ldv 2 22 [] [] [1000] fun G=>(vN n),pv 3 23 [1,2] [] fun G=>(vN (o5 n)),alv 4 5 [] [] fun G g=>[bl g 170 z4],stv 5 [3,4] [4] 4 fun G=>[bl (G 4).g 170 (cN (o5 n))]] (fun G=>[(5,(.pointer (some ⟨(G 4).g,0,none⟩))),(2,(.pointer (some ⟨g2,0,none⟩)))]) (fun G=>[[bl g1 170 (cN n)],[bl g2 170 z4],[bl g3 170 (cN (o2 n))],[bl g4 170 (cN (o4 n))],[bl (G 4).g 170 (cN (o5 n))]]) hH (.c (.ld (fun G _ _ hH=>(hH.q 0 rfl)) fun G=>(.lr 4)) <| .c (Sp.c Tryz.func163 (fun G=>(dj (o4 n) 1 (uq hn) (by decide))) fun _=>trivial) <| .c (.ld (fun G _ _ hH=>(hH.q 0 rfl)) fun G=>(.lr 4)) <| .c (Sp.c Tryz.func137 (fun G=>(cS (rs (o4 n) 1) n (bZ (uq hn) 1) hn)) fun _=>trivial) <| .c (.a (fun _ _ _ _=>trivial) (fun G=>(.az (.agg z4))) fun _ _ _ h=>h) <| .c (.tn (fun G=>(.sr 4 (cs:=z4))) (fun _ _ _ _=>trivial) fun _ _ _ h=>h) <| .nil) ?_
 clear hH
 rintro G w-hH
 revert hH
 generalize (G 4).g=g5
 intro hH
 refine rn ?_
 refine zx ?_
 replace hH:=hH.drew
 refine de 0 [ldv 0 24 [] [] [1004] fun G=>(vN (o5 n)),pv 1 25 [0] [] fun G=>(vN (rs (o5 n) 5)),ldv 2 26 [] [] [1004] fun G=>(vN (o5 n)),pv 3 27 [1,2] [] fun G=>(vN (o10 n)),alv 4 6 [] [] fun G g=>[bl g 170 z4],stv 5 [3,4] [4] 4 fun G=>[bl (G 4).g 170 (cN (o10 n))]] (fun G=>[(6,(.pointer (some ⟨(G 4).g,0,none⟩))),(2,(.pointer (some ⟨g2,0,none⟩)))]) (fun G=>[[bl g1 170 (cN n)],[bl g2 170 z4],[bl g3 170 (cN (o2 n))],[bl g4 170 (cN (o4 n))],[bl g5 170 (cN (o5 n))],[bl (G 4).g 170 (cN (o10 n))]]) hH (.c (.ld (fun G _ _ hH=>(hH.q 0 rfl)) fun G=>(.lr 4)) <| .c (Sp.c Tryz.func163 (fun G=>(dj (o5 n) 5 (ol hn) (by decide))) fun _=>trivial) <| .c (.ld (fun G _ _ hH=>(hH.q 0 rfl)) fun G=>(.lr 4)) <| .c (Sp.c Tryz.func137 (fun G=>(cS (rs (o5 n) 5) (o5 n) (bZ (ol hn) 5) (ol hn))) fun _=>trivial) <| .c (.a (fun _ _ _ _=>trivial) (fun G=>(.az (.agg z4))) fun _ _ _ h=>h) <| .c (.tn (fun G=>(.sr 4 (cs:=z4))) (fun _ _ _ _=>trivial) fun _ _ _ h=>h) <| .nil) ?_
 clear hH
 rintro G w-hH
 revert hH
 generalize (G 4).g=g6
 intro hH
 refine rn ?_
 refine zx ?_
 replace hH:=hH.drew
 refine de 0 [ldv 0 28 [] [] [1005] fun G=>(vN (o10 n)),pv 1 29 [0] [] fun G=>(vN (rs (o10 n) 10)),ldv 2 30 [] [] [1005] fun G=>(vN (o10 n)),pv 3 31 [1,2] [] fun G=>(vN (o20 n)),alv 4 7 [] [] fun G g=>[bl g 170 z4],stv 5 [3,4] [4] 4 fun G=>[bl (G 4).g 170 (cN (o20 n))]] (fun G=>[(7,(.pointer (some ⟨(G 4).g,0,none⟩))),(6,(.pointer (some ⟨g6,0,none⟩))),(2,(.pointer (some ⟨g2,0,none⟩)))]) (fun G=>[[bl g1 170 (cN n)],[bl g2 170 z4],[bl g3 170 (cN (o2 n))],[bl g4 170 (cN (o4 n))],[bl g5 170 (cN (o5 n))],[bl g6 170 (cN (o10 n))],[bl (G 4).g 170 (cN (o20 n))]]) hH (.c (.ld (fun G _ _ hH=>(hH.q 0 rfl)) fun G=>(.lr 4)) <| .c (Sp.c Tryz.func163 (fun G=>(dj (o10 n) 10 (gW hn) (by decide))) fun _=>trivial) <| .c (.ld (fun G _ _ hH=>(hH.q 0 rfl)) fun G=>(.lr 4)) <| .c (Sp.c Tryz.func137 (fun G=>(cS (rs (o10 n) 10) (o10 n) (bZ (gW hn) 10) (gW hn))) fun _=>trivial) <| .c (.a (fun _ _ _ _=>trivial) (fun G=>(.az (.agg z4))) fun _ _ _ h=>h) <| .c (.tn (fun G=>(.sr 4 (cs:=z4))) (fun _ _ _ _=>trivial) fun _ _ _ h=>h) <| .nil) ?_
 clear hH
 rintro G w-hH
 revert hH
 generalize (G 4).g=g7
 intro hH
 refine rn ?_
 refine zx ?_
 replace hH:=hH.drew
 refine de 0 [ldv 0 32 [] [] [1006] fun G=>(vN (o20 n)),pv 1 33 [0] [] fun G=>(vN (rs (o20 n) 20)),ldv 2 34 [] [] [1006] fun G=>(vN (o20 n)),pv 3 35 [1,2] [] fun G=>(vN (o40 n)),alv 4 8 [] [] fun G g=>[bl g 170 z4],stv 5 [3,4] [4] 4 fun G=>[bl (G 4).g 170 (cN (o40 n))]] (fun G=>[(8,(.pointer (some ⟨(G 4).g,0,none⟩))),(6,(.pointer (some ⟨g6,0,none⟩))),(2,(.pointer (some ⟨g2,0,none⟩)))]) (fun G=>[[bl g1 170 (cN n)],[bl g2 170 z4],[bl g3 170 (cN (o2 n))],[bl g4 170 (cN (o4 n))],[bl g5 170 (cN (o5 n))],[bl g6 170 (cN (o10 n))],[bl g7 170 (cN (o20 n))],[bl (G 4).g 170 (cN (o40 n))]]) hH (.c (.ld (fun G _ _ hH=>(hH.q 0 rfl)) fun G=>(.lr 4)) <| .c (Sp.c Tryz.func163 (fun G=>(dj (o20 n) 20 (kN hn) (by decide))) fun _=>trivial) <| .c (.ld (fun G _ _ hH=>(hH.q 0 rfl)) fun G=>(.lr 4)) <| .c (Sp.c Tryz.func137 (fun G=>(cS (rs (o20 n) 20) (o20 n) (bZ (kN hn) 20) (kN hn))) fun _=>trivial) <| .c (.a (fun _ _ _ _=>trivial) (fun G=>(.az (.agg z4))) fun _ _ _ h=>h) <| .c (.tn (fun G=>(.sr 4 (cs:=z4))) (fun _ _ _ _=>trivial) fun _ _ _ h=>h) <| .nil) ?_
 clear hH
 rintro G w-hH
 revert hH
 generalize (G 4).g=g8
 intro hH
 refine rn ?_
 refine zx ?_
 replace hH:=hH.drew
 refine de 0 [ldv 0 36 [] [] [1007] fun G=>(vN (o40 n)),pv 1 37 [0] [] fun G=>(vN (rs (o40 n) 10)),ldv 2 38 [] [] [1005] fun G=>(vN (o10 n)),pv 3 39 [1,2] [] fun G=>(vN (o50 n)),alv 4 9 [] [] fun G g=>[bl g 170 z4],stv 5 [3,4] [4] 4 fun G=>[bl (G 4).g 170 (cN (o50 n))]] (fun G=>[(9,(.pointer (some ⟨(G 4).g,0,none⟩))),(2,(.pointer (some ⟨g2,0,none⟩)))]) (fun G=>[[bl g1 170 (cN n)],[bl g2 170 z4],[bl g3 170 (cN (o2 n))],[bl g4 170 (cN (o4 n))],[bl g5 170 (cN (o5 n))],[bl g6 170 (cN (o10 n))],[bl g7 170 (cN (o20 n))],[bl g8 170 (cN (o40 n))],[bl (G 4).g 170 (cN (o50 n))]]) hH (.c (.ld (fun G _ _ hH=>(hH.q 0 rfl)) fun G=>(.lr 4)) <| .c (Sp.c Tryz.func163 (fun G=>(dj (o40 n) 10 (pr hn) (by decide))) fun _=>trivial) <| .c (.ld (fun G _ _ hH=>(hH.q 0 rfl)) fun G=>(.lr 4)) <| .c (Sp.c Tryz.func137 (fun G=>(cS (rs (o40 n) 10) (o10 n) (bZ (pr hn) 10) (gW hn))) fun _=>trivial) <| .c (.a (fun _ _ _ _=>trivial) (fun G=>(.az (.agg z4))) fun _ _ _ h=>h) <| .c (.tn (fun G=>(.sr 4 (cs:=z4))) (fun _ _ _ _=>trivial) fun _ _ _ h=>h) <| .nil) ?_
 clear hH
 rintro G w-hH
 revert hH
 generalize (G 4).g=g9
 intro hH
 refine rn ?_
 refine zx ?_
 replace hH:=hH.drew
 refine de 0 [ldv 0 40 [] [] [1008] fun G=>(vN (o50 n)),pv 1 41 [0] [] fun G=>(vN (rs (o50 n) 50)),ldv 2 42 [] [] [1008] fun G=>(vN (o50 n)),pv 3 43 [1,2] [] fun G=>(vN (jg n)),alv 4 10 [] [] fun G g=>[bl g 170 z4],stv 5 [3,4] [4] 4 fun G=>[bl (G 4).g 170 (cN (jg n))]] (fun G=>[(10,(.pointer (some ⟨(G 4).g,0,none⟩))),(9,(.pointer (some ⟨g9,0,none⟩))),(2,(.pointer (some ⟨g2,0,none⟩)))]) (fun G=>[[bl g1 170 (cN n)],[bl g2 170 z4],[bl g3 170 (cN (o2 n))],[bl g4 170 (cN (o4 n))],[bl g5 170 (cN (o5 n))],[bl g6 170 (cN (o10 n))],[bl g7 170 (cN (o20 n))],[bl g8 170 (cN (o40 n))],[bl g9 170 (cN (o50 n))],[bl (G 4).g 170 (cN (jg n))]]) hH (.c (.ld (fun G _ _ hH=>(hH.q 0 rfl)) fun G=>(.lr 4)) <| .c (Sp.c Tryz.func163 (fun G=>(dj (o50 n) 50 (gX hn) (by decide))) fun _=>trivial) <| .c (.ld (fun G _ _ hH=>(hH.q 0 rfl)) fun G=>(.lr 4)) <| .c (Sp.c Tryz.func137 (fun G=>(cS (rs (o50 n) 50) (o50 n) (bZ (gX hn) 50) (gX hn))) fun _=>trivial) <| .c (.a (fun _ _ _ _=>trivial) (fun G=>(.az (.agg z4))) fun _ _ _ h=>h) <| .c (.tn (fun G=>(.sr 4 (cs:=z4))) (fun _ _ _ _=>trivial) fun _ _ _ h=>h) <| .nil) ?_
 clear hH
 rintro G w-hH
 revert hH
 generalize (G 4).g=g10
 intro hH
 refine rn ?_
 refine zx ?_
 replace hH:=hH.drew
 refine de 0 [ldv 0 44 [] [] [1009] fun G=>(vN (jg n)),pv 1 45 [0] [] fun G=>(vN (rs (jg n) 100)),ldv 2 46 [] [] [1009] fun G=>(vN (jg n)),pv 3 47 [1,2] [] fun G=>(vN (pq n)),alv 4 11 [] [] fun G g=>[bl g 170 z4],stv 5 [3,4] [4] 4 fun G=>[bl (G 4).g 170 (cN (pq n))]] (fun G=>[(11,(.pointer (some ⟨(G 4).g,0,none⟩))),(9,(.pointer (some ⟨g9,0,none⟩))),(2,(.pointer (some ⟨g2,0,none⟩)))]) (fun G=>[[bl g1 170 (cN n)],[bl g2 170 z4],[bl g3 170 (cN (o2 n))],[bl g4 170 (cN (o4 n))],[bl g5 170 (cN (o5 n))],[bl g6 170 (cN (o10 n))],[bl g7 170 (cN (o20 n))],[bl g8 170 (cN (o40 n))],[bl g9 170 (cN (o50 n))],[bl g10 170 (cN (jg n))],[bl (G 4).g 170 (cN (pq n))]]) hH (.c (.ld (fun G _ _ hH=>(hH.q 0 rfl)) fun G=>(.lr 4)) <| .c (Sp.c Tryz.func163 (fun G=>(dj (jg n) 100 (iJ hn) (by decide))) fun _=>trivial) <| .c (.ld (fun G _ _ hH=>(hH.q 0 rfl)) fun G=>(.lr 4)) <| .c (Sp.c Tryz.func137 (fun G=>(cS (rs (jg n) 100) (jg n) (bZ (iJ hn) 100) (iJ hn))) fun _=>trivial) <| .c (.a (fun _ _ _ _=>trivial) (fun G=>(.az (.agg z4))) fun _ _ _ h=>h) <| .c (.tn (fun G=>(.sr 4 (cs:=z4))) (fun _ _ _ _=>trivial) fun _ _ _ h=>h) <| .nil) ?_
 clear hH
 rintro G w-hH
 revert hH
 generalize (G 4).g=g11
 intro hH
 refine rn ?_
 refine zx ?_
 replace hH:=hH.drew
 refine rld 0 (hH.q 10 rfl) (.lr 4) 1 ?_
 refine rld 2 (hH.q 8 rfl) (.lr 4) 2 ?_
 refine ao 1 (rpc 1 Tryz.func163 (dj (pq n) 50 (mP hn) (by decide)) trivial hH 2 (.keep (pgo [] (.nil _ []))) ?_)
 clear hH
 intro w hH
 refine ⟨am (hH.blk 8 rfl) an,?_⟩
 refine ao 3 (rpc 3 Tryz.func137 (cS (rs (pq n) 50) (o50 n) (bZ (mP hn) 50) (gX hn)) trivial hH 3 (pgo [] (.nil _ [])) ?_)
 clear hH
 intro w hH
 refine ⟨an,ao 4 ?_⟩
 refine re0 4 1 hH rfl (.sr 4) trivial (.nil _ []) ?_
 clear hH
 rintro _ _ w rfl hH
 refine ⟨an,rn ?_⟩
 refine ar (aI 1 (hH.blk 1 rfl) rfl rfl (by kernel_rfl) rfl (by kernel_rfl) ?_)
 exact zE hH
theorem sJ(n:Nat)(hn:n<2^256):Pure Tryz.prog 139 #[(vN n)] (fun _=>True) (vN (iv n)):=by
 refine pU Tryz.func139 Tryz.ntmps139 ?_
 intro w0 hH hR
 refine zr (zm hH .bg trivial 1 ?_)
 clear hH
 rintro _ _ w ⟨g1,rfl,rfl⟩ hH
 refine zm hH (.az (.agg z4)) trivial 0 ?_
 clear hH
 rintro _ _ w ⟨g2,rfl,rfl⟩ hH
 refine zn (zx ?_)
 replace hH:=hH.drew
 refine de 0 [ldv 0 5 [] [] [1000] fun G=>(vN n),pv 1 6 [0] [] fun G=>(vN (rs n 1)),ldv 2 7 [] [] [1000] fun G=>(vN n),pv 3 8 [1,2] [] fun G=>(vN (i3 n)),alv 4 3 [] [] fun G g=>[bl g 170 z4],stv 5 [3,4] [4] 4 fun G=>[bl (G 4).g 170 (cN (i3 n))]] (fun G=>[(3,(.pointer (some ⟨(G 4).g,0,none⟩))),(2,(.pointer (some ⟨g2,0,none⟩))),(1,(.pointer (some ⟨g1,0,none⟩)))]) (fun G=>[[bl g1 170 (cN n)],[bl g2 170 z4],[bl (G 4).g 170 (cN (i3 n))]]) hH (.c (.ld (fun G _ _ hH=>(hH.q 0 rfl)) fun G=>(.lr 4)) <| .c (Sp.c Tryz.func163 (fun G=>(dj n 1 hn (by decide))) fun _=>trivial) <| .c (.ld (fun G _ _ hH=>(hH.q 0 rfl)) fun G=>(.lr 4)) <| .c (Sp.c Tryz.func137 (fun G=>(cS (rs n 1) n (bZ hn 1) hn)) fun _=>trivial) <| .c (.a (fun _ _ _ _=>trivial) (fun G=>(.az (.agg z4))) fun _ _ _ h=>h) <| .c (.tn (fun G=>(.sr 4 (cs:=z4))) (fun _ _ _ _=>trivial) fun _ _ _ h=>h) <| .nil) ?_
 clear hH
 rintro G w-hH
 revert hH
 generalize (G 4).g=g3
 intro hH
 refine rn ?_
 refine zx ?_
 replace hH:=hH.drew
 refine de 0 [ldv 0 9 [] [] [1000] fun G=>(vN n),pv 1 10 [0] [] fun G=>(vN (rs n 3)),ldv 2 11 [] [] [1002] fun G=>(vN (i3 n)),pv 3 12 [1,2] [] fun G=>(vN (i11 n)),alv 4 4 [] [] fun G g=>[bl g 170 z4],stv 5 [3,4] [4] 4 fun G=>[bl (G 4).g 170 (cN (i11 n))]] (fun G=>[(4,(.pointer (some ⟨(G 4).g,0,none⟩))),(2,(.pointer (some ⟨g2,0,none⟩))),(1,(.pointer (some ⟨g1,0,none⟩)))]) (fun G=>[[bl g1 170 (cN n)],[bl g2 170 z4],[bl g3 170 (cN (i3 n))],[bl (G 4).g 170 (cN (i11 n))]]) hH (.c (.ld (fun G _ _ hH=>(hH.q 0 rfl)) fun G=>(.lr 4)) <| .c (Sp.c Tryz.func163 (fun G=>(dj n 3 hn (by decide))) fun _=>trivial) <| .c (.ld (fun G _ _ hH=>(hH.q 0 rfl)) fun G=>(.lr 4)) <| .c (Sp.c Tryz.func137 (fun G=>(cS (rs n 3) (i3 n) (bZ hn 3) (yh hn))) fun _=>trivial) <| .c (.a (fun _ _ _ _=>trivial) (fun G=>(.az (.agg z4))) fun _ _ _ h=>h) <| .c (.tn (fun G=>(.sr 4 (cs:=z4))) (fun _ _ _ _=>trivial) fun _ _ _ h=>h) <| .nil) ?_
 clear hH
 rintro G w-hH
 revert hH
 generalize (G 4).g=g4
 intro hH
 refine rn ?_
 refine zx ?_
 replace hH:=hH.drew
 refine rld 0 (hH.q 0 rfl) (.lr 4) 4 ?_
 refine rld 3 (hH.q 3 rfl) (.lr 4) 2 ?_
 refine ao 1 (rpc 1 Tryz.func164 (uz n hn) trivial hH 2 (.keep (pgo [] (.nil _ []))) ?_)
 clear hH
 intro w hH
 refine ⟨am (hH.blk 3 rfl) an,?_⟩
 refine ao 2 (rpc 2 Tryz.func163 (dj (kL n) 5 (gy hn) (by decide)) trivial hH 1 (.keep (.nil _ [])) ?_)
 clear hH
 intro w hH
 refine ⟨am (hH.blk 3 rfl) an,?_⟩
 refine ao 4 (rpc 4 Tryz.func137 (cS (rs (kL n) 5) (i11 n) (bZ (gy hn) 5) (ur hn)) trivial hH 3 (pgo [] (.nil _ [])) ?_)
 clear hH
 intro w hH
 refine ⟨an,ao 5 ?_⟩
 refine re0 5 1 hH rfl (.sr 4) trivial (.nil _ []) ?_
 clear hH
 rintro _ _ w rfl hH
 refine ⟨an,rn ?_⟩
 refine ar (aI 1 (hH.blk 1 rfl) rfl rfl (by kernel_rfl) rfl (by kernel_rfl) ?_)
 exact zE hH
theorem sK(V i k:Nat)(hk:k<8):UInt8.ofNat (wd V i/2^(8*k))=aZ V (8*i+k):=by
 apply UInt8.toNat_inj.1
 have h:=iF V (8*i+k)
 rw[show (8*i+k)/8=i by omega,show (8*i+k)%8=k by omega]at h
 rw[UInt8.toNat_ofNat',dX,← h]
theorem es{n o j:Nat}(f:Nat→UInt8)(b:UInt8)(ho:o=j)(hj:j<n):bJ ((ac n).enc f) o (af.enc b).toList=(ac n).enc (stF f j b):=by
 subst ho
 have:=aQ f b hj
 rw[Nat.zero_add,Nat.mul_one]at this
 exact this
theorem uA(V i:Nat)(f:Nat→UInt8):stF (stF (stF (stF (stF (stF (stF (stF f (8*i+0) (UInt8.ofNat (wd V i))) (8*i+1) (UInt8.ofNat (wd V i/2^8))) (8*i+2) (UInt8.ofNat (wd V i/2^16))) (8*i+3) (UInt8.ofNat (wd V i/2^24))) (8*i+4) (UInt8.ofNat (wd V i/2^32))) (8*i+5) (UInt8.ofNat (wd V i/2^40))) (8*i+6) (UInt8.ofNat (wd V i/2^48))) (8*i+7) (UInt8.ofNat (wd V i/2^56))=fX V i f:=by
 have h:∀ k,k<8→UInt8.ofNat (wd V i/2^(8*k))=aZ V (8*i+k):=fun k hk=>sK V i k hk
 have h0:=h 0 (by decide)
 rw[show (2:Nat)^(8*0)=1 from rfl,Nat.div_one]at h0
 rw[h0,show UInt8.ofNat (wd V i/2^8)=_ from h 1 (by decide),show UInt8.ofNat (wd V i/2^16)=_ from h 2 (by decide),show UInt8.ofNat (wd V i/2^24)=_ from h 3 (by decide),show UInt8.ofNat (wd V i/2^32)=_ from h 4 (by decide),show UInt8.ofNat (wd V i/2^40)=_ from h 5 (by decide),show UInt8.ofNat (wd V i/2^48)=_ from h 6 (by decide),show UInt8.ofNat (wd V i/2^56)=_ from h 7 (by decide)]
 clear h h0
 funext j
 unfold fX
 by_cases hj:8*i≤j∧j<8*i+8
 ·rw[if_pos hj]
  obtain ⟨k,rfl⟩:∃ k,j=8*i+k:=⟨j-8*i,by omega⟩
  have hk:k=0∨k=1∨k=2∨k=3∨k=4∨k=5∨k=6∨k=7:=by omega
  rcases hk with rfl | rfl | rfl | rfl | rfl | rfl | rfl | rfl<;>simp[stF]
 ·rw[if_neg hj]
  have hne:∀ k,k<8→j≠8*i+k:=fun k hk h=>hj (by omega)
  unfold stF
  rw[if_neg (hne 7 (by decide)),if_neg (hne 6 (by decide)),if_neg (hne 5 (by decide)),if_neg (hne 4 (by decide)),if_neg (hne 3 (by decide)),if_neg (hne 2 (by decide)),if_neg (hne 1 (by decide)),if_neg (hne 0 (by decide))]
theorem wU(b:Nat→UInt8)(i j:Nat)(hi:i<4)(hj:j<8):(((lst 32 b).take (8*i+8)).drop (8*i)).getD j 0=b (8*i+j):=by
 rw[List.getD_eq_getElem?_getD,List.getElem?_drop,List.getElem?_take,if_pos (by omega),bB (by omega)]
 rfl
theorem jY(b:Nat→UInt8)(i:Nat)(hi:i<4):lv (fun j=>(((lst 32 b).take (8*i+8)).drop (8*i)).getD j 0) 8=wd (lv b 32) i:=by
 rw[← Bx b i hi]
 exact kE fun j hj=>wU b i j hi hj
theorem iL(b:Nat→UInt8)(i:Nat)(hi:i<4):(((lst 32 b).take (8*i+8)).drop (8*i)).length=8:=by
 rw[List.length_drop,List.length_take,ap];omega
theorem mU(A:Option Addr)(c:Nat)(l:List UInt8)(hl:l.length=8):Pure Tryz.prog 162 #[(.slice A 8 c)] (fun w=>Vu af w A 8 c l) (.int .u64 ((lv (fun j=>l.getD j 0) 8:Nat):Int)):=by
 refine pU Tryz.func162 Tryz.ntmps162 ?_
 intro w0 hH hR
 obtain ⟨f,hf⟩:∃ f:Nat→UInt8,f=fun j=>l.getD j 0:=⟨_,rfl⟩
 have hx0:l[0]?=some (f 0):=by rw[hf];show _=some (l.getD 0 0);rw[List.getD_eq_getElem?_getD,List.getElem?_eq_getElem (by omega)];rfl
 have hx1:l[1]?=some (f 1):=by rw[hf];show _=some (l.getD 1 0);rw[List.getD_eq_getElem?_getD,List.getElem?_eq_getElem (by omega)];rfl
 have hx2:l[2]?=some (f 2):=by rw[hf];show _=some (l.getD 2 0);rw[List.getD_eq_getElem?_getD,List.getElem?_eq_getElem (by omega)];rfl
 have hx3:l[3]?=some (f 3):=by rw[hf];show _=some (l.getD 3 0);rw[List.getD_eq_getElem?_getD,List.getElem?_eq_getElem (by omega)];rfl
 have hx4:l[4]?=some (f 4):=by rw[hf];show _=some (l.getD 4 0);rw[List.getD_eq_getElem?_getD,List.getElem?_eq_getElem (by omega)];rfl
 have hx5:l[5]?=some (f 5):=by rw[hf];show _=some (l.getD 5 0);rw[List.getD_eq_getElem?_getD,List.getElem?_eq_getElem (by omega)];rfl
 have hx6:l[6]?=some (f 6):=by rw[hf];show _=some (l.getD 6 0);rw[List.getD_eq_getElem?_getD,List.getElem?_eq_getElem (by omega)];rfl
 have hx7:l[7]?=some (f 7):=by rw[hf];show _=some (l.getD 7 0);rw[List.getD_eq_getElem?_getD,List.getElem?_eq_getElem (by omega)];rfl
 have hb0:=(f 0).toNat_lt
 have h1:(f 0).toNat=lv f 1:=by show _=0+(f 0).toNat*1;omega
 have ho1:=(bG f 1 (by decide)).1
 rw[← h1]at ho1
 refine zr (zv .mv 0 ?_)
 refine zn (zx ?_)
 replace hH:=hH.drew
 refine rv 0 .mv 0 ?_
 have hi1:0<8:=by omega
 obtain ⟨b2,off3,rfl,hL4,hb5,hR6⟩:=hR.blk (by decide) (Off.nil _ _) (by omega)
 have:=hR.cap
 have hj9:0<l.length:=by first | exact hi1 | (simp only[List.length_drop];omega) | (simp only[List.length_drop,List.length_take];omega) | omega
 refine rv 1 (.ix 1 0 (hi:=hi1)) 1 ?_
 refine rld 2 (S:=fun w=>HoldsL af w b2 off3 l) (hH.holdsL hL4 hb5 hR6) (.ld af (f 0) (fun _ hS=>(hS 0 _ hx0))) 1 ?_
 refine rv 3 (.cu .u64 (hh:=Nat.lt_of_lt_of_le (UInt8.toNat_lt (f 0)) (by decide))) 1 ?_
 refine rv 4 .mv 0 ?_
 have hi10:1<8:=by omega
 have hj13:1<l.length:=by first | exact hi10 | (simp only[List.length_drop];omega) | (simp only[List.length_drop,List.length_take];omega) | omega
 refine rv 5 (.ix 1 1 (hi:=hi10)) 1 ?_
 refine rld 6 (S:=fun w=>HoldsL af w b2 off3 l) (hH.holdsL hL4 hb5 hR6) (.ld af (f 1) (fun _ hS=>(hS 1 _ hx1))) 1 ?_
 refine rv 7 (.cu .u64 (hh:=Nat.lt_of_lt_of_le (UInt8.toNat_lt (f 1)) (by decide))) 1 ?_
 refine rv 8 (.lu ((f 1).toNat*2^(8*1)) (j:=8) (hz:=Nat.mod_eq_of_lt (bG f 1 (by decide)).2.2)) 1 ?_
 refine rv 9 (.ou (lv f 2) (show (f 0).toNat<2^64 from Nat.lt_of_lt_of_le (UInt8.toNat_lt (f 0)) (by decide)) (bG f 1 (by decide)).2.2 (ho1)) 3 ?_
 refine rv 10 .mv 0 ?_
 have hi14:2<8:=by omega
 have hj17:2<l.length:=by first | exact hi14 | (simp only[List.length_drop];omega) | (simp only[List.length_drop,List.length_take];omega) | omega
 refine rv 11 (.ix 1 2 (hi:=hi14)) 1 ?_
 refine rld 12 (S:=fun w=>HoldsL af w b2 off3 l) (hH.holdsL hL4 hb5 hR6) (.ld af (f 2) (fun _ hS=>(hS 2 _ hx2))) 1 ?_
 refine rv 13 (.cu .u64 (hh:=Nat.lt_of_lt_of_le (UInt8.toNat_lt (f 2)) (by decide))) 1 ?_
 refine rv 14 (.lu ((f 2).toNat*2^(8*2)) (j:=16) (hz:=Nat.mod_eq_of_lt (bG f 2 (by decide)).2.2)) 1 ?_
 refine rv 15 (.ou (lv f 3) (bG f 2 (by decide)).2.1 (bG f 2 (by decide)).2.2 ((bG f 2 (by decide)).1)) 3 ?_
 refine rv 16 .mv 0 ?_
 have hi18:3<8:=by omega
 have hj21:3<l.length:=by first | exact hi18 | (simp only[List.length_drop];omega) | (simp only[List.length_drop,List.length_take];omega) | omega
 refine rv 17 (.ix 1 3 (hi:=hi18)) 1 ?_
 refine rld 18 (S:=fun w=>HoldsL af w b2 off3 l) (hH.holdsL hL4 hb5 hR6) (.ld af (f 3) (fun _ hS=>(hS 3 _ hx3))) 1 ?_
 refine rv 19 (.cu .u64 (hh:=Nat.lt_of_lt_of_le (UInt8.toNat_lt (f 3)) (by decide))) 1 ?_
 refine rv 20 (.lu ((f 3).toNat*2^(8*3)) (j:=24) (hz:=Nat.mod_eq_of_lt (bG f 3 (by decide)).2.2)) 1 ?_
 refine rv 21 (.ou (lv f 4) (bG f 3 (by decide)).2.1 (bG f 3 (by decide)).2.2 ((bG f 3 (by decide)).1)) 3 ?_
 refine rv 22 .mv 0 ?_
 have hi22:4<8:=by omega
 have hj25:4<l.length:=by first | exact hi22 | (simp only[List.length_drop];omega) | (simp only[List.length_drop,List.length_take];omega) | omega
 refine rv 23 (.ix 1 4 (hi:=hi22)) 1 ?_
 refine rld 24 (S:=fun w=>HoldsL af w b2 off3 l) (hH.holdsL hL4 hb5 hR6) (.ld af (f 4) (fun _ hS=>(hS 4 _ hx4))) 1 ?_
 refine rv 25 (.cu .u64 (hh:=Nat.lt_of_lt_of_le (UInt8.toNat_lt (f 4)) (by decide))) 1 ?_
 refine rv 26 (.lu ((f 4).toNat*2^(8*4)) (j:=32) (hz:=Nat.mod_eq_of_lt (bG f 4 (by decide)).2.2)) 1 ?_
 refine rv 27 (.ou (lv f 5) (bG f 4 (by decide)).2.1 (bG f 4 (by decide)).2.2 ((bG f 4 (by decide)).1)) 3 ?_
 refine rv 28 .mv 0 ?_
 have hi26:5<8:=by omega
 have hj29:5<l.length:=by first | exact hi26 | (simp only[List.length_drop];omega) | (simp only[List.length_drop,List.length_take];omega) | omega
 refine rv 29 (.ix 1 5 (hi:=hi26)) 1 ?_
 refine rld 30 (S:=fun w=>HoldsL af w b2 off3 l) (hH.holdsL hL4 hb5 hR6) (.ld af (f 5) (fun _ hS=>(hS 5 _ hx5))) 1 ?_
 refine rv 31 (.cu .u64 (hh:=Nat.lt_of_lt_of_le (UInt8.toNat_lt (f 5)) (by decide))) 1 ?_
 refine rv 32 (.lu ((f 5).toNat*2^(8*5)) (j:=40) (hz:=Nat.mod_eq_of_lt (bG f 5 (by decide)).2.2)) 1 ?_
 refine rv 33 (.ou (lv f 6) (bG f 5 (by decide)).2.1 (bG f 5 (by decide)).2.2 ((bG f 5 (by decide)).1)) 3 ?_
 refine rv 34 .mv 0 ?_
 have hi30:6<8:=by omega
 have hj33:6<l.length:=by first | exact hi30 | (simp only[List.length_drop];omega) | (simp only[List.length_drop,List.length_take];omega) | omega
 refine rv 35 (.ix 1 6 (hi:=hi30)) 1 ?_
 refine rld 36 (S:=fun w=>HoldsL af w b2 off3 l) (hH.holdsL hL4 hb5 hR6) (.ld af (f 6) (fun _ hS=>(hS 6 _ hx6))) 1 ?_
 refine rv 37 (.cu .u64 (hh:=Nat.lt_of_lt_of_le (UInt8.toNat_lt (f 6)) (by decide))) 1 ?_
 refine rv 38 (.lu ((f 6).toNat*2^(8*6)) (j:=48) (hz:=Nat.mod_eq_of_lt (bG f 6 (by decide)).2.2)) 1 ?_
 refine rv 39 (.ou (lv f 7) (bG f 6 (by decide)).2.1 (bG f 6 (by decide)).2.2 ((bG f 6 (by decide)).1)) 3 ?_
 refine rv 40 .mv 4 ?_
 have hi34:7<8:=by omega
 have hj37:7<l.length:=by first | exact hi34 | (simp only[List.length_drop];omega) | (simp only[List.length_drop,List.length_take];omega) | omega
 refine rv 41 (.ix 1 7 (hi:=hi34)) 1 ?_
 refine rld 42 (S:=fun w=>HoldsL af w b2 off3 l) (hH.holdsL hL4 hb5 hR6) (.ld af (f 7) (fun _ hS=>(hS 7 _ hx7))) 1 ?_
 refine rv 43 (.cu .u64 (hh:=Nat.lt_of_lt_of_le (UInt8.toNat_lt (f 7)) (by decide))) 1 ?_
 refine rv 44 (.lu ((f 7).toNat*2^(8*7)) (j:=56) (hz:=Nat.mod_eq_of_lt (bG f 7 (by decide)).2.2)) 1 ?_
 refine rv 45 (.ou (lv f 8) (bG f 7 (by decide)).2.1 (bG f 7 (by decide)).2.2 ((bG f 7 (by decide)).1)) 3 ?_
 refine rv 46 .mv 3 ?_
 refine rn ?_
 refine ar (aW 0 rfl rfl ?_)
 exact ⟨by rw[← hf],HH.toBelow hH⟩
theorem gg(b:Nat→UInt8):Pure Tryz.prog 138 #[((ac 32).val b)] (fun _=>True) (vN (lv b 32)):=by
 refine pU Tryz.func138 Tryz.ntmps138 ?_
 intro w0 hH hR
 refine zr (zB hH (ac 32) b 1 ?_)
 clear hH
 intro g1 w hH
 refine zm hH (.az (.agg z4)) trivial 0 ?_
 clear hH
 rintro _ _ w ⟨g2,rfl,rfl⟩ hH
 refine zn (zx ?_)
 replace hH:=hH.drew
 refine rv 0 (v:=(.slice (some ⟨g1,0+0*1,none⟩) (8-0) (32-0))) (fun _ _ hF=>dl (m:=32) (l:=0) (h:=8) (e:=5) (sz:=1) rfl (by kernel_rfl) (by kernel_rfl) (hF.ev 1 rfl) rfl rfl rfl rfl (by omega) (by omega) (by omega)) 0 ?_
 refine rv 2 (v:=(.slice (some ⟨g1,0+8*1,none⟩) (16-8) (32-8))) (fun _ _ hF=>dl (m:=32) (l:=8) (h:=16) (e:=5) (sz:=1) rfl (by kernel_rfl) (by kernel_rfl) (hF.ev 2 rfl) rfl rfl rfl rfl (by omega) (by omega) (by omega)) 0 ?_
 refine rv 4 (v:=(.slice (some ⟨g1,0+16*1,none⟩) (24-16) (32-16))) (fun _ _ hF=>dl (m:=32) (l:=16) (h:=24) (e:=5) (sz:=1) rfl (by kernel_rfl) (by kernel_rfl) (hF.ev 3 rfl) rfl rfl rfl rfl (by omega) (by omega) (by omega)) 0 ?_
 refine rv 6 (v:=(.slice (some ⟨g1,0+24*1,none⟩) (32-24) (32-24))) (fun _ _ hF=>dl (m:=32) (l:=24) (h:=32) (e:=5) (sz:=1) rfl (by kernel_rfl) (by kernel_rfl) (hF.ev 4 rfl) rfl rfl rfl rfl (by omega) (by omega) (by omega)) 16 ?_
 refine ao 1 (rpc 1 Tryz.func162 ((mU (some ⟨g1,0+0*1,none⟩) (32-0) _ (iL b 0 (by decide))).as (congrArg (fun x:Nat=>Value.int .u64 (x:Int)) (jY b 0 (by decide)))) (bu (sz:=1) (b:=g1) (off:=0) (c:=32) (k:=0) (by omega)▸((dx (ae (hH.blk 0 rfl))).cut (k:=0) (m:=8) (by omega) (by omega))) hH 8 (.nil _ []) ?_)
 clear hH
 intro w hH
 refine ⟨an,?_⟩
 refine ao 3 (rpc 3 Tryz.func162 ((mU (some ⟨g1,0+8*1,none⟩) (32-8) _ (iL b 1 (by decide))).as (congrArg (fun x:Nat=>Value.int .u64 (x:Int)) (jY b 1 (by decide)))) (bu (sz:=1) (b:=g1) (off:=0) (c:=32) (k:=8) (by omega)▸((dx (ae (hH.blk 0 rfl))).cut (k:=8) (m:=16) (by omega) (by omega))) hH 8 (.nil _ []) ?_)
 clear hH
 intro w hH
 refine ⟨an,?_⟩
 refine ao 5 (rpc 5 Tryz.func162 ((mU (some ⟨g1,0+16*1,none⟩) (32-16) _ (iL b 2 (by decide))).as (congrArg (fun x:Nat=>Value.int .u64 (x:Int)) (jY b 2 (by decide)))) (bu (sz:=1) (b:=g1) (off:=0) (c:=32) (k:=16) (by omega)▸((dx (ae (hH.blk 0 rfl))).cut (k:=16) (m:=24) (by omega) (by omega))) hH 8 (.nil _ []) ?_)
 clear hH
 intro w hH
 refine ⟨an,?_⟩
 refine ao 7 (rpc 7 Tryz.func162 ((mU (some ⟨g1,0+24*1,none⟩) (32-24) _ (iL b 3 (by decide))).as (congrArg (fun x:Nat=>Value.int .u64 (x:Int)) (jY b 3 (by decide)))) (bu (sz:=1) (b:=g1) (off:=0) (c:=32) (k:=24) (by omega)▸((dx (ae (hH.blk 0 rfl))).cut (k:=24) (m:=32) (by omega) (by omega))) hH 8 (.nil _ []) ?_)
 clear hH
 intro w hH
 refine ⟨an,rv 8 (v:=(vN (lv b 32))) (fun _ _ hF=>aE (cells := #[(.int .u64 (((wd (lv b 32) 0):Nat):Int)),(.int .u64 (((wd (lv b 32) 1):Nat):Int)),(.int .u64 (((wd (lv b 32) 2):Nat):Int)),(.int .u64 (((wd (lv b 32) 3):Nat):Int))]) rfl (EvP.cons (v:=(.int .u64 (((wd (lv b 32) 0):Nat):Int))) (hF.ev 3 rfl) (EvP.cons (v:=(.int .u64 (((wd (lv b 32) 1):Nat):Int))) (hF.ev 2 rfl) (EvP.cons (v:=(.int .u64 (((wd (lv b 32) 2):Nat):Int))) (hF.ev 1 rfl) (EvP.cons (v:=(.int .u64 (((wd (lv b 32) 3):Nat):Int))) (hF.ev 0 rfl) EvP.nil)))) rfl _) 15 ?_⟩
 refine ao 9 ?_
 refine re0 9 1 hH rfl (.sr 4) trivial (.nil _ []) ?_
 clear hH
 rintro _ _ w rfl hH
 refine ⟨an,rn ?_⟩
 refine ar (aI 1 (hH.blk 1 rfl) rfl rfl (by kernel_rfl) rfl (by kernel_rfl) ?_)
 exact zE hH
theorem gz(g i c V:Nat)(f:Nat→UInt8)(hi:i<4):Does Tryz.prog 159 #[(.slice (some ⟨g,8*i,none⟩) 8 c),(.int .u64 (((wd V i):Nat):Int))] [bl g 22 ((ac 32).enc f)] (fun _=>True) (fun v E'=>v=.tuple #[]∧E'=[bl g 22 ((ac 32).enc (fX V i f))]):=by
 refine dU Tryz.func159 Tryz.ntmps159 ?_
 intro w0 hH hR
 refine zr (zv .mv 0 ?_)
 refine zv .mv 0 ?_
 refine zv .mv 0 ?_
 refine zv .mv 0 ?_
 refine zv .mv 0 ?_
 refine zv .cb 1 ?_
 refine zv .mv 0 ?_
 refine zv (.su ((wd V i)/2^8) (j:=8)) 1 ?_
 refine zv .cb 1 ?_
 refine zv .mv 0 ?_
 refine zv (.su ((wd V i)/2^16) (j:=16)) 1 ?_
 refine zv .cb 1 ?_
 refine zv .mv 0 ?_
 refine zv (.su ((wd V i)/2^24) (j:=24)) 1 ?_
 refine zv .cb 1 ?_
 refine zv (.ix 1 0 (hi:=ltb rfl)) 128 ?_
 refine ze0 0 hH rfl (.st af (UInt8.ofNat (wd V i)) (by rw[Cod.size];show 8*i+0*1+1≤32;omega) (es (o:=8*i+0*1) (j:=8*i+0) f (UInt8.ofNat (wd V i)) (by omega) (by omega))) trivial ?_
 clear hH
 rintro _ _ w rfl hH
 refine zv (.ix 1 1 (hi:=ltb rfl)) 145 ?_
 refine ze0 0 hH rfl (.st af (UInt8.ofNat ((wd V i)/2^8)) (by rw[Cod.size];show 8*i+1*1+1≤32;omega) (es (o:=8*i+1*1) (j:=8*i+1) (stF f (8*i+0) (UInt8.ofNat (wd V i))) (UInt8.ofNat ((wd V i)/2^8)) (by omega) (by omega))) trivial ?_
 clear hH
 rintro _ _ w rfl hH
 refine zv (.ix 1 2 (hi:=ltb rfl)) 41 ?_
 refine ze0 0 hH rfl (.st af (UInt8.ofNat ((wd V i)/2^16)) (by rw[Cod.size];show 8*i+2*1+1≤32;omega) (es (o:=8*i+2*1) (j:=8*i+2) (stF (stF f (8*i+0) (UInt8.ofNat (wd V i))) (8*i+1) (UInt8.ofNat ((wd V i)/2^8))) (UInt8.ofNat ((wd V i)/2^16)) (by omega) (by omega))) trivial ?_
 clear hH
 rintro _ _ w rfl hH
 refine zv (.ix 1 3 (hi:=ltb rfl)) 13 ?_
 refine ze0 0 hH rfl (.st af (UInt8.ofNat ((wd V i)/2^24)) (by rw[Cod.size];show 8*i+3*1+1≤32;omega) (es (o:=8*i+3*1) (j:=8*i+3) (stF (stF (stF f (8*i+0) (UInt8.ofNat (wd V i))) (8*i+1) (UInt8.ofNat ((wd V i)/2^8))) (8*i+2) (UInt8.ofNat ((wd V i)/2^16))) (UInt8.ofNat ((wd V i)/2^24)) (by omega) (by omega))) trivial ?_
 clear hH
 rintro _ _ w rfl hH
 refine zn (aC (zv .mv 3 ?_))
 refine zv .mv 0 ?_
 refine zv .mv 0 ?_
 refine zv .mv 8 ?_
 refine zv .mv 0 ?_
 refine zv (.su ((wd V i)/2^32) (j:=32)) 1 ?_
 refine zv .cb 1 ?_
 refine zv .mv 0 ?_
 refine zv (.su ((wd V i)/2^40) (j:=40)) 1 ?_
 refine zv .cb 1 ?_
 refine zv .mv 0 ?_
 refine zv (.su ((wd V i)/2^48) (j:=48)) 1 ?_
 refine zv .cb 1 ?_
 refine zv .mv 128 ?_
 refine zv (.su ((wd V i)/2^56) (j:=56)) 1 ?_
 refine zv .cb 1 ?_
 refine zv (.ix 1 4 (hi:=ltb rfl)) 128 ?_
 refine ze0 0 hH rfl (.st af (UInt8.ofNat ((wd V i)/2^32)) (by rw[Cod.size];show 8*i+4*1+1≤32;omega) (es (o:=8*i+4*1) (j:=8*i+4) (stF (stF (stF (stF f (8*i+0) (UInt8.ofNat (wd V i))) (8*i+1) (UInt8.ofNat ((wd V i)/2^8))) (8*i+2) (UInt8.ofNat ((wd V i)/2^16))) (8*i+3) (UInt8.ofNat ((wd V i)/2^24))) (UInt8.ofNat ((wd V i)/2^32)) (by omega) (by omega))) trivial ?_
 clear hH
 rintro _ _ w rfl hH
 refine zv (.ix 1 5 (hi:=ltb rfl)) 145 ?_
 refine ze0 0 hH rfl (.st af (UInt8.ofNat ((wd V i)/2^40)) (by rw[Cod.size];show 8*i+5*1+1≤32;omega) (es (o:=8*i+5*1) (j:=8*i+5) (stF (stF (stF (stF (stF f (8*i+0) (UInt8.ofNat (wd V i))) (8*i+1) (UInt8.ofNat ((wd V i)/2^8))) (8*i+2) (UInt8.ofNat ((wd V i)/2^16))) (8*i+3) (UInt8.ofNat ((wd V i)/2^24))) (8*i+4) (UInt8.ofNat ((wd V i)/2^32))) (UInt8.ofNat ((wd V i)/2^40)) (by omega) (by omega))) trivial ?_
 clear hH
 rintro _ _ w rfl hH
 refine zv (.ix 1 6 (hi:=ltb rfl)) 41 ?_
 refine ze0 0 hH rfl (.st af (UInt8.ofNat ((wd V i)/2^48)) (by rw[Cod.size];show 8*i+6*1+1≤32;omega) (es (o:=8*i+6*1) (j:=8*i+6) (stF (stF (stF (stF (stF (stF f (8*i+0) (UInt8.ofNat (wd V i))) (8*i+1) (UInt8.ofNat ((wd V i)/2^8))) (8*i+2) (UInt8.ofNat ((wd V i)/2^16))) (8*i+3) (UInt8.ofNat ((wd V i)/2^24))) (8*i+4) (UInt8.ofNat ((wd V i)/2^32))) (8*i+5) (UInt8.ofNat ((wd V i)/2^40))) (UInt8.ofNat ((wd V i)/2^48)) (by omega) (by omega))) trivial ?_
 clear hH
 rintro _ _ w rfl hH
 refine zv (.ix 1 7 (hi:=ltb rfl)) 13 ?_
 refine ze0 0 hH rfl (.st af (UInt8.ofNat ((wd V i)/2^56)) (by rw[Cod.size];show 8*i+7*1+1≤32;omega) (es (o:=8*i+7*1) (j:=8*i+7) (stF (stF (stF (stF (stF (stF (stF f (8*i+0) (UInt8.ofNat (wd V i))) (8*i+1) (UInt8.ofNat ((wd V i)/2^8))) (8*i+2) (UInt8.ofNat ((wd V i)/2^16))) (8*i+3) (UInt8.ofNat ((wd V i)/2^24))) (8*i+4) (UInt8.ofNat ((wd V i)/2^32))) (8*i+5) (UInt8.ofNat ((wd V i)/2^40))) (8*i+6) (UInt8.ofNat ((wd V i)/2^48))) (UInt8.ofNat ((wd V i)/2^56)) (by omega) (by omega))) trivial ?_
 clear hH
 rintro _ _ w rfl hH
 refine aD (tr rfl ?_)
 rw[uA]at hH
 exact ⟨_,_,rfl,⟨rfl,rfl⟩,hH.out1 [true] rfl⟩
theorem fw(n:Nat)(hn:n<2^256):Pure Tryz.prog 136 #[(vN n)] (fun _=>True) ((ac 32).val (aZ (n%pN))):=by
 refine pU Tryz.func136 Tryz.ntmps136 ?_
 intro w0 hH hR
 refine zr (zm hH .bg trivial 1 ?_)
 clear hH
 rintro _ _ w ⟨g1,rfl,rfl⟩ hH
 refine zA hH (ac 32) (fun _=>0) 0 ?_
 clear hH
 intro g2 w hH
 refine zn (zr (zs (hH.q 0 rfl) (.lr 4) 0 ?_))
 refine zc Tryz.func158 (jF n hn) trivial hH 1 ?_
 clear hH
 intro w hH
 refine ze0 0 hH rfl (.sr 4) trivial ?_
 clear hH
 rintro _ _ w rfl hH
 refine zn (zr (zA hH (ac 32) (fun _=>0) 1 ?_))
 clear hH
 intro g3 w hH
 refine zn (zx ?_)
 replace hH:=hH.drew
 refine rv 0 (v:=(.slice (some ⟨g3,0+0*1,none⟩) (8-0) (32-0))) (fun _ _ hF=>dl (m:=32) (l:=0) (h:=8) (e:=5) (sz:=1) rfl (by kernel_rfl) (by kernel_rfl) (hF.ev 0 rfl) rfl rfl rfl rfl (by omega) (by omega) (by omega)) 0 ?_
 refine rv 1 (.fld 0) 0 ?_
 refine rld 2 (hH.q 0 rfl) .lc 1 ?_
 refine ao 3 ?_
 refine re 3 2 hH rfl (.call Tryz.func159 (gz g3 0 _ (n%pN) (fun _=>0) (by decide))) trivial 3 (pgo [] (.nil _ [])) ?_
 clear hH
 rintro _ _ w ⟨rfl,rfl⟩ hH
 refine ⟨an,rn ?_⟩
 refine zx ?_
 replace hH:=hH.drew
 refine rv 0 (v:=(.slice (some ⟨g3,0+8*1,none⟩) (16-8) (32-8))) (fun _ _ hF=>dl (m:=32) (l:=8) (h:=16) (e:=5) (sz:=1) rfl (by kernel_rfl) (by kernel_rfl) (hF.ev 1 rfl) rfl rfl rfl rfl (by omega) (by omega) (by omega)) 1 ?_
 refine rv 1 (.fld 1) 0 ?_
 refine rld 2 (hH.q 0 rfl) .lc 1 ?_
 refine ao 3 ?_
 refine re 3 2 hH rfl (.call Tryz.func159 (gz g3 1 _ (n%pN) (fX (n%pN) 0 (fun _=>0)) (by decide))) trivial 3 (pgo [] (.nil _ [])) ?_
 clear hH
 rintro _ _ w ⟨rfl,rfl⟩ hH
 refine ⟨an,rn ?_⟩
 refine zx ?_
 replace hH:=hH.drew
 refine rv 0 (v:=(.slice (some ⟨g3,0+16*1,none⟩) (24-16) (32-16))) (fun _ _ hF=>dl (m:=32) (l:=16) (h:=24) (e:=5) (sz:=1) rfl (by kernel_rfl) (by kernel_rfl) (hF.ev 1 rfl) rfl rfl rfl rfl (by omega) (by omega) (by omega)) 1 ?_
 refine rv 1 (.fld 2) 0 ?_
 refine rld 2 (hH.q 0 rfl) .lc 1 ?_
 refine ao 3 ?_
 refine re 3 2 hH rfl (.call Tryz.func159 (gz g3 2 _ (n%pN) (fX (n%pN) 1 (fX (n%pN) 0 (fun _=>0))) (by decide))) trivial 3 (pgo [] (.nil _ [])) ?_
 clear hH
 rintro _ _ w ⟨rfl,rfl⟩ hH
 refine ⟨an,rn ?_⟩
 refine zx ?_
 replace hH:=hH.drew
 refine rv 0 (v:=(.slice (some ⟨g3,0+24*1,none⟩) (32-24) (32-24))) (fun _ _ hF=>dl (m:=32) (l:=24) (h:=32) (e:=5) (sz:=1) rfl (by kernel_rfl) (by kernel_rfl) (hF.ev 1 rfl) rfl rfl rfl rfl (by omega) (by omega) (by omega)) 1 ?_
 refine rv 1 (.fld 3) 8 ?_
 refine rld 2 (hH.q 0 rfl) .lc 1 ?_
 refine ao 3 ?_
 refine re 3 2 hH rfl (.call Tryz.func159 (gz g3 3 _ (n%pN) (fX (n%pN) 2 (fX (n%pN) 1 (fX (n%pN) 0 (fun _=>0)))) (by decide))) trivial 3 (pgo [] (.nil _ [])) ?_
 clear hH
 rintro _ _ w ⟨rfl,rfl⟩ hH
 refine ⟨an,rn ?_⟩
 have he:(ac 32).enc (aZ (n%pN))=(ac 32).enc (fX (n%pN) 3 (fX (n%pN) 2 (fX (n%pN) 1 (fX (n%pN) 0 (fun _=>0))))):=aB fun j hj=>(wD (n%pN) _ j hj).symm
 replace hH:HH w0 [] [[bl g1 170 (cN (n%pN))],[bl g2 22 ((ac 32).enc (fun _=>0))],[bl g3 22 ((ac 32).enc (aZ (n%pN)))]] w:=by rw[he];exact hH
 refine zr (zs (hH.q 2 rfl) (.l0 (ac 32) (aZ (n%pN))) 3 ?_)
 refine zW 1 hH rfl (aZ (n%pN)) ?_
 clear hH
 intro w hH
 refine zn (ar (aI 1 (hH.blk 1 rfl) rfl rfl (by kernel_rfl) (Cod.size _ _) (by kernel_rfl) ?_))
 exact zE hH
def bF(x:Fin pF):Nat→UInt8:=aZ x.val
def nF(b:Nat→UInt8):Fin pF:=toF (lv b 32)
theorem kP(v:Nat):bF (toF v)=aZ (v%pN):=rfl
theorem mc(x:Fin pF):nF (bF x)=x:=by
 have h:x.val=x.val%pN:=(Nat.mod_eq_of_lt x.isLt).symm
 unfold nF bF
 rw[h,sH]
 exact Fin.ext (by rw[wE,← h])
def fA(a b:Nat→UInt8):Nat→UInt8:=bF (nF a+nF b)
def fS(a b:Nat→UInt8):Nat→UInt8:=bF (nF a-nF b)
def fM(a b:Nat→UInt8):Nat→UInt8:=bF (nF a*nF b)
def fI(a:Nat→UInt8):Nat→UInt8:=bF (ivF (nF a))
theorem BC(a b:Nat→UInt8):aZ (fv (lv a 32+lv b 32)%pN)=fA a b:=by rw[← kP,pt,iK];rfl
theorem BD(a b:Nat→UInt8):aZ (mi (lv a 32) (lv b 32)%pN)=fS a b:=by rw[← kP,zG _ _ (bI a) (bI b)];rfl
theorem BE(a b:Nat→UInt8):aZ (tm (lv a 32) (lv b 32)%pN)=fM a b:=by rw[← kP,fi];rfl
theorem BF(a:Nat→UInt8):aZ (iv (lv a 32)%pN)=fI a:=by rw[← kP,zH];rfl
theorem gD(a b:Nat→UInt8):Pure Tryz.prog 133 #[((ac 32).val a),((ac 32).val b)] (fun _=>True) ((ac 32).val (fA a b)):=by
 refine pU Tryz.func133 Tryz.ntmps133 ?_
 intro w0 hH hR
 refine zr (zB hH (ac 32) a 1 ?_)
 clear hH
 intro g1 w hH
 refine zB hH (ac 32) b 2 ?_
 clear hH
 intro g2 w hH
 refine zA hH (ac 32) (fun _=>0) 0 ?_
 clear hH
 intro g3 w hH
 refine zn (zx ?_)
 replace hH:=hH.drew
 refine rld 0 (hH.q 0 rfl) (.l0 (ac 32) a) 4 ?_
 refine rld 2 (hH.q 1 rfl) (.l0 (ac 32) b) 4 ?_
 refine ao 1 (rpc 1 Tryz.func138 (gg a) trivial hH 2 (.keep (pgo [] (.nil _ []))) ?_)
 clear hH
 intro w hH
 refine ⟨am (hH.blk 1 rfl) an,?_⟩
 refine ao 3 (rpc 3 Tryz.func138 (gg b) trivial hH 2 (pgo [] (.nil _ [])) ?_)
 clear hH
 intro w hH
 refine ⟨an,?_⟩
 refine ao 4 (rpc 4 Tryz.func156 (zS (lv a 32) (lv b 32) (bI a) (bI b)) trivial hH 3 (.nil _ []) ?_)
 clear hH
 intro w hH
 refine ⟨an,?_⟩
 refine ao 5 (rpc 5 Tryz.func136 (fw (fv (lv a 32+lv b 32)) (nY (by have:=bI a;have:=bI b;omega))) trivial hH 1 (.nil _ []) ?_)
 clear hH
 intro w hH
 refine ⟨an,ao 6 ?_⟩
 refine re0 6 2 hH rfl (.sw (ac 32) (fun _=>0) (aZ ((fv (lv a 32+lv b 32))%pN))) trivial (.nil _ []) ?_
 clear hH
 rintro _ _ w rfl hH
 refine ⟨an,rn ?_⟩
 refine ar (aI 1 (hH.blk 2 rfl) rfl rfl (by kernel_rfl) (Cod.size _ _) (by kernel_rfl) ?_)
 exact ⟨by rw[← BC];rfl,HH.toBelow hH⟩
theorem jj(a b:Nat→UInt8):Pure Tryz.prog 134 #[((ac 32).val a),((ac 32).val b)] (fun _=>True) ((ac 32).val (fS a b)):=by
 refine pU Tryz.func134 Tryz.ntmps134 ?_
 intro w0 hH hR
 refine zr (zB hH (ac 32) a 1 ?_)
 clear hH
 intro g1 w hH
 refine zB hH (ac 32) b 2 ?_
 clear hH
 intro g2 w hH
 refine zA hH (ac 32) (fun _=>0) 0 ?_
 clear hH
 intro g3 w hH
 refine zn (zx ?_)
 replace hH:=hH.drew
 refine rld 0 (hH.q 0 rfl) (.l0 (ac 32) a) 4 ?_
 refine rld 2 (hH.q 1 rfl) (.l0 (ac 32) b) 4 ?_
 refine ao 1 (rpc 1 Tryz.func138 (gg a) trivial hH 2 (.keep (pgo [] (.nil _ []))) ?_)
 clear hH
 intro w hH
 refine ⟨am (hH.blk 1 rfl) an,?_⟩
 refine ao 3 (rpc 3 Tryz.func138 (gg b) trivial hH 2 (pgo [] (.nil _ [])) ?_)
 clear hH
 intro w hH
 refine ⟨an,?_⟩
 refine ao 4 (rpc 4 Tryz.func157 (qV (lv a 32) (lv b 32) (bI a) (bI b)) trivial hH 3 (.nil _ []) ?_)
 clear hH
 intro w hH
 refine ⟨an,?_⟩
 refine ao 5 (rpc 5 Tryz.func136 (fw (mi (lv a 32) (lv b 32)) (iI _ _ (bI a) (bI b)).2.1) trivial hH 1 (.nil _ []) ?_)
 clear hH
 intro w hH
 refine ⟨an,ao 6 ?_⟩
 refine re0 6 2 hH rfl (.sw (ac 32) (fun _=>0) (aZ ((mi (lv a 32) (lv b 32))%pN))) trivial (.nil _ []) ?_
 clear hH
 rintro _ _ w rfl hH
 refine ⟨an,rn ?_⟩
 refine ar (aI 1 (hH.blk 2 rfl) rfl rfl (by kernel_rfl) (Cod.size _ _) (by kernel_rfl) ?_)
 exact ⟨by rw[← BD];rfl,HH.toBelow hH⟩
theorem d9(a b:Nat→UInt8):Pure Tryz.prog 96 #[((ac 32).val a),((ac 32).val b)] (fun _=>True) ((ac 32).val (fM a b)):=by
 refine pU Tryz.func96 Tryz.ntmps96 ?_
 intro w0 hH hR
 refine zr (zB hH (ac 32) a 1 ?_)
 clear hH
 intro g1 w hH
 refine zB hH (ac 32) b 2 ?_
 clear hH
 intro g2 w hH
 refine zA hH (ac 32) (fun _=>0) 0 ?_
 clear hH
 intro g3 w hH
 refine zn (zx ?_)
 replace hH:=hH.drew
 refine rld 0 (hH.q 0 rfl) (.l0 (ac 32) a) 4 ?_
 refine rld 2 (hH.q 1 rfl) (.l0 (ac 32) b) 4 ?_
 refine ao 1 (rpc 1 Tryz.func138 (gg a) trivial hH 2 (.keep (pgo [] (.nil _ []))) ?_)
 clear hH
 intro w hH
 refine ⟨am (hH.blk 1 rfl) an,?_⟩
 refine ao 3 (rpc 3 Tryz.func138 (gg b) trivial hH 2 (pgo [] (.nil _ [])) ?_)
 clear hH
 intro w hH
 refine ⟨an,?_⟩
 refine ao 4 (rpc 4 Tryz.func137 (cS (lv a 32) (lv b 32) (bI a) (bI b)) trivial hH 3 (.nil _ []) ?_)
 clear hH
 intro w hH
 refine ⟨an,?_⟩
 refine ao 5 (rpc 5 Tryz.func136 (fw (tm (lv a 32) (lv b 32)) (aY (bI a) (bI b))) trivial hH 1 (.nil _ []) ?_)
 clear hH
 intro w hH
 refine ⟨an,ao 6 ?_⟩
 refine re0 6 2 hH rfl (.sw (ac 32) (fun _=>0) (aZ ((tm (lv a 32) (lv b 32))%pN))) trivial (.nil _ []) ?_
 clear hH
 rintro _ _ w rfl hH
 refine ⟨an,rn ?_⟩
 refine ar (aI 1 (hH.blk 2 rfl) rfl rfl (by kernel_rfl) (Cod.size _ _) (by kernel_rfl) ?_)
 exact ⟨by rw[← BE];rfl,HH.toBelow hH⟩
theorem zU(a:Nat→UInt8):Pure Tryz.prog 97 #[((ac 32).val a)] (fun _=>True) ((ac 32).val (fI a)):=by
 refine pU Tryz.func97 Tryz.ntmps97 ?_
 intro w0 hH hR
 refine zr (zB hH (ac 32) a 1 ?_)
 clear hH
 intro g1 w hH
 refine zA hH (ac 32) (fun _=>0) 0 ?_
 clear hH
 intro g2 w hH
 refine zn (zr (zs (hH.q 0 rfl) (.l0 (ac 32) a) 2 ?_))
 refine zc Tryz.func138 (gg a) trivial hH 1 ?_
 clear hH
 intro w hH
 refine zc Tryz.func139 (sJ (lv a 32) (bI a)) trivial hH 1 ?_
 clear hH
 intro w hH
 refine zc Tryz.func136 (fw (iv (lv a 32)) (Bz (bI a))) trivial hH 1 ?_
 clear hH
 intro w hH
 refine zW 1 hH rfl (aZ ((iv (lv a 32))%pN)) ?_
 clear hH
 intro w hH
 refine zn (ar (aI 1 (hH.blk 1 rfl) rfl rfl (by kernel_rfl) (Cod.size _ _) (by kernel_rfl) ?_))
 exact ⟨by rw[← BF];rfl,HH.toBelow hH⟩
abbrev Bt:=Nat→UInt8
abbrev cPr:Cod (Bt×Bt):=bn (ac 32) (ac 32)
abbrev cPl:Cod (Bt×Bt×Bt×Bt):=bn (ac 32) (bn (ac 32) (bn (ac 32) (ac 32)))
abbrev cSt:Cod (Bt×Bt×Bt):=bn (ac 32) (bn (ac 32) (ac 32))
def cp:Bt:=fun i=>if i=0 then 1 else 0
def dB:Bt:=fun i=>[163,120,89,19,202,77,235,117,171,216,65,65,77,10,112,0,152,232,121,119,121,64,199,140,115,254,111,43,238,108,3,82].getD i 0
def wV(a:Bt×Bt):Bt×Bt×Bt×Bt:=(a.1,a.2,cp,fM a.1 a.2)
def sL(a:Bt×Bt):Bt×Bt×Bt:=(fS a.2 a.1,fA a.2 a.1,fA (fM dB (fM a.1 a.2)) (fM dB (fM a.1 a.2)))
def uB(e f g h:Bt):Bt×Bt×Bt×Bt:=(fM e f,fM g h,fM f g,fM e h)
def ptA(a:Bt×Bt×Bt×Bt)(b:Bt×Bt×Bt):Bt×Bt×Bt×Bt :=
 uB (fS (fM (fA a.2.1 a.1) b.2.1) (fM (fS a.2.1 a.1) b.1)) (fS (fA a.2.2.1 a.2.2.1) (fM a.2.2.2 b.2.2)) (fA (fA a.2.2.1 a.2.2.1) (fM a.2.2.2 b.2.2)) (fA (fM (fA a.2.1 a.1) b.2.1) (fM (fS a.2.1 a.1) b.1))
def ptD(a:Bt×Bt×Bt×Bt):Bt×Bt×Bt×Bt :=
 uB (fS (fA (fM a.1 a.1) (fM a.2.1 a.2.1)) (fM (fA a.1 a.2.1) (fA a.1 a.2.1))) (fA (fA (fM a.2.2.1 a.2.2.1) (fM a.2.2.1 a.2.2.1)) (fS (fM a.1 a.1) (fM a.2.1 a.2.1))) (fS (fM a.1 a.1) (fM a.2.1 a.2.1)) (fA (fM a.1 a.1) (fM a.2.1 a.2.1))
def iN:Nat:=19681161376707505956807079304988542015446066515923890162744021073123829784752
def rt1(n:Nat):Nat:=tm (rs (kL n) 2) (rs n 1)
theorem kQ{n:Nat}(h:n<2^256):rt1 n<2^256:=aY (bZ (gy h) 2) (bZ h 1)
theorem yl:iN<2^256:=by decide
def rt2(n:Nat):Nat:=tm (rt1 n) iN
theorem pz{n:Nat}(h:n<2^256):rt2 n<2^256:=aY (kQ h) yl
def rtV(n:Nat):Nat:=if rs (rt1 n) 1%pN=n%pN then rt1 n else rt2 n
theorem pA{n:Nat}(h:n<2^256):rtV n<2^256:=by
 unfold rtV
 split
 ·exact kQ h
 ·exact pz h
abbrev rtF(n:Nat):Prop:=rs (rt1 n) 1%pN=n%pN∨rs (rt2 n) 1%pN=n%pN
theorem uC{a b:Nat}:(∀ i,i<4→bc (a%pN) i=bc (b%pN) i)↔a%pN=b%pN:=by
 constructor
 ·intro h
  have k:∀ x:Nat,x%pN<2^256:=fun x=>Nat.lt_trans (Nat.mod_lt _ (by decide)) (by decide)
  have h1:∀ i,i<4→wd (a%pN) i=wd (b%pN) i:=fun i hi=>by rw[← jd,← jd,h i hi]
  rw[← pg (k a),← pg (k b),h1 0 (by decide),h1 1 (by decide),h1 2 (by decide),h1 3 (by decide)]
 ·intro h i _
  rw[h]
theorem sM(a:Nat→UInt8):lst 32 (aZ (lv a 32%pN))=lst 32 a↔lv a 32<pN:=by
 constructor
 ·intro h
  have h1:∀ i,i<32→aZ (lv a 32%pN) i=a i:=fun i hi=>by
   have:=congrArg (fun l=>l[i]?) h
   simpa[bB hi] using this
  have h2:=kE (m:=32) h1
  rw[om]at h2
  rw[← h2]
  exact Nat.mod_lt _ (by decide)
 ·intro h
  rw[Nat.mod_eq_of_lt h]
  exact List.map_congr_left fun i hi=>n0 a 32 i (List.mem_range.1 hi)
def sqB(a:Nat→UInt8):Nat→UInt8:=if ((aZ (rtV (lv a 32)%pN)) 0&&&1).toNat=1 then aZ (mi 0 (rtV (lv a 32))%pN) else aZ (rtV (lv a 32)%pN)
def sqX(a:Nat→UInt8):Nat→UInt8:=if rtF (lv a 32) then sqB a else fun _=>0
def sqE(a:Nat→UInt8):Nat:=if rtF (lv a 32) then 0 else 3
def eC(y:Bt):Bt:=fM (fS (fM y y) cp) (fI (fA (fM dB (fM y y)) cp))
def yB(p:Bt):Bt:=stF p 31 (p 31 &&& ~~~128)
def z2:Bt×Bt:=(fun _=>0,fun _=>0)
def rd(p:Bt):(Bt×Bt)×Nat :=
 if lv (yB p) 32<pN then
  if sqE (eC (yB p))≠0 then (z2,2)
  else if (p 31&&&128).toNat≠0 then
   if lst 32 (sqX (eC (yB p)))=lst 32 (fun _=>0) then (z2,2) else ((fS (fun _=>0) (sqX (eC (yB p))),yB p),0)
  else ((sqX (eC (yB p)),yB p),0)
 else (z2,2)
def bOf(a:Bt×Bt×Bt×Bt):Bt:=stF (fM a.2.1 (fI a.2.2.1)) 31 (fM a.2.1 (fI a.2.2.1) 31|||sl8 (fM a.1 (fI a.2.2.1) 0) 7)
def mk8(m:UInt8)(i:Nat)(f:Bt):Bt:=fun j=>if j<i then f j&&&m else f j
theorem BG(m:UInt8)(f:Bt):mk8 m 0 f=f:=by funext j;simp[mk8]
theorem kR(m:UInt8)(i:Nat)(f:Bt):stF (mk8 m i f) i (mk8 m i f i&&&m)=mk8 m (i+1) f:=by
 funext j
 unfold stF mk8
 by_cases h:j=i
 ·subst h;simp
 ·by_cases h2:j<i
  ·simp[h,h2,Nat.lt_succ_of_lt h2]
  ·have h3:¬ j<i+1:=by omega
   simp[h,h2,h3]
def uD(t:UInt8)(b:Bt×Bt×Bt):Bt×Bt×Bt :=
 (stF (mk8 (-t) 32 b.1) 0 (mk8 (-t) 32 b.1 0|||(1-t)),stF (mk8 (-t) 32 b.2.1) 0 (mk8 (-t) 32 b.2.1 0|||(1-t)),mk8 (-t) 32 b.2.2)
def bitB(n:Bt)(i:Nat):UInt8:=sr8 (n (i/8)) (i%8)&&&1
def eT(n:Bt)(b:Bt×Bt×Bt):Nat→Bt×Bt×Bt×Bt
 | 0=>wV (fun _=>0,cp)
 | k+1=>ptA (ptD (eT n b k)) (uD (bitB n (255-k)) b)
def tms(n:Bt)(b:Bt×Bt×Bt):Bt×Bt×Bt×Bt:=eT n b 256
def fz(n p:Bt):Bt:=if (rd p).2≠0 then fun _=>0 else bOf (tms n (sL (rd p).1))
def gh(i:Nat):Bt:=fun j=>if j<i then 102 else 0
theorem pB(i:Nat):stF (gh i) i 102=gh (i+1):=by
 funext j
 unfold stF gh
 by_cases h:j=i
 ·subst h;simp
 ·by_cases h2:j<i
  ·simp[h,h2,Nat.lt_succ_of_lt h2]
  ·have h3:¬ j<i+1:=by omega
   simp[h,h2,h3]
def wW:Bt:=stF (gh 32) 0 88
def pD(n:Bt):Bt:=fz n wW
section
variable{P:Program}{Q:Exit→Act→World→Prop}{w w0:World}{n:Sz}{l l':aS}{x y:Code}{fn:Func}{σ:Type}
def ym(n:Sz)(fr:σ→aS)(I:σ→World→Prop)(a:Act)(w:World):Prop := ∃ z,Fr n (fr z) a∧I z w
theorem gZ(fr:σ→aS)(I:σ→World→Prop)(h1:CX P (Exit.then (ym n fr I) Q) x n l w)(h2:∀ z w,I z w→CX P Q y n (fr z) w):CX P Q (.seq x y) n l w:=fun a hF=>by
 refine wp_seq (wp_mono (h1 a hF) fun e a w q => ?_)
 cases e with
 | normal =>
  obtain ⟨z,hz,hI⟩:=q
  exact h2 z w hI a hz
 | _=>exact q
theorem dw{fr:σ→aS}{I:σ→World→Prop}(z:σ)(hI:I z w)(hfr:∀ q∈fr z,q∈l):QX (Exit.then (ym n fr I) Q) .normal n l w:=fun _ hF=>⟨z,hF.of hfr,hI⟩
end
def nA(a b:Nat):Nat:=fv (a+b)
def nS(a b:Nat):Nat:=fv (a+(pN-b%pN))
theorem cn{a b:Nat}(ha:a<2^256)(hb:b<2^256):nA a b<2^256:=nY (by omega)
theorem cO{a b:Nat}(ha:a<2^256):nS a b<2^256:=nY (by have:=fR;omega)
def dD(a b:Nat):Nat×Nat:=(tm (tm (nA a b) (nA a b)) (tm (nS a b) (nS a b)),tm (nS (tm (nA a b) (nA a b)) (tm (nS a b) (nS a b))) (nA (tm (nA a b) (nA a b)) (tm 121665 (nS (tm (nA a b) (nA a b)) (tm (nS a b) (nS a b))))))
def dA(x a b c d:Nat):Nat×Nat:=(tm (nA (tm (nS a b) (nA c d)) (tm (nA a b) (nS c d))) (nA (tm (nS a b) (nA c d)) (tm (nA a b) (nS c d))),tm x (tm (nS (tm (nS a b) (nA c d)) (tm (nA a b) (nS c d))) (nS (tm (nS a b) (nA c d)) (tm (nA a b) (nS c d)))))
def fT(x:Nat)(t:UInt8)(S:(Nat×Nat)×(Nat×Nat)):(Nat×Nat)×(Nat×Nat) :=
 if t.toNat=1 then (dA x S.2.1 S.2.2 S.1.1 S.1.2,dD S.2.1 S.2.2) else (dD S.1.1 S.1.2,dA x S.1.1 S.1.2 S.2.1 S.2.2)
def dLad(n:Nat→UInt8)(x:Nat):Nat→(Nat×Nat)×(Nat×Nat)
 | 0=>((1,0),(x,1))
 | i+1=>fT x (bitB n (254-i)) (dLad n x i)
theorem me(n:Nat→UInt8)(x:Nat){k:Nat}(hk:k<255):dLad n x (255-k)=fT x (bitB n k) (dLad n x (255-(k+1))):=by
 have e1:255-k=(255-(k+1))+1:=by omega
 have e2:254-(255-(k+1))=k:=by omega
 rw[e1]
 show fT x (bitB n (254-(255-(k+1)))) _=_
 rw[e2]
def dNm(s:Nat→UInt8):Nat→UInt8:=stF (stF s 0 (s 0&&&248)) 31 ((stF s 0 (s 0&&&248) 31&&&127)|||64)
def dPt(u:Nat→UInt8):Nat→UInt8:=stF u 31 (u 31&&&127)
def eQ(s u:Nat→UInt8):Nat→UInt8:=aZ (tm (dLad (dNm s) (lv (dPt u) 32) 255).1.1 (riv (dLad (dNm s) (lv (dPt u) 32) 255).1.2)%pN)
theorem uE(s u:Nat→UInt8):Pure Tryz.prog 39 #[((ac 32).val s),((ac 32).val u)] (fun _=>True) ((ac 32).val (eQ s u)):=by
 refine pU Tryz.func39 Tryz.ntmps39 ?_
 intro w0 hH hR
 refine zr (zB hH (ac 32) s 1 ?_)
 clear hH
 intro g1 w hH
 refine zB hH (ac 32) u 2 ?_
 clear hH
 intro g2 w hH
 refine zA hH (ac 32) (fun _=>0) 0 ?_
 clear hH
 intro g3 w hH
 refine zn (zr ?_)
 have hi4:0<32:=by omega
 refine zv (.ia 1 32 0 (hi:=hi4)) 0 ?_
 refine zs (hH.q 0 rfl) (.ld af (s 0) (fun _ hS=>((ae hS).elt hi4))) 1 ?_
 refine zv (.ab ((s 0)&&&(248:UInt8)) (u:=(s 0)) (v:=(248:UInt8))) 1 ?_
 have hi5:0<32:=by omega
 refine zv (.ia 1 32 0 (hi:=hi5)) 0 ?_
 refine ze0 0 hH rfl (.st af ((s 0)&&&(248:UInt8)) (aU (S:=sBy) (C:=(ac 32)) rfl hi5) (aQ s ((s 0)&&&(248:UInt8)) hi5)) trivial ?_
 clear hH
 rintro _ _ w rfl hH
 refine zn (zr ?_)
 have hi6:31<32:=by omega
 refine zv (.ia 1 32 31 (hi:=hi6)) 3 ?_
 refine zs (hH.q 0 rfl) (.ld af ((stF s 0 ((s 0)&&&(248:UInt8))) 31) (fun _ hS=>((ae hS).elt hi6))) 1 ?_
 refine zv (.ab (((stF s 0 ((s 0)&&&(248:UInt8))) 31)&&&(127:UInt8)) (u:=((stF s 0 ((s 0)&&&(248:UInt8))) 31)) (v:=(127:UInt8))) 1 ?_
 refine zv (.ob ((((stF s 0 ((s 0)&&&(248:UInt8))) 31)&&&(127:UInt8))|||(64:UInt8)) (u:=(((stF s 0 ((s 0)&&&(248:UInt8))) 31)&&&(127:UInt8))) (v:=(64:UInt8))) 1 ?_
 have hi7:31<32:=by omega
 refine zv (.ia 1 32 31 (hi:=hi7)) 0 ?_
 refine ze0 0 hH rfl (.st af ((((stF s 0 ((s 0)&&&(248:UInt8))) 31)&&&(127:UInt8))|||(64:UInt8)) (aU (S:=sBy) (C:=(ac 32)) rfl hi7) (aQ (stF s 0 ((s 0)&&&(248:UInt8))) ((((stF s 0 ((s 0)&&&(248:UInt8))) 31)&&&(127:UInt8))|||(64:UInt8)) hi7)) trivial ?_
 clear hH
 rintro _ _ w rfl hH
 refine zn (zr ?_)
 have hi8:31<32:=by omega
 refine zv (.ia 1 32 31 (hi:=hi8)) 3 ?_
 refine zs (hH.q 1 rfl) (.ld af (u 31) (fun _ hS=>((ae hS).elt hi8))) 1 ?_
 refine zv (.ab ((u 31)&&&(127:UInt8)) (u:=(u 31)) (v:=(127:UInt8))) 1 ?_
 have hi9:31<32:=by omega
 refine zv (.ia 1 32 31 (hi:=hi9)) 0 ?_
 refine ze0 1 hH rfl (.st af ((u 31)&&&(127:UInt8)) (aU (S:=sBy) (C:=(ac 32)) rfl hi9) (aQ u ((u 31)&&&(127:UInt8)) hi9)) trivial ?_
 clear hH
 rintro _ _ w rfl hH
 refine zn (zr (zs (hH.q 1 rfl) (.l0 (ac 32) (stF u 31 ((u 31)&&&(127:UInt8)))) 11 ?_))
 refine zc Tryz.func71 (mS (stF u 31 ((u 31)&&&(127:UInt8)))) trivial hH 1 ?_
 clear hH
 intro w hH
 refine zA hH (cNs 4) (fun _=>0) 0 ?_
 clear hH
 intro g10 w hH
 refine zW 3 hH rfl (wd (lv (stF u 31 ((u 31)&&&(127:UInt8))) 32)) ?_
 clear hH
 intro w hH
 refine zn ?_
 obtain ⟨xu,hx,lx⟩:∃ x,x=lv (dPt u) 32∧x<2^256:=⟨_,rfl,bI _⟩
 obtain ⟨n,hn⟩:∃ n,n=dNm s:=⟨_,rfl⟩
 replace hH:HH w0 [] [[bl g1 22 ((ac 32).enc (stF (stF s 0 ((s 0)&&&(248:UInt8))) 31 ((((stF s 0 ((s 0)&&&(248:UInt8))) 31)&&&(127:UInt8))|||(64:UInt8))))],[bl g2 22 ((ac 32).enc (stF u 31 ((u 31)&&&(127:UInt8))))],[bl g3 22 ((ac 32).enc (fun _=>0))],[bl g10 97 ((cNs 4).enc (wd xu))]] w:=by rw[hx];exact hH
 replace hH:HH w0 [] [[bl g1 22 ((ac 32).enc n)],[bl g2 22 ((ac 32).enc (stF u 31 ((u 31)&&&(127:UInt8))))],[bl g3 22 ((ac 32).enc (fun _=>0))],[bl g10 97 ((cNs 4).enc (wd xu))]] w:=by rw[hn];exact hH
 refine zx ?_
 replace hH:=hH.drew
 refine de 0 [pv 0 34 [] [] fun G=>((cNs 4).val (wd 1)),pv 1 35 [] [] fun G=>((cNs 4).val (wd 0)),ldv 2 36 [] [] [1003] fun G=>((cNs 4).val (wd xu)),pv 3 37 [] [] fun G=>((cNs 4).val (wd 1)),alv 4 6 [] [] fun G g=>[bl g 97 ((cNs 4).enc (fun _=>0))],alv 5 7 [] [] fun G g=>[bl g 97 ((cNs 4).enc (fun _=>0))],alv 6 8 [] [] fun G g=>[bl g 97 ((cNs 4).enc (fun _=>0))],alv 7 9 [] [] fun G g=>[bl g 97 ((cNs 4).enc (fun _=>0))],stv 8 [0,4] [4] 4 fun G=>[bl (G 4).g 97 ((cNs 4).enc (wd 1))],stv 9 [1,5] [5] 5 fun G=>[bl (G 5).g 97 ((cNs 4).enc (wd 0))],stv 10 [2,6] [6] 6 fun G=>[bl (G 6).g 97 ((cNs 4).enc (wd xu))],stv 11 [3,7] [7] 7 fun G=>[bl (G 7).g 97 ((cNs 4).enc (wd 1))]] (fun G=>[(6,(.pointer (some ⟨(G 4).g,0,none⟩))),(7,(.pointer (some ⟨(G 5).g,0,none⟩))),(8,(.pointer (some ⟨(G 6).g,0,none⟩))),(9,(.pointer (some ⟨(G 7).g,0,none⟩))),(5,(.pointer (some ⟨g10,0,none⟩))),(4,(.pointer (some ⟨g3,0,none⟩))),(2,(.pointer (some ⟨g1,0,none⟩)))]) (fun G=>[[bl g1 22 ((ac 32).enc n)],[bl g2 22 ((ac 32).enc (stF u 31 ((u 31)&&&(127:UInt8))))],[bl g3 22 ((ac 32).enc (fun _=>0))],[bl g10 97 ((cNs 4).enc (wd xu))],[bl (G 4).g 97 ((cNs 4).enc (wd 1))],[bl (G 5).g 97 ((cNs 4).enc (wd 0))],[bl (G 6).g 97 ((cNs 4).enc (wd xu))],[bl (G 7).g 97 ((cNs 4).enc (wd 1))]]) hH (.c (Sp.c Tryz.func72 (fun G=>(cm 1 (by decide))) fun _=>trivial) <| .c (Sp.c Tryz.func72 (fun G=>(cm 0 (by decide))) fun _=>trivial) <| .c (.ld (fun G _ _ hH=>(hH.q 0 rfl)) fun G=>(.ld (cNs 4) (wd xu) (fun _=>ae))) <| .c (Sp.c Tryz.func72 (fun G=>(cm 1 (by decide))) fun _=>trivial) <| .c (.a (fun _ _ _ _=>trivial) (fun G=>(.al (cNs 4) (fun _=>0))) fun _ _ _ h=>h) <| .c (.a (fun _ _ _ _=>trivial) (fun G=>(.al (cNs 4) (fun _=>0))) fun _ _ _ h=>h) <| .c (.a (fun _ _ _ _=>trivial) (fun G=>(.al (cNs 4) (fun _=>0))) fun _ _ _ h=>h) <| .c (.a (fun _ _ _ _=>trivial) (fun G=>(.al (cNs 4) (fun _=>0))) fun _ _ _ h=>h) <| .c (.tn (fun G=>(.sw (cNs 4) (fun _=>0) (wd 1))) (fun _ _ _ _=>trivial) fun _ _ _ h=>h) <| .c (.tn (fun G=>(.sw (cNs 4) (fun _=>0) (wd 0))) (fun _ _ _ _=>trivial) fun _ _ _ h=>h) <| .c (.tn (fun G=>(.sw (cNs 4) (fun _=>0) (wd xu))) (fun _ _ _ _=>trivial) fun _ _ _ h=>h) <| .c (.tn (fun G=>(.sw (cNs 4) (fun _=>0) (wd 1))) (fun _ _ _ _=>trivial) fun _ _ _ h=>h) <| .nil) ?_
 clear hH
 rintro G w-hH
 revert hH
 generalize (G 4).g=g11
 generalize (G 5).g=g12
 generalize (G 6).g=g13
 generalize (G 7).g=g14
 intro hH
 refine rn ?_
 refine aj (zr (zv .mv 0 ?_))
 refine zn (ai (zL5 (fun (j:Nat) (_:Nat) (_:Nat) (_:Nat) (_:Nat)=>[(10,(.int .i64 ((j:Int)-1))),(9,(.pointer (some ⟨g14,0,none⟩))),(8,(.pointer (some ⟨g13,0,none⟩))),(7,(.pointer (some ⟨g12,0,none⟩))),(6,(.pointer (some ⟨g11,0,none⟩))),(5,(.pointer (some ⟨g10,0,none⟩))),(4,(.pointer (some ⟨g3,0,none⟩))),(2,(.pointer (some ⟨g1,0,none⟩)))]) (fun j a b c d w=>HH w0 [] [[bl g1 22 ((ac 32).enc n)],[bl g2 22 ((ac 32).enc (stF u 31 ((u 31)&&&(127:UInt8))))],[bl g3 22 ((ac 32).enc (fun _=>0))],[bl g10 97 ((cNs 4).enc (wd xu))],[bl g11 97 ((cNs 4).enc (wd a))],[bl g12 97 ((cNs 4).enc (wd b))],[bl g13 97 ((cNs 4).enc (wd c))],[bl g14 97 ((cNs 4).enc (wd d))]] w∧(j≤255)∧(a<2^256)∧(b<2^256)∧(c<2^256)∧(d<2^256)∧(((a,b),(c,d))=dLad n xu (255-j))) (fun j _ _ _ _=>j) 255 1 0 xu 1 ⟨hH,(Nat.le_refl _),(by decide),(by decide),lx,(by decide),rfl⟩ ?_))
 clear hH
 rintro j a b c d w ⟨hH,hj,la,lb,lc,ld,hS⟩
 refine aj (zr (zv .mv 0 ?_))
 refine zv (v:=(.bool (decide (((j:Int)-1) ≥ 0)))) (fun _ _ hF=>fL rfl (hF.ev 0 rfl) rfl rfl) 1 ?_
 refine zn ?_
 refine zP (fun hc15 => ?_) (fun hc15 => ?_)
 refine aA (ag (aj (ai ?_)))
 obtain ⟨k,rfl⟩:∃ k,j=k+1:=⟨j-1,by omega⟩
 rw[show ((k+1:Nat):Int)-1=(k:Int) by omega]
 refine zr (zv .mv 1 ?_)
 refine zv (v:=(.int .i64 (((k/8):Nat):Int))) (fun _ _ hF=>cM (z:=((k/8:Nat):Int)) rfl (hF.ev 0 rfl) rfl (by omega) (wI dO (by omega) (by omega))) 1 ?_
 have hi16:k/8<32:=by omega
 refine zv (.ia 1 32 (k/8) (hi:=hi16)) 1 ?_
 refine zs (hH.q 0 rfl) (.ld af (n (k/8)) (fun _ hS=>((ae hS).elt hi16))) 1 ?_
 refine zv .mv 0 ?_
 refine zv (v:=(.int .i64 (((k%8):Nat):Int))) (fun _ _ hF=>bm (z:=((k%8:Nat):Int)) rfl (hF.ev 0 rfl) rfl (by omega) bW) 1 ?_
 refine zv (.rb (k%8) (u:=(n (k/8)))) 3 ?_
 refine zv (.ab ((sr8 (n (k/8)) (k%8))&&&(1:UInt8)) (u:=(sr8 (n (k/8)) (k%8))) (v:=(1:UInt8))) 1 ?_
 refine zv .mv 1 ?_
 refine zn ?_
 refine gZ (σ:=Nat×Nat×Nat×Nat) (fun x=>[(11,(.int .u8 (((((sr8 (n (k/8)) (k%8))&&&(1:UInt8)).toNat):Nat):Int))),(10,(.int .i64 k)),(9,(.pointer (some ⟨g14,0,none⟩))),(8,(.pointer (some ⟨g13,0,none⟩))),(7,(.pointer (some ⟨g12,0,none⟩))),(6,(.pointer (some ⟨g11,0,none⟩))),(5,(.pointer (some ⟨g10,0,none⟩))),(4,(.pointer (some ⟨g3,0,none⟩))),(2,(.pointer (some ⟨g1,0,none⟩)))]) (fun x w=>HH w0 [] [[bl g1 22 ((ac 32).enc n)],[bl g2 22 ((ac 32).enc (stF u 31 ((u 31)&&&(127:UInt8))))],[bl g3 22 ((ac 32).enc (fun _=>0))],[bl g10 97 ((cNs 4).enc (wd xu))],[bl g11 97 ((cNs 4).enc (wd x.1))],[bl g12 97 ((cNs 4).enc (wd x.2.1))],[bl g13 97 ((cNs 4).enc (wd x.2.2.1))],[bl g14 97 ((cNs 4).enc (wd x.2.2.2))]] w∧(((x.1,x.2.1),(x.2.2.1,x.2.2.2))=if (bitB n k).toNat=1 then ((c,d),(a,b)) else ((a,b),(c,d)))∧(x.1<2^256)∧(x.2.1<2^256)∧(x.2.2.1<2^256)∧(x.2.2.2<2^256)) ?_ ?_
 refine zr (zv .mv 0 ?_)
 refine zv (.eq (((sr8 (n (k/8)) (k%8))&&&(1:UInt8)).toNat=1)) 1 ?_
 refine zn ?_
 refine zP (fun hc17 => ?_) (fun hc17 => ?_)
 refine br mixedOrders (by kernel_rfl) ?_
 replace hH:=hH.drew
 refine rld 0 (hH.q 6 rfl) (.l0 (cNs 4) (wd c)) 1 ?_
 refine rld 1 (hH.q 7 rfl) (.l0 (cNs 4) (wd d)) 0 ?_
 refine rld 2 (hH.q 4 rfl) (.l0 (cNs 4) (wd a)) 0 ?_
 refine rld 3 (hH.q 5 rfl) (.l0 (cNs 4) (wd b)) 0 ?_
 refine ao 4 ?_
 refine re0 4 4 hH rfl (.sw (cNs 4) (wd a) (wd c)) trivial (pgo [] (pgo [] (.keep (pgo [] (.nil _ []))))) ?_
 clear hH
 rintro _ _ w rfl hH
 refine ⟨am (hH.blk 7 rfl) an,?_⟩
 refine ao 5 ?_
 refine re0 5 5 hH rfl (.sw (cNs 4) (wd b) (wd d)) trivial (pgo [] (.nil _ [])) ?_
 clear hH
 rintro _ _ w rfl hH
 refine ⟨an,ao 6 ?_⟩
 refine re0 6 6 hH rfl (.sw (cNs 4) (wd c) (wd a)) trivial (.nil _ []) ?_
 clear hH
 rintro _ _ w rfl hH
 refine ⟨an,ao 7 ?_⟩
 refine re0 7 7 hH rfl (.sw (cNs 4) (wd d) (wd b)) trivial (.nil _ []) ?_
 clear hH
 rintro _ _ w rfl hH
 refine ⟨an,bQ (by kernel_rfl) ?_⟩
 exact dw (c,d,a,b) ⟨hH,(by rw[if_pos (show (bitB n k).toNat=1 from hc17)]),lc,ld,la,lb⟩ (bU [4,5,6,7,8,9,10,11,12] rfl)
 refine aA ?_
 exact dw (a,b,c,d) ⟨hH,(by rw[if_neg (show ¬ (bitB n k).toNat=1 from hc17)]),la,lb,lc,ld⟩ (bU [1,2,3,4,5,6,7,8,9] rfl)
 clear hH
 rintro ⟨p0,q0,r0,s0⟩ w ⟨hH,hw,lp0,lq0,lr0,ls0⟩
 change CX _ _ _ _ [(11,(.int .u8 (((((sr8 (n (k/8)) (k%8))&&&(1:UInt8)).toNat):Nat):Int))),(10,(.int .i64 k)),(9,(.pointer (some ⟨g14,0,none⟩))),(8,(.pointer (some ⟨g13,0,none⟩))),(7,(.pointer (some ⟨g12,0,none⟩))),(6,(.pointer (some ⟨g11,0,none⟩))),(5,(.pointer (some ⟨g10,0,none⟩))),(4,(.pointer (some ⟨g3,0,none⟩))),(2,(.pointer (some ⟨g1,0,none⟩)))] _
 replace hH:HH w0 [] [[bl g1 22 ((ac 32).enc n)],[bl g2 22 ((ac 32).enc (stF u 31 ((u 31)&&&(127:UInt8))))],[bl g3 22 ((ac 32).enc (fun _=>0))],[bl g10 97 ((cNs 4).enc (wd xu))],[bl g11 97 ((cNs 4).enc (wd p0))],[bl g12 97 ((cNs 4).enc (wd q0))],[bl g13 97 ((cNs 4).enc (wd r0))],[bl g14 97 ((cNs 4).enc (wd s0))]] w:=hH
 replace hw:((p0,q0),(r0,s0))=if (bitB n k).toNat=1 then ((c,d),(a,b)) else ((a,b),(c,d)):=hw
 replace lp0:p0<2^256:=lp0
 replace lq0:q0<2^256:=lq0
 replace lr0:r0<2^256:=lr0
 replace ls0:s0<2^256:=ls0
 refine zx ?_
 replace hH:=hH.drew
 refine de 0 [ldv 0 56 [] [] [1004] fun G=>((cNs 4).val (wd p0)),ldv 1 57 [] [] [1005] fun G=>((cNs 4).val (wd q0)),pv 2 58 [0,1] [] fun G=>((cNs 4).val (wd (nA p0 q0))),ldv 3 59 [] [] [1004] fun G=>((cNs 4).val (wd p0)),ldv 4 60 [] [] [1005] fun G=>((cNs 4).val (wd q0)),pv 5 61 [3,4] [] fun G=>((cNs 4).val (wd (nS p0 q0))),alv 6 12 [] [] fun G g=>[bl g 97 ((cNs 4).enc (fun _=>0))],alv 7 13 [] [] fun G g=>[bl g 97 ((cNs 4).enc (fun _=>0))],stv 8 [2,6] [6] 6 fun G=>[bl (G 6).g 97 ((cNs 4).enc (wd (nA p0 q0)))],stv 9 [5,7] [7] 7 fun G=>[bl (G 7).g 97 ((cNs 4).enc (wd (nS p0 q0)))]] (fun G=>[(12,(.pointer (some ⟨(G 6).g,0,none⟩))),(13,(.pointer (some ⟨(G 7).g,0,none⟩))),(11,(.int .u8 (((((sr8 (n (k/8)) (k%8))&&&(1:UInt8)).toNat):Nat):Int))),(10,(.int .i64 k)),(9,(.pointer (some ⟨g14,0,none⟩))),(8,(.pointer (some ⟨g13,0,none⟩))),(7,(.pointer (some ⟨g12,0,none⟩))),(6,(.pointer (some ⟨g11,0,none⟩))),(5,(.pointer (some ⟨g10,0,none⟩))),(4,(.pointer (some ⟨g3,0,none⟩))),(2,(.pointer (some ⟨g1,0,none⟩)))]) (fun G=>[[bl g1 22 ((ac 32).enc n)],[bl g2 22 ((ac 32).enc (stF u 31 ((u 31)&&&(127:UInt8))))],[bl g3 22 ((ac 32).enc (fun _=>0))],[bl g10 97 ((cNs 4).enc (wd xu))],[bl g11 97 ((cNs 4).enc (wd p0))],[bl g12 97 ((cNs 4).enc (wd q0))],[bl g13 97 ((cNs 4).enc (wd r0))],[bl g14 97 ((cNs 4).enc (wd s0))],[bl (G 6).g 97 ((cNs 4).enc (wd (nA p0 q0)))],[bl (G 7).g 97 ((cNs 4).enc (wd (nS p0 q0)))]]) hH (.c (.ld (fun G _ _ hH=>(hH.q 0 rfl)) fun G=>(.ld (cNs 4) (wd p0) (fun _=>ae))) <| .c (.ld (fun G _ _ hH=>(hH.q 0 rfl)) fun G=>(.ld (cNs 4) (wd q0) (fun _=>ae))) <| .c (Sp.c Tryz.func73 (fun G=>(dt p0 q0 lp0 lq0)) fun _=>trivial) <| .c (.ld (fun G _ _ hH=>(hH.q 0 rfl)) fun G=>(.ld (cNs 4) (wd p0) (fun _=>ae))) <| .c (.ld (fun G _ _ hH=>(hH.q 0 rfl)) fun G=>(.ld (cNs 4) (wd q0) (fun _=>ae))) <| .c (Sp.c Tryz.func74 (fun G=>(dg p0 q0 lp0 lq0)) fun _=>trivial) <| .c (.a (fun _ _ _ _=>trivial) (fun G=>(.al (cNs 4) (fun _=>0))) fun _ _ _ h=>h) <| .c (.a (fun _ _ _ _=>trivial) (fun G=>(.al (cNs 4) (fun _=>0))) fun _ _ _ h=>h) <| .c (.tn (fun G=>(.sw (cNs 4) (fun _=>0) (wd (nA p0 q0)))) (fun _ _ _ _=>trivial) fun _ _ _ h=>h) <| .c (.tn (fun G=>(.sw (cNs 4) (fun _=>0) (wd (nS p0 q0)))) (fun _ _ _ _=>trivial) fun _ _ _ h=>h) <| .nil) ?_
 clear hH
 rintro G w-hH
 revert hH
 generalize (G 6).g=g18
 generalize (G 7).g=g19
 intro hH
 refine rn ?_
 obtain ⟨p,hp,lp⟩:∃ p,p=nA p0 q0∧p<2^256:=⟨_,rfl,(cn lp0 lq0)⟩
 replace hH:HH w0 [] [[bl g1 22 ((ac 32).enc n)],[bl g2 22 ((ac 32).enc (stF u 31 ((u 31)&&&(127:UInt8))))],[bl g3 22 ((ac 32).enc (fun _=>0))],[bl g10 97 ((cNs 4).enc (wd xu))],[bl g11 97 ((cNs 4).enc (wd p0))],[bl g12 97 ((cNs 4).enc (wd q0))],[bl g13 97 ((cNs 4).enc (wd r0))],[bl g14 97 ((cNs 4).enc (wd s0))],[bl g18 97 ((cNs 4).enc (wd p))],[bl g19 97 ((cNs 4).enc (wd (nS p0 q0)))]] w:=by rw[hp];exact hH
 obtain ⟨q,hq,lq⟩:∃ q,q=nS p0 q0∧q<2^256:=⟨_,rfl,(cO lp0)⟩
 replace hH:HH w0 [] [[bl g1 22 ((ac 32).enc n)],[bl g2 22 ((ac 32).enc (stF u 31 ((u 31)&&&(127:UInt8))))],[bl g3 22 ((ac 32).enc (fun _=>0))],[bl g10 97 ((cNs 4).enc (wd xu))],[bl g11 97 ((cNs 4).enc (wd p0))],[bl g12 97 ((cNs 4).enc (wd q0))],[bl g13 97 ((cNs 4).enc (wd r0))],[bl g14 97 ((cNs 4).enc (wd s0))],[bl g18 97 ((cNs 4).enc (wd p))],[bl g19 97 ((cNs 4).enc (wd q))]] w:=by rw[hq];exact hH
 refine zx ?_
 replace hH:=hH.drew
 refine de 0 [ldv 0 62 [] [] [1008] fun G=>((cNs 4).val (wd p)),ldv 1 63 [] [] [1008] fun G=>((cNs 4).val (wd p)),pv 2 64 [0,1] [] fun G=>((cNs 4).val (wd (tm p p))),ldv 3 65 [] [] [1009] fun G=>((cNs 4).val (wd q)),ldv 4 66 [] [] [1009] fun G=>((cNs 4).val (wd q)),pv 5 67 [3,4] [] fun G=>((cNs 4).val (wd (tm q q))),alv 6 14 [] [] fun G g=>[bl g 97 ((cNs 4).enc (fun _=>0))],alv 7 15 [] [] fun G g=>[bl g 97 ((cNs 4).enc (fun _=>0))],stv 8 [2,6] [6] 6 fun G=>[bl (G 6).g 97 ((cNs 4).enc (wd (tm p p)))],stv 9 [5,7] [7] 7 fun G=>[bl (G 7).g 97 ((cNs 4).enc (wd (tm q q)))]] (fun G=>[(14,(.pointer (some ⟨(G 6).g,0,none⟩))),(15,(.pointer (some ⟨(G 7).g,0,none⟩))),(12,(.pointer (some ⟨g18,0,none⟩))),(13,(.pointer (some ⟨g19,0,none⟩))),(11,(.int .u8 (((((sr8 (n (k/8)) (k%8))&&&(1:UInt8)).toNat):Nat):Int))),(10,(.int .i64 k)),(9,(.pointer (some ⟨g14,0,none⟩))),(8,(.pointer (some ⟨g13,0,none⟩))),(7,(.pointer (some ⟨g12,0,none⟩))),(6,(.pointer (some ⟨g11,0,none⟩))),(5,(.pointer (some ⟨g10,0,none⟩))),(4,(.pointer (some ⟨g3,0,none⟩))),(2,(.pointer (some ⟨g1,0,none⟩)))]) (fun G=>[[bl g1 22 ((ac 32).enc n)],[bl g2 22 ((ac 32).enc (stF u 31 ((u 31)&&&(127:UInt8))))],[bl g3 22 ((ac 32).enc (fun _=>0))],[bl g10 97 ((cNs 4).enc (wd xu))],[bl g11 97 ((cNs 4).enc (wd p0))],[bl g12 97 ((cNs 4).enc (wd q0))],[bl g13 97 ((cNs 4).enc (wd r0))],[bl g14 97 ((cNs 4).enc (wd s0))],[bl g18 97 ((cNs 4).enc (wd p))],[bl g19 97 ((cNs 4).enc (wd q))],[bl (G 6).g 97 ((cNs 4).enc (wd (tm p p)))],[bl (G 7).g 97 ((cNs 4).enc (wd (tm q q)))]]) hH (.c (.ld (fun G _ _ hH=>(hH.q 0 rfl)) fun G=>(.ld (cNs 4) (wd p) (fun _=>ae))) <| .c (.ld (fun G _ _ hH=>(hH.q 0 rfl)) fun G=>(.ld (cNs 4) (wd p) (fun _=>ae))) <| .c (Sp.c Tryz.func75 (fun G=>(ba p p lp lp)) fun _=>trivial) <| .c (.ld (fun G _ _ hH=>(hH.q 0 rfl)) fun G=>(.ld (cNs 4) (wd q) (fun _=>ae))) <| .c (.ld (fun G _ _ hH=>(hH.q 0 rfl)) fun G=>(.ld (cNs 4) (wd q) (fun _=>ae))) <| .c (Sp.c Tryz.func75 (fun G=>(ba q q lq lq)) fun _=>trivial) <| .c (.a (fun _ _ _ _=>trivial) (fun G=>(.al (cNs 4) (fun _=>0))) fun _ _ _ h=>h) <| .c (.a (fun _ _ _ _=>trivial) (fun G=>(.al (cNs 4) (fun _=>0))) fun _ _ _ h=>h) <| .c (.tn (fun G=>(.sw (cNs 4) (fun _=>0) (wd (tm p p)))) (fun _ _ _ _=>trivial) fun _ _ _ h=>h) <| .c (.tn (fun G=>(.sw (cNs 4) (fun _=>0) (wd (tm q q)))) (fun _ _ _ _=>trivial) fun _ _ _ h=>h) <| .nil) ?_
 clear hH
 rintro G w-hH
 revert hH
 generalize (G 6).g=g20
 generalize (G 7).g=g21
 intro hH
 refine rn ?_
 obtain ⟨aa,haa,laa⟩:∃ aa,aa=tm p p∧aa<2^256:=⟨_,rfl,(aY lp lp)⟩
 replace hH:HH w0 [] [[bl g1 22 ((ac 32).enc n)],[bl g2 22 ((ac 32).enc (stF u 31 ((u 31)&&&(127:UInt8))))],[bl g3 22 ((ac 32).enc (fun _=>0))],[bl g10 97 ((cNs 4).enc (wd xu))],[bl g11 97 ((cNs 4).enc (wd p0))],[bl g12 97 ((cNs 4).enc (wd q0))],[bl g13 97 ((cNs 4).enc (wd r0))],[bl g14 97 ((cNs 4).enc (wd s0))],[bl g18 97 ((cNs 4).enc (wd p))],[bl g19 97 ((cNs 4).enc (wd q))],[bl g20 97 ((cNs 4).enc (wd aa))],[bl g21 97 ((cNs 4).enc (wd (tm q q)))]] w:=by rw[haa];exact hH
 obtain ⟨bb,hbb,lbb⟩:∃ bb,bb=tm q q∧bb<2^256:=⟨_,rfl,(aY lq lq)⟩
 replace hH:HH w0 [] [[bl g1 22 ((ac 32).enc n)],[bl g2 22 ((ac 32).enc (stF u 31 ((u 31)&&&(127:UInt8))))],[bl g3 22 ((ac 32).enc (fun _=>0))],[bl g10 97 ((cNs 4).enc (wd xu))],[bl g11 97 ((cNs 4).enc (wd p0))],[bl g12 97 ((cNs 4).enc (wd q0))],[bl g13 97 ((cNs 4).enc (wd r0))],[bl g14 97 ((cNs 4).enc (wd s0))],[bl g18 97 ((cNs 4).enc (wd p))],[bl g19 97 ((cNs 4).enc (wd q))],[bl g20 97 ((cNs 4).enc (wd aa))],[bl g21 97 ((cNs 4).enc (wd bb))]] w:=by rw[hbb];exact hH
 refine zr (zs (hH.q 10 rfl) (.l0 (cNs 4) (wd aa)) 0 ?_)
 refine zs (hH.q 11 rfl) (.l0 (cNs 4) (wd bb)) 0 ?_
 refine zc Tryz.func74 (dg aa bb laa lbb) trivial hH 3 ?_
 clear hH
 intro w hH
 refine zA hH (cNs 4) (fun _=>0) 0 ?_
 clear hH
 intro g22 w hH
 refine zW 12 hH rfl (wd (nS aa bb)) ?_
 clear hH
 intro w hH
 refine zn ?_
 obtain ⟨ee,hee,lee⟩:∃ ee,ee=nS aa bb∧ee<2^256:=⟨_,rfl,(cO laa)⟩
 replace hH:HH w0 [] [[bl g1 22 ((ac 32).enc n)],[bl g2 22 ((ac 32).enc (stF u 31 ((u 31)&&&(127:UInt8))))],[bl g3 22 ((ac 32).enc (fun _=>0))],[bl g10 97 ((cNs 4).enc (wd xu))],[bl g11 97 ((cNs 4).enc (wd p0))],[bl g12 97 ((cNs 4).enc (wd q0))],[bl g13 97 ((cNs 4).enc (wd r0))],[bl g14 97 ((cNs 4).enc (wd s0))],[bl g18 97 ((cNs 4).enc (wd p))],[bl g19 97 ((cNs 4).enc (wd q))],[bl g20 97 ((cNs 4).enc (wd aa))],[bl g21 97 ((cNs 4).enc (wd bb))],[bl g22 97 ((cNs 4).enc (wd ee))]] w:=by rw[hee];exact hH
 refine zx ?_
 replace hH:=hH.drew
 refine de 0 [ldv 0 71 [] [] [1009] fun G=>((cNs 4).val (wd q)),ldv 1 72 [] [] [1006] fun G=>((cNs 4).val (wd r0)),ldv 2 73 [] [] [1007] fun G=>((cNs 4).val (wd s0)),pv 3 74 [1,2] [] fun G=>((cNs 4).val (wd (nA r0 s0))),pv 4 75 [0,3] [] fun G=>((cNs 4).val (wd (tm q (nA r0 s0)))),ldv 5 76 [] [] [1008] fun G=>((cNs 4).val (wd p)),ldv 6 77 [] [] [1006] fun G=>((cNs 4).val (wd r0)),ldv 7 78 [] [] [1007] fun G=>((cNs 4).val (wd s0)),pv 8 79 [6,7] [] fun G=>((cNs 4).val (wd (nS r0 s0))),pv 9 80 [5,8] [] fun G=>((cNs 4).val (wd (tm p (nS r0 s0)))),alv 10 17 [] [] fun G g=>[bl g 97 ((cNs 4).enc (fun _=>0))],alv 11 18 [] [] fun G g=>[bl g 97 ((cNs 4).enc (fun _=>0))],stv 12 [4,10] [10] 10 fun G=>[bl (G 10).g 97 ((cNs 4).enc (wd (tm q (nA r0 s0))))],stv 13 [9,11] [11] 11 fun G=>[bl (G 11).g 97 ((cNs 4).enc (wd (tm p (nS r0 s0))))]] (fun G=>[(17,(.pointer (some ⟨(G 10).g,0,none⟩))),(18,(.pointer (some ⟨(G 11).g,0,none⟩))),(16,(.pointer (some ⟨g22,0,none⟩))),(14,(.pointer (some ⟨g20,0,none⟩))),(15,(.pointer (some ⟨g21,0,none⟩))),(11,(.int .u8 (((((sr8 (n (k/8)) (k%8))&&&(1:UInt8)).toNat):Nat):Int))),(10,(.int .i64 k)),(9,(.pointer (some ⟨g14,0,none⟩))),(8,(.pointer (some ⟨g13,0,none⟩))),(7,(.pointer (some ⟨g12,0,none⟩))),(6,(.pointer (some ⟨g11,0,none⟩))),(5,(.pointer (some ⟨g10,0,none⟩))),(4,(.pointer (some ⟨g3,0,none⟩))),(2,(.pointer (some ⟨g1,0,none⟩)))]) (fun G=>[[bl g1 22 ((ac 32).enc n)],[bl g2 22 ((ac 32).enc (stF u 31 ((u 31)&&&(127:UInt8))))],[bl g3 22 ((ac 32).enc (fun _=>0))],[bl g10 97 ((cNs 4).enc (wd xu))],[bl g11 97 ((cNs 4).enc (wd p0))],[bl g12 97 ((cNs 4).enc (wd q0))],[bl g13 97 ((cNs 4).enc (wd r0))],[bl g14 97 ((cNs 4).enc (wd s0))],[bl g18 97 ((cNs 4).enc (wd p))],[bl g19 97 ((cNs 4).enc (wd q))],[bl g20 97 ((cNs 4).enc (wd aa))],[bl g21 97 ((cNs 4).enc (wd bb))],[bl g22 97 ((cNs 4).enc (wd ee))],[bl (G 10).g 97 ((cNs 4).enc (wd (tm q (nA r0 s0))))],[bl (G 11).g 97 ((cNs 4).enc (wd (tm p (nS r0 s0))))]]) hH (.c (.ld (fun G _ _ hH=>(hH.q 0 rfl)) fun G=>(.ld (cNs 4) (wd q) (fun _=>ae))) <| .c (.ld (fun G _ _ hH=>(hH.q 0 rfl)) fun G=>(.ld (cNs 4) (wd r0) (fun _=>ae))) <| .c (.ld (fun G _ _ hH=>(hH.q 0 rfl)) fun G=>(.ld (cNs 4) (wd s0) (fun _=>ae))) <| .c (Sp.c Tryz.func73 (fun G=>(dt r0 s0 lr0 ls0)) fun _=>trivial) <| .c (Sp.c Tryz.func75 (fun G=>(ba q (nA r0 s0) lq (cn lr0 ls0))) fun _=>trivial) <| .c (.ld (fun G _ _ hH=>(hH.q 0 rfl)) fun G=>(.ld (cNs 4) (wd p) (fun _=>ae))) <| .c (.ld (fun G _ _ hH=>(hH.q 0 rfl)) fun G=>(.ld (cNs 4) (wd r0) (fun _=>ae))) <| .c (.ld (fun G _ _ hH=>(hH.q 0 rfl)) fun G=>(.ld (cNs 4) (wd s0) (fun _=>ae))) <| .c (Sp.c Tryz.func74 (fun G=>(dg r0 s0 lr0 ls0)) fun _=>trivial) <| .c (Sp.c Tryz.func75 (fun G=>(ba p (nS r0 s0) lp (cO lr0))) fun _=>trivial) <| .c (.a (fun _ _ _ _=>trivial) (fun G=>(.al (cNs 4) (fun _=>0))) fun _ _ _ h=>h) <| .c (.a (fun _ _ _ _=>trivial) (fun G=>(.al (cNs 4) (fun _=>0))) fun _ _ _ h=>h) <| .c (.tn (fun G=>(.sw (cNs 4) (fun _=>0) (wd (tm q (nA r0 s0))))) (fun _ _ _ _=>trivial) fun _ _ _ h=>h) <| .c (.tn (fun G=>(.sw (cNs 4) (fun _=>0) (wd (tm p (nS r0 s0))))) (fun _ _ _ _=>trivial) fun _ _ _ h=>h) <| .nil) ?_
 clear hH
 rintro G w-hH
 revert hH
 generalize (G 10).g=g23
 generalize (G 11).g=g24
 intro hH
 refine rn ?_
 obtain ⟨da,hda,lda⟩:∃ da,da=tm q (nA r0 s0)∧da<2^256:=⟨_,rfl,(aY lq (cn lr0 ls0))⟩
 replace hH:HH w0 [] [[bl g1 22 ((ac 32).enc n)],[bl g2 22 ((ac 32).enc (stF u 31 ((u 31)&&&(127:UInt8))))],[bl g3 22 ((ac 32).enc (fun _=>0))],[bl g10 97 ((cNs 4).enc (wd xu))],[bl g11 97 ((cNs 4).enc (wd p0))],[bl g12 97 ((cNs 4).enc (wd q0))],[bl g13 97 ((cNs 4).enc (wd r0))],[bl g14 97 ((cNs 4).enc (wd s0))],[bl g18 97 ((cNs 4).enc (wd p))],[bl g19 97 ((cNs 4).enc (wd q))],[bl g20 97 ((cNs 4).enc (wd aa))],[bl g21 97 ((cNs 4).enc (wd bb))],[bl g22 97 ((cNs 4).enc (wd ee))],[bl g23 97 ((cNs 4).enc (wd da))],[bl g24 97 ((cNs 4).enc (wd (tm p (nS r0 s0))))]] w:=by rw[hda];exact hH
 obtain ⟨cb,hcb,lcb⟩:∃ cb,cb=tm p (nS r0 s0)∧cb<2^256:=⟨_,rfl,(aY lp (cO lr0))⟩
 replace hH:HH w0 [] [[bl g1 22 ((ac 32).enc n)],[bl g2 22 ((ac 32).enc (stF u 31 ((u 31)&&&(127:UInt8))))],[bl g3 22 ((ac 32).enc (fun _=>0))],[bl g10 97 ((cNs 4).enc (wd xu))],[bl g11 97 ((cNs 4).enc (wd p0))],[bl g12 97 ((cNs 4).enc (wd q0))],[bl g13 97 ((cNs 4).enc (wd r0))],[bl g14 97 ((cNs 4).enc (wd s0))],[bl g18 97 ((cNs 4).enc (wd p))],[bl g19 97 ((cNs 4).enc (wd q))],[bl g20 97 ((cNs 4).enc (wd aa))],[bl g21 97 ((cNs 4).enc (wd bb))],[bl g22 97 ((cNs 4).enc (wd ee))],[bl g23 97 ((cNs 4).enc (wd da))],[bl g24 97 ((cNs 4).enc (wd cb))]] w:=by rw[hcb];exact hH
 refine zx ?_
 replace hH:=hH.drew
 refine rld 0 (hH.q 13 rfl) (.l0 (cNs 4) (wd da)) 0 ?_
 refine rld 1 (hH.q 14 rfl) (.l0 (cNs 4) (wd cb)) 0 ?_
 refine rld 3 (hH.q 13 rfl) (.l0 (cNs 4) (wd da)) 0 ?_
 refine rld 4 (hH.q 14 rfl) (.l0 (cNs 4) (wd cb)) 0 ?_
 refine rld 7 (hH.q 3 rfl) (.l0 (cNs 4) (wd xu)) 0 ?_
 refine rld 8 (hH.q 13 rfl) (.l0 (cNs 4) (wd da)) 0 ?_
 refine rld 9 (hH.q 14 rfl) (.l0 (cNs 4) (wd cb)) 0 ?_
 refine rld 11 (hH.q 13 rfl) (.l0 (cNs 4) (wd da)) 128 ?_
 refine rld 12 (hH.q 14 rfl) (.l0 (cNs 4) (wd cb)) 256 ?_
 refine ao 2 (rpc 2 Tryz.func73 (dt da cb lda lcb) trivial hH 384 (.keep (.keep (.keep (.keep (.keep (.keep (.keep (pgo [] (pgo [] (.nil _ [])))))))))) ?_)
 clear hH
 intro w hH
 refine ⟨am (hH.blk 14 rfl) (am (hH.blk 13 rfl) (am (hH.blk 14 rfl) (am (hH.blk 13 rfl) (am (hH.blk 3 rfl) (am (hH.blk 14 rfl) (am (hH.blk 13 rfl) an)))))),?_⟩
 refine ao 5 (rpc 5 Tryz.func73 (dt da cb lda lcb) trivial hH 192 (.keep (.keep (.keep (.keep (.keep (pgo [] (pgo [] (.nil _ [])))))))) ?_)
 clear hH
 intro w hH
 refine ⟨am (hH.blk 14 rfl) (am (hH.blk 13 rfl) (am (hH.blk 14 rfl) (am (hH.blk 13 rfl) (am (hH.blk 3 rfl) an)))),?_⟩
 refine ao 6 (rpc 6 Tryz.func75 (ba (nA da cb) (nA da cb) (cn lda lcb) (cn lda lcb)) trivial hH 3 (.keep (.keep (.keep (.keep (.keep (.nil _ [])))))) ?_)
 clear hH
 intro w hH
 refine ⟨am (hH.blk 14 rfl) (am (hH.blk 13 rfl) (am (hH.blk 14 rfl) (am (hH.blk 13 rfl) (am (hH.blk 3 rfl) an)))),?_⟩
 refine ao 10 (rpc 10 Tryz.func74 (dg da cb lda lcb) trivial hH 24 (.keep (.keep (pgo [] (pgo [] (.keep (.nil _ [])))))) ?_)
 clear hH
 intro w hH
 refine ⟨am (hH.blk 14 rfl) (am (hH.blk 13 rfl) (am (hH.blk 3 rfl) an)),?_⟩
 refine ao 13 (rpc 13 Tryz.func74 (dg da cb lda lcb) trivial hH 12 (pgo [] (pgo [] (.keep (.nil _ [])))) ?_)
 clear hH
 intro w hH
 refine ⟨am (hH.blk 3 rfl) an,?_⟩
 refine ao 14 (rpc 14 Tryz.func75 (ba (nS da cb) (nS da cb) (cO lda) (cO lda)) trivial hH 3 (.keep (.nil _ [])) ?_)
 clear hH
 intro w hH
 refine ⟨am (hH.blk 3 rfl) an,?_⟩
 refine ao 15 (rpc 15 Tryz.func75 (ba xu (tm (nS da cb) (nS da cb)) lx (aY (cO lda) (cO lda))) trivial hH 5 (pgo [] (.nil _ [])) ?_)
 clear hH
 intro w hH
 refine ⟨an,ao 16 ?_⟩
 refine re0 16 6 hH rfl (.sw (cNs 4) (wd r0) (wd (tm (nA da cb) (nA da cb)))) trivial (.nil _ []) ?_
 clear hH
 rintro _ _ w rfl hH
 refine ⟨an,ao 17 ?_⟩
 refine re0 17 7 hH rfl (.sw (cNs 4) (wd s0) (wd (tm xu (tm (nS da cb) (nS da cb))))) trivial (.nil _ []) ?_
 clear hH
 rintro _ _ w rfl hH
 refine ⟨an,rn ?_⟩
 refine zx ?_
 replace hH:=hH.drew
 refine rld 0 (hH.q 10 rfl) (.l0 (cNs 4) (wd aa)) 3 ?_
 refine rld 1 (hH.q 11 rfl) (.l0 (cNs 4) (wd bb)) 8 ?_
 refine rld 3 (hH.q 12 rfl) (.l0 (cNs 4) (wd ee)) 0 ?_
 refine rld 4 (hH.q 10 rfl) (.l0 (cNs 4) (wd aa)) 16 ?_
 refine rld 6 (hH.q 12 rfl) (.l0 (cNs 4) (wd ee)) 16 ?_
 refine ao 2 (rpc 2 Tryz.func75 (ba aa bb laa lbb) trivial hH 24 (.keep (.keep (.keep (pgo [] (pgo [] (.nil _ [])))))) ?_)
 clear hH
 intro w hH
 refine ⟨am (hH.blk 12 rfl) (am (hH.blk 10 rfl) (am (hH.blk 12 rfl) an)),?_⟩
 refine ao 5 (rpc 5 Tryz.func72 (cm 121665 (by decide)) trivial hH 0 (.keep (.keep (.keep (.nil _ [])))) ?_)
 clear hH
 intro w hH
 refine ⟨am (hH.blk 12 rfl) (am (hH.blk 10 rfl) (am (hH.blk 12 rfl) an)),?_⟩
 refine ao 7 (rpc 7 Tryz.func75 (ba 121665 ee (by decide) lee) trivial hH 5 (pgo [] (.keep (.keep (.nil _ [])))) ?_)
 clear hH
 intro w hH
 refine ⟨am (hH.blk 10 rfl) (am (hH.blk 12 rfl) an),?_⟩
 refine ao 8 (rpc 8 Tryz.func73 (dt aa (tm 121665 ee) laa (aY (by decide) lee)) trivial hH 5 (pgo [] (.keep (.nil _ []))) ?_)
 clear hH
 intro w hH
 refine ⟨am (hH.blk 12 rfl) an,?_⟩
 refine ao 9 (rpc 9 Tryz.func75 (ba ee (nA aa (tm 121665 ee)) lee (cn laa (aY (by decide) lee))) trivial hH 5 (pgo [] (.nil _ [])) ?_)
 clear hH
 intro w hH
 refine ⟨an,ao 10 ?_⟩
 refine re0 10 4 hH rfl (.sw (cNs 4) (wd p0) (wd (tm aa bb))) trivial (.nil _ []) ?_
 clear hH
 rintro _ _ w rfl hH
 refine ⟨an,ao 11 ?_⟩
 refine re0 11 5 hH rfl (.sw (cNs 4) (wd q0) (wd (tm ee (nA aa (tm 121665 ee))))) trivial (.nil _ []) ?_
 clear hH
 rintro _ _ w rfl hH
 refine ⟨an,rn ?_⟩
 refine zr (zv .mv 7 ?_)
 refine zv (.eq (((sr8 (n (k/8)) (k%8))&&&(1:UInt8)).toNat=1)) 1 ?_
 refine zn ?_
 refine zP (fun hc25 => ?_) (fun hc25 => ?_)
 refine br mixedOrders (by kernel_rfl) ?_
 replace hH:=hH.drew
 refine rld 0 (hH.q 6 rfl) (.l0 (cNs 4) (wd (tm (nA da cb) (nA da cb)))) 1 ?_
 refine rld 1 (hH.q 7 rfl) (.l0 (cNs 4) (wd (tm xu (tm (nS da cb) (nS da cb))))) 0 ?_
 refine rld 2 (hH.q 4 rfl) (.l0 (cNs 4) (wd (tm aa bb))) 0 ?_
 refine rld 3 (hH.q 5 rfl) (.l0 (cNs 4) (wd (tm ee (nA aa (tm 121665 ee))))) 0 ?_
 refine ao 4 ?_
 refine re0 4 4 hH rfl (.sw (cNs 4) (wd (tm aa bb)) (wd (tm (nA da cb) (nA da cb)))) trivial (pgo [] (pgo [] (.keep (pgo [] (.nil _ []))))) ?_
 clear hH
 rintro _ _ w rfl hH
 refine ⟨am (hH.blk 7 rfl) an,?_⟩
 refine ao 5 ?_
 refine re0 5 5 hH rfl (.sw (cNs 4) (wd (tm ee (nA aa (tm 121665 ee)))) (wd (tm xu (tm (nS da cb) (nS da cb))))) trivial (pgo [] (.nil _ [])) ?_
 clear hH
 rintro _ _ w rfl hH
 refine ⟨an,ao 6 ?_⟩
 refine re0 6 6 hH rfl (.sw (cNs 4) (wd (tm (nA da cb) (nA da cb))) (wd (tm aa bb))) trivial (.nil _ []) ?_
 clear hH
 rintro _ _ w rfl hH
 refine ⟨an,ao 7 ?_⟩
 refine re0 7 7 hH rfl (.sw (cNs 4) (wd (tm xu (tm (nS da cb) (nS da cb)))) (wd (tm ee (nA aa (tm 121665 ee))))) trivial (.nil _ []) ?_
 clear hH
 rintro _ _ w rfl hH
 refine ⟨an,bQ (by kernel_rfl) ?_⟩
 refine aN (ag (aC (zv .mv 31 ?_)))
 refine zv (.sub ((k:Int)-1)) 1 ?_
 refine zv .mv 1 ?_
 refine aD ?_
 replace hH:HH w0 [] [[bl g1 22 ((ac 32).enc n)],[bl g2 22 ((ac 32).enc (stF u 31 ((u 31)&&&(127:UInt8))))],[bl g3 22 ((ac 32).enc (fun _=>0))],[bl g10 97 ((cNs 4).enc (wd xu))],[bl g11 97 ((cNs 4).enc (wd (tm (nA da cb) (nA da cb))))],[bl g12 97 ((cNs 4).enc (wd (tm xu (tm (nS da cb) (nS da cb)))))],[bl g13 97 ((cNs 4).enc (wd (tm aa bb)))],[bl g14 97 ((cNs 4).enc (wd (tm ee (nA aa (tm 121665 ee)))))]] w:=hH.only [true,true,true,true,true,true,true,true,false,false,false,false,false,false,false]
 exact zR5 k (tm (nA da cb) (nA da cb)) (tm xu (tm (nS da cb) (nS da cb))) (tm aa bb) (tm ee (nA aa (tm 121665 ee))) ⟨hH,(by omega),(aY (cn lda lcb) (cn lda lcb)),(aY lx (aY (cO lda) (cO lda))),(aY laa lbb),(aY lee (cn laa (aY (by decide) lee))),(by rw[me n xu (by omega),← hS];unfold fT;rw[if_pos (show (bitB n k).toNat=1 from hc25)];rw[if_pos (show (bitB n k).toNat=1 from hc25)]at hw;injection hw with u1 u2;injection u1 with u3 u4;injection u2 with u5 u6;subst hda hcb hee haa hbb hp hq u3 u4 u5 u6;rfl)⟩ (by omega)
 refine aA (aN (ag (aC (zv .mv 3 ?_))))
 refine zv (.sub ((k:Int)-1)) 1 ?_
 refine zv .mv 1 ?_
 refine aD ?_
 replace hH:HH w0 [] [[bl g1 22 ((ac 32).enc n)],[bl g2 22 ((ac 32).enc (stF u 31 ((u 31)&&&(127:UInt8))))],[bl g3 22 ((ac 32).enc (fun _=>0))],[bl g10 97 ((cNs 4).enc (wd xu))],[bl g11 97 ((cNs 4).enc (wd (tm aa bb)))],[bl g12 97 ((cNs 4).enc (wd (tm ee (nA aa (tm 121665 ee)))))],[bl g13 97 ((cNs 4).enc (wd (tm (nA da cb) (nA da cb))))],[bl g14 97 ((cNs 4).enc (wd (tm xu (tm (nS da cb) (nS da cb)))))]] w:=hH.only [true,true,true,true,true,true,true,true,false,false,false,false,false,false,false]
 exact zR5 k (tm aa bb) (tm ee (nA aa (tm 121665 ee))) (tm (nA da cb) (nA da cb)) (tm xu (tm (nS da cb) (nS da cb))) ⟨hH,(by omega),(aY laa lbb),(aY lee (cn laa (aY (by decide) lee))),(aY (cn lda lcb) (cn lda lcb)),(aY lx (aY (cO lda) (cO lda))),(by rw[me n xu (by omega),← hS];unfold fT;rw[if_neg (show ¬ (bitB n k).toNat=1 from hc25)];rw[if_neg (show ¬ (bitB n k).toNat=1 from hc25)]at hw;injection hw with u1 u2;injection u1 with u3 u4;injection u2 with u5 u6;subst hda hcb hee haa hbb hp hq u3 u4 u5 u6;rfl)⟩ (by omega)
 refine aJ (ak (ak (aR (ag ?_))))
 obtain rfl:j=0:=by omega
 refine zx ?_
 replace hH:=hH.drew
 refine rld 0 (hH.q 4 rfl) (.l0 (cNs 4) (wd a)) 367 ?_
 refine rld 1 (hH.q 5 rfl) (.l0 (cNs 4) (wd b)) 2 ?_
 refine ao 2 (rpc 2 Tryz.func77 (gY b lb) trivial hH 1 (pgo [] (.keep (.nil _ []))) ?_)
 clear hH
 intro w hH
 refine ⟨am (hH.blk 4 rfl) an,?_⟩
 refine ao 3 (rpc 3 Tryz.func75 (ba a (riv b) la (kO lb)) trivial hH 3 (pgo [] (.nil _ [])) ?_)
 clear hH
 intro w hH
 refine ⟨an,?_⟩
 refine ao 4 (rpc 4 Tryz.func76 (ov (tm a (riv b)) (aY la (kO lb))) trivial hH 1 (.nil _ []) ?_)
 clear hH
 intro w hH
 refine ⟨an,ao 5 ?_⟩
 refine re0 5 2 hH rfl (.sw (ac 32) (fun _=>0) (aZ (tm a (riv b)%pN))) trivial (.nil _ []) ?_
 clear hH
 rintro _ _ w rfl hH
 refine ⟨an,rn ?_⟩
 refine ar (aI 1 (hH.blk 2 rfl) rfl rfl (by kernel_rfl) (Cod.size _ _) (by kernel_rfl) ?_)
 have hr:aZ (tm a (riv b)%pN)=eQ s u:=by
  unfold eQ
  rw[← hn,← hx,show dLad n xu 255=((a,b),(c,d)) from hS.symm]
 exact ⟨by rw[← hr];rfl,HH.toBelow hH⟩
abbrev cP2:Cod (Bt×Bt):=bn (ac 32) (ac 32)
def iM:Bt:=fun i=>[65,219,1].getD i 0
def xPl(a b:Bt×Bt)(u:Bt):Bt×Bt :=
 (fM (fA (fM (fA a.1 a.2) (fS b.1 b.2)) (fM (fS a.1 a.2) (fA b.1 b.2))) (fA (fM (fA a.1 a.2) (fS b.1 b.2)) (fM (fS a.1 a.2) (fA b.1 b.2))),
  fM u (fM (fS (fM (fA a.1 a.2) (fS b.1 b.2)) (fM (fS a.1 a.2) (fA b.1 b.2))) (fS (fM (fA a.1 a.2) (fS b.1 b.2)) (fM (fS a.1 a.2) (fA b.1 b.2)))))
def xDb(a:Bt×Bt):Bt×Bt :=
 (fM (fM (fA a.1 a.2) (fA a.1 a.2)) (fM (fS a.1 a.2) (fS a.1 a.2)),
  fM (fS (fM (fA a.1 a.2) (fA a.1 a.2)) (fM (fS a.1 a.2) (fS a.1 a.2))) (fA (fM (fA a.1 a.2) (fA a.1 a.2)) (fM iM (fS (fM (fA a.1 a.2) (fA a.1 a.2)) (fM (fS a.1 a.2) (fS a.1 a.2))))))
def mx8(m:UInt8)(i:Nat)(a b:Bt):Bt:=fun j=>if j<i then a j^^^(m&&&(a j^^^b j)) else a j
theorem yn(m:UInt8)(a b:Bt):mx8 m 0 a b=a:=by funext j;simp[mx8]
theorem kS(m:UInt8)(i:Nat)(a b:Bt):mx8 m i a b i=a i:=by simp[mx8]
theorem kT(m:UInt8)(i:Nat)(a b:Bt):stF (mx8 m i a b) i (a i^^^(m&&&(a i^^^b i)))=mx8 m (i+1) a b:=by
 funext j
 unfold stF mx8
 by_cases h:j=i
 ·subst h;simp
 ·by_cases h2:j<i
  ·simp[h,h2,Nat.lt_succ_of_lt h2]
  ·have h3:¬ j<i+1:=by omega
   simp[h,h2,h3]
theorem mf(m:UInt8)(i:Nat)(a b:Bt):stF (mx8 m i a b) i (a i^^^(m&&&(b i^^^a i)))=mx8 m (i+1) a b:=by
 rw[UInt8.xor_comm (b i),kT]
def sxP(t:UInt8)(p q:Bt×Bt):Bt×Bt:=(mx8 (-t) 32 p.1 q.1,mx8 (-t) 32 p.2 q.2)
def xLad(n u:Bt):Nat→UInt8×(Bt×Bt)×(Bt×Bt)
 | 0=>(0,(cp,fun _=>0),(u,cp))
 | k+1 =>
  (bitB n (254-k),xDb (sxP ((xLad n u k).1^^^bitB n (254-k)) (xLad n u k).2.1 (xLad n u k).2.2),
   xPl (sxP ((xLad n u k).1^^^bitB n (254-k)) (xLad n u k).2.1 (xLad n u k).2.2) (sxP ((xLad n u k).1^^^bitB n (254-k)) (xLad n u k).2.2 (xLad n u k).2.1) u)
def xPr(n u:Bt):Bt:=fM (xLad n u 255).2.1.1 (fI (xLad n u 255).2.1.2)
def xNm(s:Bt):Bt:=stF (stF s 0 (s 0 &&& ~~~7)) 31 ((stF s 0 (s 0 &&& ~~~7) 31 &&& ~~~128)|||64)
def xPt(u:Bt):Bt:=stF u 31 (u 31 &&& ~~~128)
def xMulB(s u:Bt):Bt:=xPr (xNm s) (xPt u)
def fB:Bt:=fun i=>if i=0 then 9 else 0
def xPub(s:Bt):Bt:=xMulB s fB
theorem fC{a b:Nat→UInt8}(h:∀ i,i<32→a i=b i):nF a=nF b:=congrArg toF (kE h)
theorem yo(a b:Nat→UInt8):nF (fA a b)=nF a+nF b:=mc _
theorem yp(a b:Nat→UInt8):nF (fS a b)=nF a-nF b:=mc _
theorem yq(a b:Nat→UInt8):nF (fM a b)=nF a*nF b:=mc _
theorem BH(a:Nat→UInt8):nF (fI a)=ivF (nF a):=mc _
theorem uF:nF cp=1:=by decide +kernel
theorem qW:nF (fun _=>0)=0:=by decide +kernel
theorem zV:nF iM=toF 121665:=by decide +kernel
theorem pE:toF 1=1:=by decide +kernel
theorem qX:toF 0=0:=by decide +kernel
theorem mV(a b:Nat):toF (nA a b)=toF a+toF b:=by unfold nA;rw[pt,iK]
theorem mW(a b:Nat):toF (nS a b)=toF a-toF b:=sG a b
def fP(a:(Nat→UInt8)×(Nat→UInt8)):Fin pF×Fin pF:=(nF a.1,nF a.2)
def tP(a:Nat×Nat):Fin pF×Fin pF:=(toF a.1,toF a.2)
theorem zX(x:UInt8):(x&&&1).toNat=0∨(x&&&1).toNat=1:=by
 rw[UInt8.toNat_and,show (1:UInt8).toNat=1 from rfl,Nat.and_one_is_mod];omega
theorem CR{x:UInt8}(h:x.toNat=0∨x.toNat=1):x=0∨x=1:=h.imp (fun h=>UInt8.toNat_inj.1 h) fun h=>UInt8.toNat_inj.1 h
theorem yr(p q:UInt8):p^^^((-0:UInt8)&&&(p^^^q))=p:=by simp
theorem yt(p q:UInt8):p^^^((-1:UInt8)&&&(p^^^q))=q:=by
 rw[show (-1:UInt8)=255 from rfl]
 apply UInt8.toBitVec_inj.1
 simp only[UInt8.toBitVec_xor,UInt8.toBitVec_and]
 generalize p.toBitVec=a
 generalize q.toBitVec=b
 rw[show (255:UInt8).toBitVec=BitVec.allOnes 8 from rfl,BitVec.allOnes_and,← BitVec.xor_assoc,BitVec.xor_self,BitVec.zero_xor]
theorem mY(p q:(Nat→UInt8)×(Nat→UInt8)):fP (sxP 0 p q)=fP p:=by
 refine Prod.ext (fC fun i hi => ?_) (fC fun i hi => ?_)
 ·show mx8 (-0) 32 p.1 q.1 i=p.1 i
  unfold mx8;rw[if_pos hi,yr]
 ·show mx8 (-0) 32 p.2 q.2 i=p.2 i
  unfold mx8;rw[if_pos hi,yr]
theorem mZ(p q:(Nat→UInt8)×(Nat→UInt8)):fP (sxP 1 p q)=fP q:=by
 refine Prod.ext (fC fun i hi => ?_) (fC fun i hi => ?_)
 ·show mx8 (-1) 32 p.1 q.1 i=q.1 i
  unfold mx8;rw[if_pos hi,yt]
 ·show mx8 (-1) 32 p.2 q.2 i=q.2 i
  unfold mx8;rw[if_pos hi,yt]
theorem qY{p:(Nat→UInt8)×(Nat→UInt8)}{a:Nat×Nat}(h:fP p=tP a):fP (xDb p)=tP (dD a.1 a.2):=by
 have h1:nF p.1=toF a.1:=congrArg Prod.fst h
 have h2:nF p.2=toF a.2:=congrArg Prod.snd h
 unfold fP tP xDb dD
 simp only[yq,yo,yp,zV,fi,mV,mW,h1,h2]
theorem qZ{p q:(Nat→UInt8)×(Nat→UInt8)}{a b:Nat×Nat}{u:Nat→UInt8}{x:Nat}(h:fP p=tP a)(k:fP q=tP b)(hu:nF u=toF x):fP (xPl p q u)=tP (dA x a.1 a.2 b.1 b.2):=by
 have h1:nF p.1=toF a.1:=congrArg Prod.fst h
 have h2:nF p.2=toF a.2:=congrArg Prod.snd h
 have k1:nF q.1=toF b.1:=congrArg Prod.fst k
 have k2:nF q.2=toF b.2:=congrArg Prod.snd k
 unfold fP tP xPl dA
 simp only[yq,yo,yp,fi,mV,mW,h1,h2,k1,k2,hu]
 generalize toF a.1=a1
 generalize toF a.2=a2
 generalize toF b.1=b1
 generalize toF b.2=b2
 generalize toF x=x
 refine Prod.ext ?_ ?_
 ·show ((a1+a2)*(b1-b2)+(a1-a2)*(b1+b2))*((a1+a2)*(b1-b2)+(a1-a2)*(b1+b2))=((a1-a2)*(b1+b2)+(a1+a2)*(b1-b2))*((a1-a2)*(b1+b2)+(a1+a2)*(b1-b2))
  grind
 ·show x*(((a1+a2)*(b1-b2)-(a1-a2)*(b1+b2))*((a1+a2)*(b1-b2)-(a1-a2)*(b1+b2)))=x*(((a1-a2)*(b1+b2)-(a1+a2)*(b1-b2))*((a1-a2)*(b1+b2)-(a1+a2)*(b1-b2)))
  grind
theorem BI(n u:Nat→UInt8)(x:Nat)(hu:nF u=toF x):∀ k,((xLad n u k).1=0∧fP (xLad n u k).2.1=tP (dLad n x k).1∧fP (xLad n u k).2.2=tP (dLad n x k).2)∨((xLad n u k).1=1∧fP (xLad n u k).2.1=tP (dLad n x k).2∧fP (xLad n u k).2.2=tP (dLad n x k).1)
 | 0=>.inl ⟨rfl,Prod.ext (uF.trans pE.symm) (qW.trans qX.symm),Prod.ext hu (uF.trans pE.symm)⟩
 | k+1=>by
  have ih:=BI n u x hu k
  have hb:=CR (x:=bitB n (254-k)) (zX _)
  show (bitB n (254-k)=0∧fP (xDb _)=tP (fT x (bitB n (254-k)) (dLad n x k)).1∧fP (xPl _ _ u)=tP (fT x (bitB n (254-k)) (dLad n x k)).2)∨(bitB n (254-k)=1∧fP (xDb _)=tP (fT x (bitB n (254-k)) (dLad n x k)).2∧fP (xPl _ _ u)=tP (fT x (bitB n (254-k)) (dLad n x k)).1)
  generalize xLad n u k=X at *
  generalize dLad n x k=S at *
  generalize bitB n (254-k)=t at *
  obtain ⟨sb,p,q⟩:=X
  rcases hb with rfl | rfl
  ·refine .inl ⟨rfl,?_⟩
   show fP (xDb (sxP (sb^^^0) p q))=tP (dD S.1.1 S.1.2)∧fP (xPl (sxP (sb^^^0) p q) (sxP (sb^^^0) q p) u)=tP (dA x S.1.1 S.1.2 S.2.1 S.2.2)
   rcases ih with ⟨h0,h1,h2⟩ | ⟨h0,h1,h2⟩<;>subst h0
   ·have e1:fP (sxP (0^^^0) p q)=tP S.1:=(mY p q).trans h1
    have e2:fP (sxP (0^^^0) q p)=tP S.2:=(mY q p).trans h2
    exact ⟨qY e1,qZ e1 e2 hu⟩
   ·have e1:fP (sxP (1^^^0) p q)=tP S.1:=(mZ p q).trans h2
    have e2:fP (sxP (1^^^0) q p)=tP S.2:=(mZ q p).trans h1
    exact ⟨qY e1,qZ e1 e2 hu⟩
  ·refine .inr ⟨rfl,?_⟩
   show fP (xDb (sxP (sb^^^1) p q))=tP (dD S.2.1 S.2.2)∧fP (xPl (sxP (sb^^^1) p q) (sxP (sb^^^1) q p) u)=tP (dA x S.2.1 S.2.2 S.1.1 S.1.2)
   rcases ih with ⟨h0,h1,h2⟩ | ⟨h0,h1,h2⟩<;>subst h0
   ·have e1:fP (sxP (0^^^1) p q)=tP S.2:=(mZ p q).trans h2
    have e2:fP (sxP (0^^^1) q p)=tP S.1:=(mZ q p).trans h1
    exact ⟨qY e1,qZ e1 e2 hu⟩
   ·have e1:fP (sxP (1^^^1) p q)=tP S.2:=(mY p q).trans h1
    have e2:fP (sxP (1^^^1) q p)=tP S.1:=(mY q p).trans h2
    exact ⟨qY e1,qZ e1 e2 hu⟩
theorem zY(s:Nat→UInt8):xNm s=dNm s:=rfl
theorem zZ(u:Nat→UInt8):xPt u=dPt u:=rfl
theorem wX(x:UInt8):sr8 (x&&&248) 0&&&1=0:=by
 have h:∀ n:Fin 256,sr8 (UInt8.ofNat n.val&&&248) 0&&&1=0:=by decide +kernel
 have:=h ⟨x.toNat,x.toNat_lt⟩
 simpa using this
theorem kV(s u:Nat→UInt8):xMulB s u=eQ s u:=by
 have hl:=BI (dNm s) (dPt u) (lv (dPt u) 32) rfl 255
 have hb:(xLad (dNm s) (dPt u) 255).1=0:=by
  show sr8 (dNm s 0) 0&&&1=0
  exact wX (s 0)
 rcases hl with ⟨_,h1,_⟩ | ⟨h0,_⟩
 ·unfold xMulB eQ
  rw[zY,zZ]
  unfold xPr
  generalize xLad (dNm s) (dPt u) 255=X at *
  generalize dLad (dNm s) (lv (dPt u) 32) 255=S at *
  have k1:nF X.2.1.1=toF S.1.1:=congrArg Prod.fst h1
  have k2:nF X.2.1.2=toF S.1.2:=congrArg Prod.snd h1
  show bF (nF X.2.1.1*nF (fI X.2.1.2))=bF (toF (tm S.1.1 (riv S.1.2)))
  rw[BH,fi,qU,k1,k2]
 ·rw[hb]at h0
  exact absurd h0 (by decide)
theorem q7(a:Bt):Pure Tryz.prog 132 #[((ac 32).val a)] (fun _=>True) ((ac 32).val (fM a a)):=by
 refine pU Tryz.func132 Tryz.ntmps132 ?_
 intro w0 hH hR
 refine zr (zB hH (ac 32) a 1 ?_)
 clear hH
 intro g1 w hH
 refine zA hH (ac 32) (fun _=>0) 0 ?_
 clear hH
 intro g2 w hH
 refine zn (zr (zs (hH.q 0 rfl) (.l0 (ac 32) a) 0 ?_))
 refine zs (hH.q 0 rfl) (.l0 (ac 32) a) 4 ?_
 refine zc Tryz.func96 (d9 a a) trivial hH 3 ?_
 clear hH
 intro w hH
 refine zW 1 hH rfl (fM a a) ?_
 clear hH
 intro w hH
 refine zn (ar (aI 1 (hH.blk 1 rfl) rfl rfl (by kernel_rfl) (Cod.size _ _) (by kernel_rfl) ?_))
 exact zE hH
theorem z9  : Pure Tryz.prog 135 #[] (fun _=>True) ((ac 32).val iM):=by
 refine pU Tryz.func135 Tryz.ntmps135 ?_
 intro w0 hH hR
 refine zr (zA hH (ac 32) (fun _=>0) 0 ?_)
 clear hH
 intro g1 w hH
 refine zn (zr (zv (v:=((ac 32).val iM)) (fun _ _ hF=>aE (cells:=(ac 32).enc iM) (vals:=[(0,(.int .u8 65)),(1,(.int .u8 219)),(2,(.int .u8 1))]) rfl (EvP.cons (v:=(.int .u8 65)) rfl (EvP.cons (v:=(.int .u8 219)) rfl (EvP.cons (v:=(.int .u8 1)) rfl EvP.nil))) (by kernel_rfl) _) 0 ?_))
 refine zW 0 hH rfl iM ?_
 clear hH
 intro w hH
 refine zn (ar (aI 1 (hH.blk 0 rfl) rfl rfl (by kernel_rfl) (Cod.size _ _) (by kernel_rfl) ?_))
 exact zE hH
theorem BJ(a b:Bt×Bt)(u:Bt):Pure Tryz.prog 95 #[(cP2.val a),(cP2.val b),((ac 32).val u)] (fun _=>True) (cP2.val (xPl a b u)):=by
 refine pU Tryz.func95 Tryz.ntmps95 ?_
 intro w0 hH hR
 refine zr (zB hH cP2 a 1 ?_)
 clear hH
 intro g1 w hH
 refine zB hH cP2 b 2 ?_
 clear hH
 intro g2 w hH
 refine zB hH (ac 32) u 4 ?_
 clear hH
 intro g3 w hH
 refine zA hH cP2 (fun _=>0,fun _=>0) 0 ?_
 clear hH
 intro g4 w hH
 refine zn (zx ?_)
 replace hH:=hH.drew
 refine de 0 [pv 0 9 [] [] fun G=>(.pointer (some ⟨g1,0,none⟩)),ldv 1 10 [0] [] [1000] fun G=>((ac 32).val a.1),pv 2 11 [] [] fun G=>(.pointer (some ⟨g1,32,none⟩)),ldv 3 12 [2] [] [1000] fun G=>((ac 32).val a.2),pv 4 13 [1,3] [] fun G=>((ac 32).val (fA a.1 a.2)),pv 5 14 [] [] fun G=>(.pointer (some ⟨g2,0,none⟩)),ldv 6 15 [5] [] [1001] fun G=>((ac 32).val b.1),pv 7 16 [] [] fun G=>(.pointer (some ⟨g2,32,none⟩)),ldv 8 17 [7] [] [1001] fun G=>((ac 32).val b.2),pv 9 18 [6,8] [] fun G=>((ac 32).val (fS b.1 b.2)),pv 10 19 [4,9] [] fun G=>((ac 32).val (fM (fA a.1 a.2) (fS b.1 b.2))),alv 11 7 [] [] fun G g=>[bl g 22 ((ac 32).enc (fun _=>0))],stv 12 [10,11] [11] 11 fun G=>[bl (G 11).g 22 ((ac 32).enc (fM (fA a.1 a.2) (fS b.1 b.2)))]] (fun G=>[(7,(.pointer (some ⟨(G 11).g,0,none⟩))),(6,(.pointer (some ⟨g4,0,none⟩))),(5,(.pointer (some ⟨g3,0,none⟩))),(4,(.pointer (some ⟨g2,0,none⟩))),(3,(.pointer (some ⟨g1,0,none⟩)))]) (fun G=>[[bl g1 128 (cP2.enc a)],[bl g2 128 (cP2.enc b)],[bl g3 22 ((ac 32).enc u)],[bl g4 128 (cP2.enc (fun _=>0,fun _=>0))],[bl (G 11).g 22 ((ac 32).enc (fM (fA a.1 a.2) (fS b.1 b.2)))]]) hH (.c (.v fun G=>(.fld 0)) <| .c (.ld (fun G _ _ hH=>(hH.q 0 rfl)) fun G=>(.ld (ac 32) a.1 (fun _ hS=>(ae hS).fst))) <| .c (.v fun G=>(.fld 32)) <| .c (.ld (fun G _ _ hH=>(hH.q 0 rfl)) fun G=>(.ld (ac 32) a.2 (fun _ hS=>(ae hS).snd))) <| .c (Sp.c Tryz.func133 (fun G=>(gD a.1 a.2)) fun _=>trivial) <| .c (.v fun G=>(.fld 0)) <| .c (.ld (fun G _ _ hH=>(hH.q 0 rfl)) fun G=>(.ld (ac 32) b.1 (fun _ hS=>(ae hS).fst))) <| .c (.v fun G=>(.fld 32)) <| .c (.ld (fun G _ _ hH=>(hH.q 0 rfl)) fun G=>(.ld (ac 32) b.2 (fun _ hS=>(ae hS).snd))) <| .c (Sp.c Tryz.func134 (fun G=>(jj b.1 b.2)) fun _=>trivial) <| .c (Sp.c Tryz.func96 (fun G=>(d9 (fA a.1 a.2) (fS b.1 b.2))) fun _=>trivial) <| .c (.a (fun _ _ _ _=>trivial) (fun G=>(.al (ac 32) (fun _=>0))) fun _ _ _ h=>h) <| .c (.tn (fun G=>(.sw (ac 32) (fun _=>0) (fM (fA a.1 a.2) (fS b.1 b.2)))) (fun _ _ _ _=>trivial) fun _ _ _ h=>h) <| .nil) ?_
 clear hH
 rintro G w-hH
 revert hH
 generalize (G 11).g=g5
 intro hH
 refine rn ?_
 refine zx ?_
 replace hH:=hH.drew
 refine de 0 [pv 0 20 [] [] fun G=>(.pointer (some ⟨g1,0,none⟩)),ldv 1 21 [0] [] [1000] fun G=>((ac 32).val a.1),pv 2 22 [] [] fun G=>(.pointer (some ⟨g1,32,none⟩)),ldv 3 23 [2] [] [1000] fun G=>((ac 32).val a.2),pv 4 24 [1,3] [] fun G=>((ac 32).val (fS a.1 a.2)),pv 5 25 [] [] fun G=>(.pointer (some ⟨g2,0,none⟩)),ldv 6 26 [5] [] [1001] fun G=>((ac 32).val b.1),pv 7 27 [] [] fun G=>(.pointer (some ⟨g2,32,none⟩)),ldv 8 28 [7] [] [1001] fun G=>((ac 32).val b.2),pv 9 29 [6,8] [] fun G=>((ac 32).val (fA b.1 b.2)),pv 10 30 [4,9] [] fun G=>((ac 32).val (fM (fS a.1 a.2) (fA b.1 b.2))),alv 11 8 [] [] fun G g=>[bl g 22 ((ac 32).enc (fun _=>0))],stv 12 [10,11] [11] 11 fun G=>[bl (G 11).g 22 ((ac 32).enc (fM (fS a.1 a.2) (fA b.1 b.2)))]] (fun G=>[(8,(.pointer (some ⟨(G 11).g,0,none⟩))),(7,(.pointer (some ⟨g5,0,none⟩))),(6,(.pointer (some ⟨g4,0,none⟩))),(5,(.pointer (some ⟨g3,0,none⟩)))]) (fun G=>[[bl g1 128 (cP2.enc a)],[bl g2 128 (cP2.enc b)],[bl g3 22 ((ac 32).enc u)],[bl g4 128 (cP2.enc (fun _=>0,fun _=>0))],[bl g5 22 ((ac 32).enc (fM (fA a.1 a.2) (fS b.1 b.2)))],[bl (G 11).g 22 ((ac 32).enc (fM (fS a.1 a.2) (fA b.1 b.2)))]]) hH (.c (.v fun G=>(.fld 0)) <| .c (.ld (fun G _ _ hH=>(hH.q 0 rfl)) fun G=>(.ld (ac 32) a.1 (fun _ hS=>(ae hS).fst))) <| .c (.v fun G=>(.fld 32)) <| .c (.ld (fun G _ _ hH=>(hH.q 0 rfl)) fun G=>(.ld (ac 32) a.2 (fun _ hS=>(ae hS).snd))) <| .c (Sp.c Tryz.func134 (fun G=>(jj a.1 a.2)) fun _=>trivial) <| .c (.v fun G=>(.fld 0)) <| .c (.ld (fun G _ _ hH=>(hH.q 0 rfl)) fun G=>(.ld (ac 32) b.1 (fun _ hS=>(ae hS).fst))) <| .c (.v fun G=>(.fld 32)) <| .c (.ld (fun G _ _ hH=>(hH.q 0 rfl)) fun G=>(.ld (ac 32) b.2 (fun _ hS=>(ae hS).snd))) <| .c (Sp.c Tryz.func133 (fun G=>(gD b.1 b.2)) fun _=>trivial) <| .c (Sp.c Tryz.func96 (fun G=>(d9 (fS a.1 a.2) (fA b.1 b.2))) fun _=>trivial) <| .c (.a (fun _ _ _ _=>trivial) (fun G=>(.al (ac 32) (fun _=>0))) fun _ _ _ h=>h) <| .c (.tn (fun G=>(.sw (ac 32) (fun _=>0) (fM (fS a.1 a.2) (fA b.1 b.2)))) (fun _ _ _ _=>trivial) fun _ _ _ h=>h) <| .nil) ?_
 clear hH
 rintro G w-hH
 revert hH
 generalize (G 11).g=g6
 intro hH
 refine rn ?_
 refine zx ?_
 replace hH:=hH.drew
 refine rld 0 (hH.q 4 rfl) (.l0 (ac 32) (fM (fA a.1 a.2) (fS b.1 b.2))) 0 ?_
 refine rld 1 (hH.q 5 rfl) (.l0 (ac 32) (fM (fS a.1 a.2) (fA b.1 b.2))) 0 ?_
 refine rld 4 (hH.q 2 rfl) (.l0 (ac 32) u) 32 ?_
 refine rld 5 (hH.q 4 rfl) (.l0 (ac 32) (fM (fA a.1 a.2) (fS b.1 b.2))) 16 ?_
 refine rld 6 (hH.q 5 rfl) (.l0 (ac 32) (fM (fS a.1 a.2) (fA b.1 b.2))) 16 ?_
 refine ao 2 (rpc 2 Tryz.func133 (gD (fM (fA a.1 a.2) (fS b.1 b.2)) (fM (fS a.1 a.2) (fA b.1 b.2))) trivial hH 24 (.keep (.keep (.keep (pgo [] (pgo [] (.nil _ [])))))) ?_)
 clear hH
 intro w hH
 refine ⟨am (hH.blk 5 rfl) (am (hH.blk 4 rfl) (am (hH.blk 2 rfl) an)),?_⟩
 refine ao 3 (rpc 3 Tryz.func132 (q7 (fA (fM (fA a.1 a.2) (fS b.1 b.2)) (fM (fS a.1 a.2) (fA b.1 b.2)))) trivial hH 1 (.keep (.keep (.keep (.nil _ [])))) ?_)
 clear hH
 intro w hH
 refine ⟨am (hH.blk 5 rfl) (am (hH.blk 4 rfl) (am (hH.blk 2 rfl) an)),?_⟩
 refine ao 7 (rpc 7 Tryz.func134 (jj (fM (fA a.1 a.2) (fS b.1 b.2)) (fM (fS a.1 a.2) (fA b.1 b.2))) trivial hH 6 (pgo [] (pgo [] (.keep (.nil _ [])))) ?_)
 clear hH
 intro w hH
 refine ⟨am (hH.blk 2 rfl) an,?_⟩
 refine ao 8 (rpc 8 Tryz.func132 (q7 (fS (fM (fA a.1 a.2) (fS b.1 b.2)) (fM (fS a.1 a.2) (fA b.1 b.2)))) trivial hH 1 (.keep (.nil _ [])) ?_)
 clear hH
 intro w hH
 refine ⟨am (hH.blk 2 rfl) an,?_⟩
 refine ao 9 (rpc 9 Tryz.func96 (d9 u (fM (fS (fM (fA a.1 a.2) (fS b.1 b.2)) (fM (fS a.1 a.2) (fA b.1 b.2))) (fS (fM (fA a.1 a.2) (fS b.1 b.2)) (fM (fS a.1 a.2) (fA b.1 b.2))))) trivial hH 5 (pgo [] (.nil _ [])) ?_)
 clear hH
 intro w hH
 refine ⟨an,rv 10 (v:=(cP2.val ((fM (fA (fM (fA a.1 a.2) (fS b.1 b.2)) (fM (fS a.1 a.2) (fA b.1 b.2))) (fA (fM (fA a.1 a.2) (fS b.1 b.2)) (fM (fS a.1 a.2) (fA b.1 b.2)))),(fM u (fM (fS (fM (fA a.1 a.2) (fS b.1 b.2)) (fM (fS a.1 a.2) (fA b.1 b.2))) (fS (fM (fA a.1 a.2) (fS b.1 b.2)) (fM (fS a.1 a.2) (fA b.1 b.2)))))))) (fun _ _ hF=>aE (cells:=cP2.enc ((fM (fA (fM (fA a.1 a.2) (fS b.1 b.2)) (fM (fS a.1 a.2) (fA b.1 b.2))) (fA (fM (fA a.1 a.2) (fS b.1 b.2)) (fM (fS a.1 a.2) (fA b.1 b.2)))),(fM u (fM (fS (fM (fA a.1 a.2) (fS b.1 b.2)) (fM (fS a.1 a.2) (fA b.1 b.2))) (fS (fM (fA a.1 a.2) (fS b.1 b.2)) (fM (fS a.1 a.2) (fA b.1 b.2))))))) rfl (EvP.cons (v:=((ac 32).val (fM (fA (fM (fA a.1 a.2) (fS b.1 b.2)) (fM (fS a.1 a.2) (fA b.1 b.2))) (fA (fM (fA a.1 a.2) (fS b.1 b.2)) (fM (fS a.1 a.2) (fA b.1 b.2)))))) (hF.ev 1 rfl) (EvP.cons (v:=((ac 32).val (fM u (fM (fS (fM (fA a.1 a.2) (fS b.1 b.2)) (fM (fS a.1 a.2) (fA b.1 b.2))) (fS (fM (fA a.1 a.2) (fS b.1 b.2)) (fM (fS a.1 a.2) (fA b.1 b.2))))))) (hF.ev 0 rfl) EvP.nil)) (eH (x:=(((fM (fA (fM (fA a.1 a.2) (fS b.1 b.2)) (fM (fS a.1 a.2) (fA b.1 b.2))) (fA (fM (fA a.1 a.2) (fS b.1 b.2)) (fM (fS a.1 a.2) (fA b.1 b.2)))),(fM u (fM (fS (fM (fA a.1 a.2) (fS b.1 b.2)) (fM (fS a.1 a.2) (fA b.1 b.2))) (fS (fM (fA a.1 a.2) (fS b.1 b.2)) (fM (fS a.1 a.2) (fA b.1 b.2)))))):Bt×Bt)) (by kernel_rfl) rfl rfl) _) 3 ?_⟩
 refine ao 11 ?_
 refine re0 11 3 hH rfl (.sw cP2 (fun _=>0,fun _=>0) ((fM (fA (fM (fA a.1 a.2) (fS b.1 b.2)) (fM (fS a.1 a.2) (fA b.1 b.2))) (fA (fM (fA a.1 a.2) (fS b.1 b.2)) (fM (fS a.1 a.2) (fA b.1 b.2)))),(fM u (fM (fS (fM (fA a.1 a.2) (fS b.1 b.2)) (fM (fS a.1 a.2) (fA b.1 b.2))) (fS (fM (fA a.1 a.2) (fS b.1 b.2)) (fM (fS a.1 a.2) (fA b.1 b.2))))))) trivial (.nil _ []) ?_
 clear hH
 rintro _ _ w rfl hH
 refine ⟨an,rn ?_⟩
 refine ar (aI 1 (hH.blk 3 rfl) rfl rfl (by kernel_rfl) (Cod.size _ _) (by kernel_rfl) ?_)
 exact zE hH
theorem BK(a:Bt×Bt):Pure Tryz.prog 94 #[(cP2.val a)] (fun _=>True) (cP2.val (xDb a)):=by
 refine pU Tryz.func94 Tryz.ntmps94 ?_
 intro w0 hH hR
 refine zr (zB hH cP2 a 1 ?_)
 clear hH
 intro g1 w hH
 refine zA hH cP2 (fun _=>0,fun _=>0) 0 ?_
 clear hH
 intro g2 w hH
 refine zn (zx ?_)
 replace hH:=hH.drew
 refine de 0 [pv 0 6 [] [] fun G=>(.pointer (some ⟨g1,0,none⟩)),ldv 1 7 [0] [] [1000] fun G=>((ac 32).val a.1),pv 2 8 [] [] fun G=>(.pointer (some ⟨g1,32,none⟩)),ldv 3 9 [2] [] [1000] fun G=>((ac 32).val a.2),pv 4 10 [1,3] [] fun G=>((ac 32).val (fA a.1 a.2)),pv 5 11 [4] [] fun G=>((ac 32).val (fM (fA a.1 a.2) (fA a.1 a.2))),pv 6 12 [] [] fun G=>(.pointer (some ⟨g1,0,none⟩)),ldv 7 13 [6] [] [1000] fun G=>((ac 32).val a.1),pv 8 14 [] [] fun G=>(.pointer (some ⟨g1,32,none⟩)),ldv 9 15 [8] [] [1000] fun G=>((ac 32).val a.2),pv 10 16 [7,9] [] fun G=>((ac 32).val (fS a.1 a.2)),pv 11 17 [10] [] fun G=>((ac 32).val (fM (fS a.1 a.2) (fS a.1 a.2))),alv 12 3 [] [] fun G g=>[bl g 22 ((ac 32).enc (fun _=>0))],alv 13 4 [] [] fun G g=>[bl g 22 ((ac 32).enc (fun _=>0))],stv 14 [5,12] [12] 12 fun G=>[bl (G 12).g 22 ((ac 32).enc (fM (fA a.1 a.2) (fA a.1 a.2)))],stv 15 [11,13] [13] 13 fun G=>[bl (G 13).g 22 ((ac 32).enc (fM (fS a.1 a.2) (fS a.1 a.2)))]] (fun G=>[(3,(.pointer (some ⟨(G 12).g,0,none⟩))),(4,(.pointer (some ⟨(G 13).g,0,none⟩))),(2,(.pointer (some ⟨g2,0,none⟩)))]) (fun G=>[[bl g1 128 (cP2.enc a)],[bl g2 128 (cP2.enc (fun _=>0,fun _=>0))],[bl (G 12).g 22 ((ac 32).enc (fM (fA a.1 a.2) (fA a.1 a.2)))],[bl (G 13).g 22 ((ac 32).enc (fM (fS a.1 a.2) (fS a.1 a.2)))]]) hH (.c (.v fun G=>(.fld 0)) <| .c (.ld (fun G _ _ hH=>(hH.q 0 rfl)) fun G=>(.ld (ac 32) a.1 (fun _ hS=>(ae hS).fst))) <| .c (.v fun G=>(.fld 32)) <| .c (.ld (fun G _ _ hH=>(hH.q 0 rfl)) fun G=>(.ld (ac 32) a.2 (fun _ hS=>(ae hS).snd))) <| .c (Sp.c Tryz.func133 (fun G=>(gD a.1 a.2)) fun _=>trivial) <| .c (Sp.c Tryz.func132 (fun G=>(q7 (fA a.1 a.2))) fun _=>trivial) <| .c (.v fun G=>(.fld 0)) <| .c (.ld (fun G _ _ hH=>(hH.q 0 rfl)) fun G=>(.ld (ac 32) a.1 (fun _ hS=>(ae hS).fst))) <| .c (.v fun G=>(.fld 32)) <| .c (.ld (fun G _ _ hH=>(hH.q 0 rfl)) fun G=>(.ld (ac 32) a.2 (fun _ hS=>(ae hS).snd))) <| .c (Sp.c Tryz.func134 (fun G=>(jj a.1 a.2)) fun _=>trivial) <| .c (Sp.c Tryz.func132 (fun G=>(q7 (fS a.1 a.2))) fun _=>trivial) <| .c (.a (fun _ _ _ _=>trivial) (fun G=>(.al (ac 32) (fun _=>0))) fun _ _ _ h=>h) <| .c (.a (fun _ _ _ _=>trivial) (fun G=>(.al (ac 32) (fun _=>0))) fun _ _ _ h=>h) <| .c (.tn (fun G=>(.sw (ac 32) (fun _=>0) (fM (fA a.1 a.2) (fA a.1 a.2)))) (fun _ _ _ _=>trivial) fun _ _ _ h=>h) <| .c (.tn (fun G=>(.sw (ac 32) (fun _=>0) (fM (fS a.1 a.2) (fS a.1 a.2)))) (fun _ _ _ _=>trivial) fun _ _ _ h=>h) <| .nil) ?_
 clear hH
 rintro G w-hH
 revert hH
 generalize (G 12).g=g3
 generalize (G 13).g=g4
 intro hH
 refine rn ?_
 refine zr (zs (hH.q 2 rfl) (.l0 (ac 32) (fM (fA a.1 a.2) (fA a.1 a.2))) 0 ?_)
 refine zs (hH.q 3 rfl) (.l0 (ac 32) (fM (fS a.1 a.2) (fS a.1 a.2))) 0 ?_
 refine zc Tryz.func134 (jj (fM (fA a.1 a.2) (fA a.1 a.2)) (fM (fS a.1 a.2) (fS a.1 a.2))) trivial hH 3 ?_
 clear hH
 intro w hH
 refine zA hH (ac 32) (fun _=>0) 0 ?_
 clear hH
 intro g5 w hH
 refine zW 4 hH rfl (fS (fM (fA a.1 a.2) (fA a.1 a.2)) (fM (fS a.1 a.2) (fS a.1 a.2))) ?_
 clear hH
 intro w hH
 refine zn (zx ?_)
 replace hH:=hH.drew
 refine rld 0 (hH.q 2 rfl) (.l0 (ac 32) (fM (fA a.1 a.2) (fA a.1 a.2))) 2 ?_
 refine rld 1 (hH.q 3 rfl) (.l0 (ac 32) (fM (fS a.1 a.2) (fS a.1 a.2))) 8 ?_
 refine rld 3 (hH.q 4 rfl) (.l0 (ac 32) (fS (fM (fA a.1 a.2) (fA a.1 a.2)) (fM (fS a.1 a.2) (fS a.1 a.2)))) 0 ?_
 refine rld 4 (hH.q 2 rfl) (.l0 (ac 32) (fM (fA a.1 a.2) (fA a.1 a.2))) 16 ?_
 refine rld 6 (hH.q 4 rfl) (.l0 (ac 32) (fS (fM (fA a.1 a.2) (fA a.1 a.2)) (fM (fS a.1 a.2) (fS a.1 a.2)))) 16 ?_
 refine ao 2 (rpc 2 Tryz.func96 (d9 (fM (fA a.1 a.2) (fA a.1 a.2)) (fM (fS a.1 a.2) (fS a.1 a.2))) trivial hH 24 (.keep (.keep (.keep (pgo [] (pgo [] (.nil _ [])))))) ?_)
 clear hH
 intro w hH
 refine ⟨am (hH.blk 4 rfl) (am (hH.blk 2 rfl) (am (hH.blk 4 rfl) an)),?_⟩
 refine ao 5 (rpc 5 Tryz.func135 (z9 ) trivial hH 0 (.keep (.keep (.keep (.nil _ [])))) ?_)
 clear hH
 intro w hH
 refine ⟨am (hH.blk 4 rfl) (am (hH.blk 2 rfl) (am (hH.blk 4 rfl) an)),?_⟩
 refine ao 7 (rpc 7 Tryz.func96 (d9 iM (fS (fM (fA a.1 a.2) (fA a.1 a.2)) (fM (fS a.1 a.2) (fS a.1 a.2)))) trivial hH 5 (pgo [] (.keep (.keep (.nil _ [])))) ?_)
 clear hH
 intro w hH
 refine ⟨am (hH.blk 2 rfl) (am (hH.blk 4 rfl) an),?_⟩
 refine ao 8 (rpc 8 Tryz.func133 (gD (fM (fA a.1 a.2) (fA a.1 a.2)) (fM iM (fS (fM (fA a.1 a.2) (fA a.1 a.2)) (fM (fS a.1 a.2) (fS a.1 a.2))))) trivial hH 5 (pgo [] (.keep (.nil _ []))) ?_)
 clear hH
 intro w hH
 refine ⟨am (hH.blk 4 rfl) an,?_⟩
 refine ao 9 (rpc 9 Tryz.func96 (d9 (fS (fM (fA a.1 a.2) (fA a.1 a.2)) (fM (fS a.1 a.2) (fS a.1 a.2))) (fA (fM (fA a.1 a.2) (fA a.1 a.2)) (fM iM (fS (fM (fA a.1 a.2) (fA a.1 a.2)) (fM (fS a.1 a.2) (fS a.1 a.2)))))) trivial hH 5 (pgo [] (.nil _ [])) ?_)
 clear hH
 intro w hH
 refine ⟨an,rv 10 (v:=(cP2.val ((fM (fM (fA a.1 a.2) (fA a.1 a.2)) (fM (fS a.1 a.2) (fS a.1 a.2))),(fM (fS (fM (fA a.1 a.2) (fA a.1 a.2)) (fM (fS a.1 a.2) (fS a.1 a.2))) (fA (fM (fA a.1 a.2) (fA a.1 a.2)) (fM iM (fS (fM (fA a.1 a.2) (fA a.1 a.2)) (fM (fS a.1 a.2) (fS a.1 a.2))))))))) (fun _ _ hF=>aE (cells:=cP2.enc ((fM (fM (fA a.1 a.2) (fA a.1 a.2)) (fM (fS a.1 a.2) (fS a.1 a.2))),(fM (fS (fM (fA a.1 a.2) (fA a.1 a.2)) (fM (fS a.1 a.2) (fS a.1 a.2))) (fA (fM (fA a.1 a.2) (fA a.1 a.2)) (fM iM (fS (fM (fA a.1 a.2) (fA a.1 a.2)) (fM (fS a.1 a.2) (fS a.1 a.2)))))))) rfl (EvP.cons (v:=((ac 32).val (fM (fM (fA a.1 a.2) (fA a.1 a.2)) (fM (fS a.1 a.2) (fS a.1 a.2))))) (hF.ev 1 rfl) (EvP.cons (v:=((ac 32).val (fM (fS (fM (fA a.1 a.2) (fA a.1 a.2)) (fM (fS a.1 a.2) (fS a.1 a.2))) (fA (fM (fA a.1 a.2) (fA a.1 a.2)) (fM iM (fS (fM (fA a.1 a.2) (fA a.1 a.2)) (fM (fS a.1 a.2) (fS a.1 a.2)))))))) (hF.ev 0 rfl) EvP.nil)) (eH (x:=(((fM (fM (fA a.1 a.2) (fA a.1 a.2)) (fM (fS a.1 a.2) (fS a.1 a.2))),(fM (fS (fM (fA a.1 a.2) (fA a.1 a.2)) (fM (fS a.1 a.2) (fS a.1 a.2))) (fA (fM (fA a.1 a.2) (fA a.1 a.2)) (fM iM (fS (fM (fA a.1 a.2) (fA a.1 a.2)) (fM (fS a.1 a.2) (fS a.1 a.2))))))):Bt×Bt)) (by kernel_rfl) rfl rfl) _) 3 ?_⟩
 refine ao 11 ?_
 refine re0 11 1 hH rfl (.sw cP2 (fun _=>0,fun _=>0) ((fM (fM (fA a.1 a.2) (fA a.1 a.2)) (fM (fS a.1 a.2) (fS a.1 a.2))),(fM (fS (fM (fA a.1 a.2) (fA a.1 a.2)) (fM (fS a.1 a.2) (fS a.1 a.2))) (fA (fM (fA a.1 a.2) (fA a.1 a.2)) (fM iM (fS (fM (fA a.1 a.2) (fA a.1 a.2)) (fM (fS a.1 a.2) (fS a.1 a.2)))))))) trivial (.nil _ []) ?_
 clear hH
 rintro _ _ w rfl hH
 refine ⟨an,rn ?_⟩
 refine ar (aI 1 (hH.blk 1 rfl) rfl rfl (by kernel_rfl) (Cod.size _ _) (by kernel_rfl) ?_)
 exact zE hH
theorem BL(t:UInt8)(p q:Bt×Bt):Pure Tryz.prog 93 #[(.int .u8 t.toNat),(cP2.val p),(cP2.val q)] (fun _=>True) (.tuple #[cP2.val (sxP t p q),cP2.val (sxP t q p)]):=by
 refine pU Tryz.func93 Tryz.ntmps93 ?_
 intro w0 hH hR
 refine zr (zB hH cP2 p 2 ?_)
 clear hH
 intro g1 w hH
 refine zB hH cP2 q 4 ?_
 clear hH
 intro g2 w hH
 refine zA hH cP2 (fun _=>0,fun _=>0) 0 ?_
 clear hH
 intro g3 w hH
 refine zA hH cP2 (fun _=>0,fun _=>0) 0 ?_
 clear hH
 intro g4 w hH
 refine zn (zr (zv .mv 16 ?_))
 refine zv (.gb (u:=t)) 1 ?_
 refine zv .mv 1 ?_
 refine zn (aj ?_)
 replace hH:HH w0 [] [[bl g1 128 (cP2.enc ((mx8 (-t) 0 p.1 q.1),(mx8 (-t) 0 p.2 q.2)))],[bl g2 128 (cP2.enc q)],[bl g3 128 (cP2.enc (fun _=>0,fun _=>0))],[bl g4 128 (cP2.enc (fun _=>0,fun _=>0))]] w:=by simp only[yn];exact hH
 replace hH:HH w0 [] [[bl g1 128 (cP2.enc ((mx8 (-t) 0 p.1 q.1),(mx8 (-t) 0 p.2 q.2)))],[bl g2 128 (cP2.enc ((mx8 (-t) 0 q.1 p.1),(mx8 (-t) 0 q.2 p.2)))],[bl g3 128 (cP2.enc (fun _=>0,fun _=>0))],[bl g4 128 (cP2.enc (fun _=>0,fun _=>0))]] w:=by simp only[yn]at hH ⊢;exact hH
 refine zr (zv .mv 0 ?_)
 refine zn (ai (zL1 (fun (i:Nat)=>[(14,(.int .i64 i)),(8,(.int .u8 ((((-t).toNat):Nat):Int))),(7,(.pointer (some ⟨g4,0,none⟩))),(6,(.pointer (some ⟨g3,0,none⟩))),(5,(.pointer (some ⟨g2,0,none⟩))),(4,(.pointer (some ⟨g1,0,none⟩)))]) (fun i w=>HH w0 [] [[bl g1 128 (cP2.enc ((mx8 (-t) i p.1 q.1),(mx8 (-t) i p.2 q.2)))],[bl g2 128 (cP2.enc ((mx8 (-t) i q.1 p.1),(mx8 (-t) i q.2 p.2)))],[bl g3 128 (cP2.enc (fun _=>0,fun _=>0))],[bl g4 128 (cP2.enc (fun _=>0,fun _=>0))]] w∧(i≤32)) (fun i=>32-i) 0 ⟨hH,(Nat.zero_le _)⟩ ?_))
 clear hH
 rintro i w ⟨hH,hi⟩
 refine zr (zv (.lt (i<32)) 0 ?_)
 refine zn (aj ?_)
 refine zP (fun hc5 => ?_) (fun hc5 => ?_)
 refine aA (ag (aj (ai (zr (zv .mv 1 ?_)))))
 refine zv .mv 1 ?_
 refine zn (zx ?_)
 replace hH:=hH.drew
 refine rv 0 .mv 0 ?_
 refine rv 1 .mv 0 ?_
 refine rv 2 (.fld 0) 0 ?_
 have hi6:i<32:=by omega
 refine rv 3 (.ia 1 32 i (hi:=hi6)) 3 ?_
 refine rld 4 (hH.q 0 rfl) (.ld af ((mx8 (-t) i p.1 q.1) i) (fun _ hS=>((ae hS).fst.elt hi6))) 1 ?_
 refine rv 5 .mv 0 ?_
 refine rv 6 (.fld 0) 0 ?_
 have hi7:i<32:=by omega
 refine rv 7 (.ia 1 32 i (hi:=hi7)) 3 ?_
 refine rld 8 (hH.q 1 rfl) (.ld af ((mx8 (-t) i q.1 p.1) i) (fun _ hS=>((ae hS).fst.elt hi7))) 1 ?_
 refine rv 9 (.xb (((mx8 (-t) i p.1 q.1) i)^^^((mx8 (-t) i q.1 p.1) i)) (u:=((mx8 (-t) i p.1 q.1) i)) (v:=((mx8 (-t) i q.1 p.1) i))) 3 ?_
 refine rv 10 (.ab ((-t)&&&(((mx8 (-t) i p.1 q.1) i)^^^((mx8 (-t) i q.1 p.1) i))) (u:=(-t)) (v:=(((mx8 (-t) i p.1 q.1) i)^^^((mx8 (-t) i q.1 p.1) i)))) 3 ?_
 refine rv 11 .mv 0 ?_
 refine rv 12 .mv 0 ?_
 refine rv 13 (.fld 32) 0 ?_
 have hi8:i<32:=by omega
 refine rv 14 (.ia 1 32 i (hi:=hi8)) 3 ?_
 refine rld 15 (hH.q 0 rfl) (.ld af ((mx8 (-t) i p.2 q.2) i) (fun _ hS=>((ae hS).snd.elt hi8))) 1 ?_
 refine rv 16 .mv 0 ?_
 refine rv 17 (.fld 32) 0 ?_
 have hi9:i<32:=by omega
 refine rv 18 (.ia 1 32 i (hi:=hi9)) 3 ?_
 refine rld 19 (hH.q 1 rfl) (.ld af ((mx8 (-t) i q.2 p.2) i) (fun _ hS=>((ae hS).snd.elt hi9))) 1 ?_
 refine rv 20 (.xb (((mx8 (-t) i p.2 q.2) i)^^^((mx8 (-t) i q.2 p.2) i)) (u:=((mx8 (-t) i p.2 q.2) i)) (v:=((mx8 (-t) i q.2 p.2) i))) 3 ?_
 refine rv 21 (.ab ((-t)&&&(((mx8 (-t) i p.2 q.2) i)^^^((mx8 (-t) i q.2 p.2) i))) (u:=(-t)) (v:=(((mx8 (-t) i p.2 q.2) i)^^^((mx8 (-t) i q.2 p.2) i)))) 3 ?_
 refine rv 22 .mv 2 ?_
 refine rv 23 .mv 2 ?_
 refine rn ?_
 simp only[kS]
 refine zr (zv .mv 0 ?_)
 refine zv (.fld 0) 0 ?_
 have hi10:i<32:=by omega
 refine zv (.ia 1 32 i (hi:=hi10)) 1 ?_
 refine zs (hH.q 0 rfl) (.ld af ((mx8 (-t) i p.1 q.1) i) (fun _ hS=>((ae hS).fst.elt hi10))) 1 ?_
 refine zv .mv 0 ?_
 refine zv (.xb (((mx8 (-t) i p.1 q.1) i)^^^(-t&&&(p.1 i^^^q.1 i))) (u:=((mx8 (-t) i p.1 q.1) i)) (v:=(-t&&&(p.1 i^^^q.1 i)))) 3 ?_
 refine zv (.fld 0) 0 ?_
 have hi11:i<32:=by omega
 refine zv (.ia 1 32 i (hi:=hi11)) 5 ?_
 refine ze0 0 hH rfl (.st af (((mx8 (-t) i p.1 q.1) i)^^^(-t&&&(p.1 i^^^q.1 i))) (by rw[Cod.size];show 0+i*1+1≤64;omega) (cD (aQ (mx8 (-t) i p.1 q.1) (((mx8 (-t) i p.1 q.1) i)^^^(-t&&&(p.1 i^^^q.1 i))) hi11) (by show 0+i*1+1≤32;omega))) trivial ?_
 clear hH
 rintro _ _ w rfl hH
 refine zn ?_
 replace hH:HH w0 [] [[bl g1 128 (cP2.enc ((mx8 (-t) (i+1) p.1 q.1),(mx8 (-t) i p.2 q.2)))],[bl g2 128 (cP2.enc ((mx8 (-t) i q.1 p.1),(mx8 (-t) i q.2 p.2)))],[bl g3 128 (cP2.enc (fun _=>0,fun _=>0))],[bl g4 128 (cP2.enc (fun _=>0,fun _=>0))]] w:=by rw[kS,kT]at hH;exact hH
 refine zr (zv .mv 3 ?_)
 refine zv (.fld 0) 0 ?_
 have hi12:i<32:=by omega
 refine zv (.ia 1 32 i (hi:=hi12)) 1 ?_
 refine zs (hH.q 1 rfl) (.ld af ((mx8 (-t) i q.1 p.1) i) (fun _ hS=>((ae hS).fst.elt hi12))) 1 ?_
 refine zv .mv 8 ?_
 refine zv (.xb (((mx8 (-t) i q.1 p.1) i)^^^(-t&&&(p.1 i^^^q.1 i))) (u:=((mx8 (-t) i q.1 p.1) i)) (v:=(-t&&&(p.1 i^^^q.1 i)))) 3 ?_
 refine zv (.fld 0) 0 ?_
 have hi13:i<32:=by omega
 refine zv (.ia 1 32 i (hi:=hi13)) 5 ?_
 refine ze0 1 hH rfl (.st af (((mx8 (-t) i q.1 p.1) i)^^^(-t&&&(p.1 i^^^q.1 i))) (by rw[Cod.size];show 0+i*1+1≤64;omega) (cD (aQ (mx8 (-t) i q.1 p.1) (((mx8 (-t) i q.1 p.1) i)^^^(-t&&&(p.1 i^^^q.1 i))) hi13) (by show 0+i*1+1≤32;omega))) trivial ?_
 clear hH
 rintro _ _ w rfl hH
 refine zn ?_
 replace hH:HH w0 [] [[bl g1 128 (cP2.enc ((mx8 (-t) (i+1) p.1 q.1),(mx8 (-t) i p.2 q.2)))],[bl g2 128 (cP2.enc ((mx8 (-t) (i+1) q.1 p.1),(mx8 (-t) i q.2 p.2)))],[bl g3 128 (cP2.enc (fun _=>0,fun _=>0))],[bl g4 128 (cP2.enc (fun _=>0,fun _=>0))]] w:=by rw[kS,mf]at hH;exact hH
 refine zr (zv .mv 3 ?_)
 refine zv (.fld 32) 0 ?_
 have hi14:i<32:=by omega
 refine zv (.ia 1 32 i (hi:=hi14)) 1 ?_
 refine zs (hH.q 0 rfl) (.ld af ((mx8 (-t) i p.2 q.2) i) (fun _ hS=>((ae hS).snd.elt hi14))) 1 ?_
 refine zv .mv 0 ?_
 refine zv (.xb (((mx8 (-t) i p.2 q.2) i)^^^(-t&&&(p.2 i^^^q.2 i))) (u:=((mx8 (-t) i p.2 q.2) i)) (v:=(-t&&&(p.2 i^^^q.2 i)))) 3 ?_
 refine zv (.fld 32) 0 ?_
 have hi15:i<32:=by omega
 refine zv (.ia 1 32 i (hi:=hi15)) 5 ?_
 refine ze0 0 hH rfl (.st af (((mx8 (-t) i p.2 q.2) i)^^^(-t&&&(p.2 i^^^q.2 i))) (by rw[Cod.size];show 32+i*1+1≤64;omega) (cE (a:=32) (o:=32+i*1) (aQ (mx8 (-t) i p.2 q.2) (((mx8 (-t) i p.2 q.2) i)^^^(-t&&&(p.2 i^^^q.2 i))) hi15) (by omega))) trivial ?_
 clear hH
 rintro _ _ w rfl hH
 refine zn ?_
 replace hH:HH w0 [] [[bl g1 128 (cP2.enc ((mx8 (-t) (i+1) p.1 q.1),(mx8 (-t) (i+1) p.2 q.2)))],[bl g2 128 (cP2.enc ((mx8 (-t) (i+1) q.1 p.1),(mx8 (-t) i q.2 p.2)))],[bl g3 128 (cP2.enc (fun _=>0,fun _=>0))],[bl g4 128 (cP2.enc (fun _=>0,fun _=>0))]] w:=by rw[kS,kT]at hH;exact hH
 refine aC (zv .mv 11 ?_)
 refine zv (.fld 32) 0 ?_
 have hi16:i<32:=by omega
 refine zv (.ia 1 32 i (hi:=hi16)) 1 ?_
 refine zs (hH.q 1 rfl) (.ld af ((mx8 (-t) i q.2 p.2) i) (fun _ hS=>((ae hS).snd.elt hi16))) 1 ?_
 refine zv .mv 4 ?_
 refine zv (.xb (((mx8 (-t) i q.2 p.2) i)^^^(-t&&&(p.2 i^^^q.2 i))) (u:=((mx8 (-t) i q.2 p.2) i)) (v:=(-t&&&(p.2 i^^^q.2 i)))) 3 ?_
 refine zv (.fld 32) 0 ?_
 have hi17:i<32:=by omega
 refine zv (.ia 1 32 i (hi:=hi17)) 5 ?_
 refine ze0 1 hH rfl (.st af (((mx8 (-t) i q.2 p.2) i)^^^(-t&&&(p.2 i^^^q.2 i))) (by rw[Cod.size];show 32+i*1+1≤64;omega) (cE (a:=32) (o:=32+i*1) (aQ (mx8 (-t) i q.2 p.2) (((mx8 (-t) i q.2 p.2) i)^^^(-t&&&(p.2 i^^^q.2 i))) hi17) (by omega))) trivial ?_
 clear hH
 rintro _ _ w rfl hH
 refine aD (aN (ag ?_))
 replace hH:HH w0 [] [[bl g1 128 (cP2.enc ((mx8 (-t) (i+1) p.1 q.1),(mx8 (-t) (i+1) p.2 q.2)))],[bl g2 128 (cP2.enc ((mx8 (-t) (i+1) q.1 p.1),(mx8 (-t) (i+1) q.2 p.2)))],[bl g3 128 (cP2.enc (fun _=>0,fun _=>0))],[bl g4 128 (cP2.enc (fun _=>0,fun _=>0))]] w:=by rw[kS,mf]at hH;exact hH
 refine aC (zv (.add ((i+1:Nat):Int)) 7 ?_)
 refine zv .mv 1 ?_
 refine aD ?_
 exact zR1 (i+1) ⟨hH,(by omega)⟩ (by omega)
 refine aJ (ak (ak (aR (ag ?_))))
 obtain rfl:i=32:=by omega
 refine zx ?_
 replace hH:=hH.drew
 refine rld 0 (hH.q 0 rfl) (.l0 cP2 ((mx8 (-t) 32 p.1 q.1),(mx8 (-t) 32 p.2 q.2))) 71 ?_
 refine rld 1 (hH.q 1 rfl) (.l0 cP2 ((mx8 (-t) 32 q.1 p.1),(mx8 (-t) 32 q.2 p.2))) 8 ?_
 refine ao 2 ?_
 refine re0 2 2 hH rfl (.sw cP2 (fun _=>0,fun _=>0) ((mx8 (-t) 32 p.1 q.1),(mx8 (-t) 32 p.2 q.2))) trivial (.keep (pgo [] (.nil _ []))) ?_
 clear hH
 rintro _ _ w rfl hH
 refine ⟨am (hH.blk 1 rfl) an,?_⟩
 refine ao 3 ?_
 refine re0 3 3 hH rfl (.sw cP2 (fun _=>0,fun _=>0) ((mx8 (-t) 32 q.1 p.1),(mx8 (-t) 32 q.2 p.2))) trivial (pgo [] (.nil _ [])) ?_
 clear hH
 rintro _ _ w rfl hH
 refine ⟨an,rn ?_⟩
 refine ar (qt 3 2 (hH.blk 2 rfl) (hH.blk 3 rfl) rfl rfl rfl (by kernel_rfl) (by kernel_rfl) (Cod.size _ _) (Cod.size _ _) (by kernel_rfl) (by kernel_rfl) ?_)
 exact zE hH
theorem BM(n u:Bt):Pure Tryz.prog 51 #[((ac 32).val n),((ac 32).val u)] (fun _=>True) ((ac 32).val (xPr n u)):=by
 refine pU Tryz.func51 Tryz.ntmps51 ?_
 intro w0 hH hR
 refine zr (zB hH (ac 32) n 1 ?_)
 clear hH
 intro g1 w hH
 refine zB hH (ac 32) u 2 ?_
 clear hH
 intro g2 w hH
 refine zA hH (ac 32) (fun _=>0) 0 ?_
 clear hH
 intro g3 w hH
 refine zn (zx ?_)
 replace hH:=hH.drew
 refine de 0 [pv 0 10 [] [] fun G=>((ac 32).val cp),pv 1 11 [0] [] fun G=>(cP2.val (cp,fun _=>0)),ldv 2 12 [] [] [1001] fun G=>((ac 32).val u),pv 3 13 [] [] fun G=>((ac 32).val cp),pv 4 14 [2,3] [] fun G=>(cP2.val (u,cp)),alv 5 5 [] [] fun G g=>[bl g 128 (cP2.enc (fun _=>0,fun _=>0))],alv 6 6 [] [] fun G g=>[bl g 128 (cP2.enc (fun _=>0,fun _=>0))],stv 7 [1,5] [5] 5 fun G=>[bl (G 5).g 128 (cP2.enc (cp,fun _=>0))],stv 8 [4,6] [6] 6 fun G=>[bl (G 6).g 128 (cP2.enc (u,cp))]] (fun G=>[(5,(.pointer (some ⟨(G 5).g,0,none⟩))),(6,(.pointer (some ⟨(G 6).g,0,none⟩))),(4,(.pointer (some ⟨g3,0,none⟩))),(3,(.pointer (some ⟨g2,0,none⟩))),(2,(.pointer (some ⟨g1,0,none⟩)))]) (fun G=>[[bl g1 22 ((ac 32).enc n)],[bl g2 22 ((ac 32).enc u)],[bl g3 22 ((ac 32).enc (fun _=>0))],[bl (G 5).g 128 (cP2.enc (cp,fun _=>0))],[bl (G 6).g 128 (cP2.enc (u,cp))]]) hH (.c (.v fun G=>(fun _ _ hF=>aE (cells:=(ac 32).enc cp) (vals:=[(0,(.int .u8 1))]) rfl (EvP.cons (v:=(.int .u8 1)) rfl EvP.nil) (by kernel_rfl) _)) <| .c (.v fun G=>(fun _ _ hF=>aE (cells:=cP2.enc (cp,fun _=>0)) (vals:=[(0,((ac 32).val cp))]) rfl (EvP.cons (v:=((ac 32).val cp)) (hF.ev 0 rfl) EvP.nil) (by kernel_rfl) _)) <| .c (.ld (fun G _ _ hH=>(hH.q 0 rfl)) fun G=>(.ld (ac 32) u (fun _=>ae))) <| .c (.v fun G=>(fun _ _ hF=>aE (cells:=(ac 32).enc cp) (vals:=[(0,(.int .u8 1))]) rfl (EvP.cons (v:=(.int .u8 1)) rfl EvP.nil) (by kernel_rfl) _)) <| .c (.v fun G=>(fun _ _ hF=>aE (cells:=cP2.enc (u,cp)) rfl (EvP.cons (v:=((ac 32).val u)) (hF.ev 0 rfl) (EvP.cons (v:=((ac 32).val cp)) (hF.ev 1 rfl) EvP.nil)) (eH (x:=((u,cp):Bt×Bt)) (by kernel_rfl) rfl rfl) _)) <| .c (.a (fun _ _ _ _=>trivial) (fun G=>(.al cP2 (fun _=>0,fun _=>0))) fun _ _ _ h=>h) <| .c (.a (fun _ _ _ _=>trivial) (fun G=>(.al cP2 (fun _=>0,fun _=>0))) fun _ _ _ h=>h) <| .c (.tn (fun G=>(.sw cP2 (fun _=>0,fun _=>0) (cp,fun _=>0))) (fun _ _ _ _=>trivial) fun _ _ _ h=>h) <| .c (.tn (fun G=>(.sw cP2 (fun _=>0,fun _=>0) (u,cp))) (fun _ _ _ _=>trivial) fun _ _ _ h=>h) <| .nil) ?_
 clear hH
 rintro G w-hH
 revert hH
 generalize (G 5).g=g4
 generalize (G 6).g=g5
 intro hH
 refine rn ?_
 refine zr (zv .mv 0 ?_)
 refine zn (aj ?_)
 replace hH:HH w0 [] [[bl g1 22 ((ac 32).enc n)],[bl g2 22 ((ac 32).enc u)],[bl g3 22 ((ac 32).enc (fun _=>0))],[bl g4 128 (cP2.enc ((xLad n u 0).2.1))],[bl g5 128 (cP2.enc (u,cp))]] w:=by exact hH
 replace hH:HH w0 [] [[bl g1 22 ((ac 32).enc n)],[bl g2 22 ((ac 32).enc u)],[bl g3 22 ((ac 32).enc (fun _=>0))],[bl g4 128 (cP2.enc ((xLad n u 0).2.1))],[bl g5 128 (cP2.enc ((xLad n u 0).2.2))]] w:=by exact hH
 refine zr (zv .mv 0 ?_)
 refine zn (ai (zL1 (fun (k:Nat)=>[(8,(.int .i64 (254-(k:Int)))),(7,(.int .u8 ((((xLad n u k).1.toNat):Nat):Int))),(6,(.pointer (some ⟨g5,0,none⟩))),(5,(.pointer (some ⟨g4,0,none⟩))),(4,(.pointer (some ⟨g3,0,none⟩))),(3,(.pointer (some ⟨g2,0,none⟩))),(2,(.pointer (some ⟨g1,0,none⟩)))]) (fun k w=>HH w0 [] [[bl g1 22 ((ac 32).enc n)],[bl g2 22 ((ac 32).enc u)],[bl g3 22 ((ac 32).enc (fun _=>0))],[bl g4 128 (cP2.enc ((xLad n u k).2.1))],[bl g5 128 (cP2.enc ((xLad n u k).2.2))]] w∧(k≤255)) (fun k=>255-k) 0 ⟨hH,(Nat.zero_le _)⟩ ?_))
 clear hH
 rintro k w ⟨hH,hk⟩
 refine aj (zr (zv .mv 0 ?_))
 refine zv (v:=(.bool (decide ((254-(k:Int)) ≥ 0)))) (fun _ _ hF=>fL rfl (hF.ev 0 rfl) rfl rfl) 1 ?_
 refine zn ?_
 refine zP (fun hc6 => ?_) (fun hc6 => ?_)
 refine aA (ag (aj (ai ?_)))
 rw[show (254:Int)-(k:Int)=((254-k:Nat):Int) by omega]
 refine zr (zv .mv 1 ?_)
 refine zv (v:=(.int .i64 ((((254-k)/8):Nat):Int))) (fun _ _ hF=>cM (z:=(((254-k)/8:Nat):Int)) rfl (hF.ev 0 rfl) rfl (by omega) (wI dO (by omega) (by omega))) 1 ?_
 have hi7:(254-k)/8<32:=by omega
 refine zv (.ia 1 32 ((254-k)/8) (hi:=hi7)) 1 ?_
 refine zs (hH.q 0 rfl) (.ld af (n ((254-k)/8)) (fun _ hS=>((ae hS).elt hi7))) 1 ?_
 refine zv .mv 0 ?_
 refine zv (v:=(.int .i64 ((((254-k)%8):Nat):Int))) (fun _ _ hF=>bm (z:=(((254-k)%8:Nat):Int)) rfl (hF.ev 0 rfl) rfl (by omega) bW) 1 ?_
 refine zv (.rb ((254-k)%8) (u:=(n ((254-k)/8)))) 3 ?_
 refine zv (.ab ((sr8 (n ((254-k)/8)) ((254-k)%8))&&&(1:UInt8)) (u:=(sr8 (n ((254-k)/8)) ((254-k)%8))) (v:=(1:UInt8))) 1 ?_
 refine zv .mv 1 ?_
 refine zn (zr (zv .mv 4 ?_))
 refine zv .mv 0 ?_
 refine zv (.xb ((xLad n u k).1^^^((sr8 (n ((254-k)/8)) ((254-k)%8))&&&(1:UInt8))) (u:=(xLad n u k).1) (v:=((sr8 (n ((254-k)/8)) ((254-k)%8))&&&(1:UInt8)))) 3 ?_
 refine zs (hH.q 3 rfl) (.l0 cP2 ((xLad n u k).2.1)) 0 ?_
 refine zs (hH.q 4 rfl) (.l0 cP2 ((xLad n u k).2.2)) 0 ?_
 refine zc Tryz.func93 (BL ((xLad n u k).1^^^((sr8 (n ((254-k)/8)) ((254-k)%8))&&&(1:UInt8))) ((xLad n u k).2.1) ((xLad n u k).2.2)) trivial hH 7 ?_
 clear hH
 intro w hH
 refine zv .mv 1 ?_
 refine zv .ext 0 ?_
 refine zv .ext 2 ?_
 refine zW 3 hH rfl (sxP ((xLad n u k).1^^^((sr8 (n ((254-k)/8)) ((254-k)%8))&&&(1:UInt8))) ((xLad n u k).2.1) ((xLad n u k).2.2)) ?_
 clear hH
 intro w hH
 refine zW 4 hH rfl (sxP ((xLad n u k).1^^^((sr8 (n ((254-k)/8)) ((254-k)%8))&&&(1:UInt8))) ((xLad n u k).2.2) ((xLad n u k).2.1)) ?_
 clear hH
 intro w hH
 refine zn (zx ?_)
 replace hH:=hH.drew
 refine rld 0 (hH.q 3 rfl) (.l0 cP2 (sxP ((xLad n u k).1^^^((sr8 (n ((254-k)/8)) ((254-k)%8))&&&(1:UInt8))) ((xLad n u k).2.1) ((xLad n u k).2.2))) 3 ?_
 refine rld 2 (hH.q 3 rfl) (.l0 cP2 (sxP ((xLad n u k).1^^^((sr8 (n ((254-k)/8)) ((254-k)%8))&&&(1:UInt8))) ((xLad n u k).2.1) ((xLad n u k).2.2))) 0 ?_
 refine rld 3 (hH.q 4 rfl) (.l0 cP2 (sxP ((xLad n u k).1^^^((sr8 (n ((254-k)/8)) ((254-k)%8))&&&(1:UInt8))) ((xLad n u k).2.2) ((xLad n u k).2.1))) 0 ?_
 refine rld 4 (hH.q 1 rfl) (.l0 (ac 32) u) 0 ?_
 refine ao 1 (rpc 1 Tryz.func94 (BK (sxP ((xLad n u k).1^^^((sr8 (n ((254-k)/8)) ((254-k)%8))&&&(1:UInt8))) ((xLad n u k).2.1) ((xLad n u k).2.2))) trivial hH 8 (.keep (.keep (.keep (pgo [] (.nil _ []))))) ?_)
 clear hH
 intro w hH
 refine ⟨am (hH.blk 1 rfl) (am (hH.blk 4 rfl) (am (hH.blk 3 rfl) an)),?_⟩
 refine ao 5 (rpc 5 Tryz.func95 (BJ (sxP ((xLad n u k).1^^^((sr8 (n ((254-k)/8)) ((254-k)%8))&&&(1:UInt8))) ((xLad n u k).2.1) ((xLad n u k).2.2)) (sxP ((xLad n u k).1^^^((sr8 (n ((254-k)/8)) ((254-k)%8))&&&(1:UInt8))) ((xLad n u k).2.2) ((xLad n u k).2.1)) u) trivial hH 14 (pgo [] (pgo [] (pgo [] (.nil _ [])))) ?_)
 clear hH
 intro w hH
 refine ⟨an,ao 6 ?_⟩
 refine re0 6 3 hH rfl (.sw cP2 (sxP ((xLad n u k).1^^^((sr8 (n ((254-k)/8)) ((254-k)%8))&&&(1:UInt8))) ((xLad n u k).2.1) ((xLad n u k).2.2)) (xDb (sxP ((xLad n u k).1^^^((sr8 (n ((254-k)/8)) ((254-k)%8))&&&(1:UInt8))) ((xLad n u k).2.1) ((xLad n u k).2.2)))) trivial (.nil _ []) ?_
 clear hH
 rintro _ _ w rfl hH
 refine ⟨an,ao 7 ?_⟩
 refine re0 7 4 hH rfl (.sw cP2 (sxP ((xLad n u k).1^^^((sr8 (n ((254-k)/8)) ((254-k)%8))&&&(1:UInt8))) ((xLad n u k).2.2) ((xLad n u k).2.1)) (xPl (sxP ((xLad n u k).1^^^((sr8 (n ((254-k)/8)) ((254-k)%8))&&&(1:UInt8))) ((xLad n u k).2.1) ((xLad n u k).2.2)) (sxP ((xLad n u k).1^^^((sr8 (n ((254-k)/8)) ((254-k)%8))&&&(1:UInt8))) ((xLad n u k).2.2) ((xLad n u k).2.1)) u)) trivial (.nil _ []) ?_
 clear hH
 rintro _ _ w rfl hH
 refine ⟨an,rn ?_⟩
 replace hH:HH w0 [] [[bl g1 22 ((ac 32).enc n)],[bl g2 22 ((ac 32).enc u)],[bl g3 22 ((ac 32).enc (fun _=>0))],[bl g4 128 (cP2.enc ((xLad n u (k+1)).2.1))],[bl g5 128 (cP2.enc (xPl (sxP ((xLad n u k).1^^^((sr8 (n ((254-k)/8)) ((254-k)%8))&&&(1:UInt8))) ((xLad n u k).2.1) ((xLad n u k).2.2)) (sxP ((xLad n u k).1^^^((sr8 (n ((254-k)/8)) ((254-k)%8))&&&(1:UInt8))) ((xLad n u k).2.2) ((xLad n u k).2.1)) u))]] w:=by exact hH
 replace hH:HH w0 [] [[bl g1 22 ((ac 32).enc n)],[bl g2 22 ((ac 32).enc u)],[bl g3 22 ((ac 32).enc (fun _=>0))],[bl g4 128 (cP2.enc ((xLad n u (k+1)).2.1))],[bl g5 128 (cP2.enc ((xLad n u (k+1)).2.2))]] w:=by exact hH
 refine aC (zv .mv 7 ?_)
 refine zv .mv 1 ?_
 refine aD (aN (ag ?_))
 rw[show ((254-k:Nat):Int)=(254:Int)-(k:Int) by omega]
 refine aC (zv .mv 2 ?_)
 refine zv (.sub (254-((k+1:Nat):Int))) 1 ?_
 refine zv .mv 1 ?_
 refine aD ?_
 exact zR1 (k+1) ⟨hH,(by omega)⟩ (by omega)
 refine aJ (ak (ak (aR (ag ?_))))
 obtain rfl:k=255:=by omega
 refine zx ?_
 replace hH:=hH.drew
 refine rv 0 (.fld 0) 207 ?_
 refine rld 1 (hH.q 3 rfl) (.ld (ac 32) (((xLad n u 255).2.1).1) (fun _ hS=>(ae hS).fst)) 1 ?_
 refine rv 2 (.fld 32) 2 ?_
 refine rld 3 (hH.q 3 rfl) (.ld (ac 32) (((xLad n u 255).2.1).2) (fun _ hS=>(ae hS).snd)) 1 ?_
 refine ao 4 (rpc 4 Tryz.func97 (zU (((xLad n u 255).2.1).2)) trivial hH 1 (pgo [] (.keep (.nil _ []))) ?_)
 clear hH
 intro w hH
 refine ⟨am (hH.blk 3 rfl) an,?_⟩
 refine ao 5 (rpc 5 Tryz.func96 (d9 (((xLad n u 255).2.1).1) (fI (((xLad n u 255).2.1).2))) trivial hH 3 (pgo [] (.nil _ [])) ?_)
 clear hH
 intro w hH
 refine ⟨an,ao 6 ?_⟩
 refine re0 6 2 hH rfl (.sw (ac 32) (fun _=>0) (fM (((xLad n u 255).2.1).1) (fI (((xLad n u 255).2.1).2)))) trivial (.nil _ []) ?_
 clear hH
 rintro _ _ w rfl hH
 refine ⟨an,rn ?_⟩
 refine ar (aI 1 (hH.blk 2 rfl) rfl rfl (by kernel_rfl) (Cod.size _ _) (by kernel_rfl) ?_)
 exact zE hH
theorem BN(s:Bt):Pure Tryz.prog 52 #[((ac 32).val s)] (fun _=>True) ((ac 32).val (xNm s)):=by
 refine pU Tryz.func52 Tryz.ntmps52 ?_
 intro w0 hH hR
 refine zr (zB hH (ac 32) s 1 ?_)
 clear hH
 intro g1 w hH
 refine zA hH (ac 32) (fun _=>0) 0 ?_
 clear hH
 intro g2 w hH
 refine zn (zr ?_)
 have hi3:0<32:=by omega
 refine zv (.ia 1 32 0 (hi:=hi3)) 0 ?_
 refine zs (hH.q 0 rfl) (.ld af (s 0) (fun _ hS=>((ae hS).elt hi3))) 1 ?_
 refine zv (.nb ((s 0) &&& ~~~(7:UInt8)) (u:=(s 0)) (v:=(7:UInt8))) 1 ?_
 have hi4:0<32:=by omega
 refine zv (.ia 1 32 0 (hi:=hi4)) 0 ?_
 refine ze0 0 hH rfl (.st af ((s 0) &&& ~~~(7:UInt8)) (aU (S:=sBy) (C:=(ac 32)) rfl hi4) (aQ s ((s 0) &&& ~~~(7:UInt8)) hi4)) trivial ?_
 clear hH
 rintro _ _ w rfl hH
 refine zn (zr ?_)
 have hi5:31<32:=by omega
 refine zv (.ia 1 32 31 (hi:=hi5)) 3 ?_
 refine zs (hH.q 0 rfl) (.ld af ((stF s 0 ((s 0) &&& ~~~(7:UInt8))) 31) (fun _ hS=>((ae hS).elt hi5))) 1 ?_
 refine zv (.nb (((stF s 0 ((s 0) &&& ~~~(7:UInt8))) 31) &&& ~~~(128:UInt8)) (u:=((stF s 0 ((s 0) &&& ~~~(7:UInt8))) 31)) (v:=(128:UInt8))) 1 ?_
 refine zv (.ob ((((stF s 0 ((s 0) &&& ~~~(7:UInt8))) 31) &&& ~~~(128:UInt8))|||(64:UInt8)) (u:=(((stF s 0 ((s 0) &&& ~~~(7:UInt8))) 31) &&& ~~~(128:UInt8))) (v:=(64:UInt8))) 1 ?_
 have hi6:31<32:=by omega
 refine zv (.ia 1 32 31 (hi:=hi6)) 0 ?_
 refine ze0 0 hH rfl (.st af ((((stF s 0 ((s 0) &&& ~~~(7:UInt8))) 31) &&& ~~~(128:UInt8))|||(64:UInt8)) (aU (S:=sBy) (C:=(ac 32)) rfl hi6) (aQ (stF s 0 ((s 0) &&& ~~~(7:UInt8))) ((((stF s 0 ((s 0) &&& ~~~(7:UInt8))) 31) &&& ~~~(128:UInt8))|||(64:UInt8)) hi6)) trivial ?_
 clear hH
 rintro _ _ w rfl hH
 refine zn (zr (zs (hH.q 0 rfl) (.l0 (ac 32) (stF (stF s 0 ((s 0) &&& ~~~(7:UInt8))) 31 ((((stF s 0 ((s 0) &&& ~~~(7:UInt8))) 31) &&& ~~~(128:UInt8))|||(64:UInt8)))) 11 ?_))
 refine zW 1 hH rfl (stF (stF s 0 ((s 0) &&& ~~~(7:UInt8))) 31 ((((stF s 0 ((s 0) &&& ~~~(7:UInt8))) 31) &&& ~~~(128:UInt8))|||(64:UInt8))) ?_
 clear hH
 intro w hH
 refine zn (ar (aI 1 (hH.blk 1 rfl) rfl rfl (by kernel_rfl) (Cod.size _ _) (by kernel_rfl) ?_))
 exact zE hH
theorem BO(u:Bt):Pure Tryz.prog 53 #[((ac 32).val u)] (fun _=>True) ((ac 32).val (xPt u)):=by
 refine pU Tryz.func53 Tryz.ntmps53 ?_
 intro w0 hH hR
 refine zr (zB hH (ac 32) u 1 ?_)
 clear hH
 intro g1 w hH
 refine zA hH (ac 32) (fun _=>0) 0 ?_
 clear hH
 intro g2 w hH
 refine zn (zr ?_)
 have hi3:31<32:=by omega
 refine zv (.ia 1 32 31 (hi:=hi3)) 0 ?_
 refine zs (hH.q 0 rfl) (.ld af (u 31) (fun _ hS=>((ae hS).elt hi3))) 1 ?_
 refine zv (.nb ((u 31) &&& ~~~(128:UInt8)) (u:=(u 31)) (v:=(128:UInt8))) 1 ?_
 have hi4:31<32:=by omega
 refine zv (.ia 1 32 31 (hi:=hi4)) 0 ?_
 refine ze0 0 hH rfl (.st af ((u 31) &&& ~~~(128:UInt8)) (aU (S:=sBy) (C:=(ac 32)) rfl hi4) (aQ u ((u 31) &&& ~~~(128:UInt8)) hi4)) trivial ?_
 clear hH
 rintro _ _ w rfl hH
 refine zn (zr (zs (hH.q 0 rfl) (.l0 (ac 32) (stF u 31 ((u 31) &&& ~~~(128:UInt8)))) 11 ?_))
 refine zW 1 hH rfl (stF u 31 ((u 31) &&& ~~~(128:UInt8))) ?_
 clear hH
 intro w hH
 refine zn (ar (aI 1 (hH.blk 1 rfl) rfl rfl (by kernel_rfl) (Cod.size _ _) (by kernel_rfl) ?_))
 exact zE hH
theorem q8(s u:Bt):Pure Tryz.prog 31 #[((ac 32).val s),((ac 32).val u)] (fun _=>True) ((ac 32).val (xMulB s u)):=by
 refine pU Tryz.func31 Tryz.ntmps31 ?_
 intro w0 hH hR
 refine zr (zB hH (ac 32) s 1 ?_)
 clear hH
 intro g1 w hH
 refine zB hH (ac 32) u 2 ?_
 clear hH
 intro g2 w hH
 refine zA hH (ac 32) (fun _=>0) 0 ?_
 clear hH
 intro g3 w hH
 refine zn (zx ?_)
 replace hH:=hH.drew
 refine rld 0 (hH.q 0 rfl) (.l0 (ac 32) s) 4 ?_
 refine rld 2 (hH.q 1 rfl) (.l0 (ac 32) u) 4 ?_
 refine ao 1 (rpc 1 Tryz.func52 (BN s) trivial hH 2 (.keep (pgo [] (.nil _ []))) ?_)
 clear hH
 intro w hH
 refine ⟨am (hH.blk 1 rfl) an,?_⟩
 refine ao 3 (rpc 3 Tryz.func53 (BO u) trivial hH 2 (pgo [] (.nil _ [])) ?_)
 clear hH
 intro w hH
 refine ⟨an,?_⟩
 refine ao 4 (rpc 4 Tryz.func51 (BM (xNm s) (xPt u)) trivial hH 3 (.nil _ []) ?_)
 clear hH
 intro w hH
 refine ⟨an,ao 5 ?_⟩
 refine re0 5 2 hH rfl (.sw (ac 32) (fun _=>0) (xPr (xNm s) (xPt u))) trivial (.nil _ []) ?_
 clear hH
 rintro _ _ w rfl hH
 refine ⟨an,rn ?_⟩
 refine ar (aI 1 (hH.blk 2 rfl) rfl rfl (by kernel_rfl) (Cod.size _ _) (by kernel_rfl) ?_)
 exact zE hH
theorem pG(s:Bt):Pure Tryz.prog 14 #[((ac 32).val s)] (fun _=>True) ((ac 32).val (xPub s)):=by
 refine pU Tryz.func14 Tryz.ntmps14 ?_
 intro w0 hH hR
 refine zr (zB hH (ac 32) s 1 ?_)
 clear hH
 intro g1 w hH
 refine zA hH (ac 32) (fun _=>0) 0 ?_
 clear hH
 intro g2 w hH
 refine zn (zr (zs (hH.q 0 rfl) (.l0 (ac 32) s) 2 ?_))
 refine zv (v:=((ac 32).val fB)) (fun _ _ hF=>aE (cells:=(ac 32).enc fB) (vals:=[(0,(.int .u8 9))]) rfl (EvP.cons (v:=(.int .u8 9)) rfl EvP.nil) (by kernel_rfl) _) 0 ?_
 refine zc Tryz.func31 (q8 s fB) trivial hH 3 ?_
 clear hH
 intro w hH
 refine zW 1 hH rfl (xMulB s fB) ?_
 clear hH
 intro w hH
 refine zn (ar (aI 1 (hH.blk 1 rfl) rfl rfl (by kernel_rfl) (Cod.size _ _) (by kernel_rfl) ?_))
 exact zE hH
theorem Aa{f g:Nat→UInt8}(h:lst 32 f=lst 32 g):(ac 32).enc f=(ac 32).enc g:=by
 show row 32 f=row 32 g
 apply Array.toList_inj.1
 rw[← ke,← ke,h]
def shE(r:Nat→UInt8):Nat:=if lst 32 r=lst 32 (fun _=>0) then 2 else 0
theorem oz(s u:Nat→UInt8):Pure Tryz.prog 13 #[((ac 32).val s),((ac 32).val u)] (fun _=>True) (.tuple #[(ac 32).val (xMulB s u),.int .i64 ((shE (xMulB s u):Nat):Int)]):=by
 refine pU Tryz.func13 Tryz.ntmps13 ?_
 intro w0 hH hR
 refine zr (zB hH (ac 32) s 1 ?_)
 clear hH
 intro g1 w hH
 refine zB hH (ac 32) u 2 ?_
 clear hH
 intro g2 w hH
 refine zA hH (ac 32) (fun _=>0) 0 ?_
 clear hH
 intro g3 w hH
 refine zv .mv 0 ?_
 refine zn (zr (zs (hH.q 0 rfl) (.l0 (ac 32) s) 9 ?_))
 refine zs (hH.q 1 rfl) (.l0 (ac 32) u) 4 ?_
 refine zc Tryz.func31 (q8 s u) trivial hH 3 ?_
 clear hH
 intro w hH
 refine zA hH (ac 32) (fun _=>0) 0 ?_
 clear hH
 intro g4 w hH
 refine zW 3 hH rfl (xMulB s u) ?_
 clear hH
 intro w hH
 refine zn (aj (zr (zs (hH.q 3 rfl) (.l0 (ac 32) (xMulB s u)) 2 ?_)))
 refine zv (v:=((ac 32).val (fun _=>0))) (fun _ _ hF=>aE (cells:=(ac 32).enc (fun _=>0)) (vals:=[]) rfl EvP.nil (by kernel_rfl) _) 0 ?_
 refine zv (v:=(.bool (decide (lst 32 (xMulB s u)=lst 32 (fun _=>0))))) (fun _ _ hF=>kg (n:=32) (e:=5) (f:=(xMulB s u)) (g:=(fun _=>0)) rfl (by kernel_rfl) (by kernel_rfl) (by kernel_rfl) (hF.ev 1 rfl) (hF.ev 0 rfl) (by kernel_rfl) Iff.rfl) 3 ?_
 refine zn ?_
 refine zP (fun hc5 => ?_) (fun hc5 => ?_)
 refine zr (zv (v:=((ac 32).val (fun _=>0))) (fun _ _ hF=>aE (cells:=(ac 32).enc (fun _=>0)) (vals:=[]) rfl EvP.nil (by kernel_rfl) _) 3 ?_)
 refine zW 2 hH rfl (fun _=>0) ?_
 clear hH
 intro w hH
 refine zv .mv 1 ?_
 refine zn (ar (bj ?_))
 refine aX 1 0 (hH.blk 2 rfl) rfl rfl rfl (by kernel_rfl) (Cod.size _ _) (by kernel_rfl) ?_
 have he:shE (xMulB s u)=2:=if_pos hc5
 have hz:(ac 32).enc (fun _=>0)=(ac 32).enc (xMulB s u):=(Aa hc5).symm
 exact ⟨by rw[he,hz];rfl,HH.toBelow hH⟩
 refine aA (ag (zr (zs (hH.q 3 rfl) (.l0 (ac 32) (xMulB s u)) 3 ?_)))
 refine zW 2 hH rfl (xMulB s u) ?_
 clear hH
 intro w hH
 refine zv .mv 1 ?_
 refine zn (ar (aX 1 0 (hH.blk 2 rfl) rfl rfl rfl (by kernel_rfl) (Cod.size _ _) (by kernel_rfl) ?_))
 have he:shE (xMulB s u)=0:=if_neg hc5
 exact ⟨by rw[he];rfl,HH.toBelow hH⟩
theorem sN(s u:Nat→UInt8):Pure Tryz.prog 20 #[((ac 32).val s),((ac 32).val u)] (fun _=>True) (.tuple #[(ac 32).val (eQ s u),.int .i64 ((shE (eQ s u):Nat):Int)]):=by
 refine pU Tryz.func20 Tryz.ntmps20 ?_
 intro w0 hH hR
 refine zr (zB hH (ac 32) s 1 ?_)
 clear hH
 intro g1 w hH
 refine zB hH (ac 32) u 2 ?_
 clear hH
 intro g2 w hH
 refine zA hH (ac 32) (fun _=>0) 0 ?_
 clear hH
 intro g3 w hH
 refine zv .mv 0 ?_
 refine zn (zr (zs (hH.q 0 rfl) (.l0 (ac 32) s) 9 ?_))
 refine zs (hH.q 1 rfl) (.l0 (ac 32) u) 4 ?_
 refine zc Tryz.func39 (uE s u) trivial hH 3 ?_
 clear hH
 intro w hH
 refine zA hH (ac 32) (fun _=>0) 0 ?_
 clear hH
 intro g4 w hH
 refine zW 3 hH rfl (eQ s u) ?_
 clear hH
 intro w hH
 refine zn (aj (zr (zs (hH.q 3 rfl) (.l0 (ac 32) (eQ s u)) 2 ?_)))
 refine zv (v:=((ac 32).val (fun _=>0))) (fun _ _ hF=>aE (cells:=(ac 32).enc (fun _=>0)) (vals:=[]) rfl EvP.nil (by kernel_rfl) _) 0 ?_
 refine zv (v:=(.bool (decide (lst 32 (eQ s u)=lst 32 (fun _=>0))))) (fun _ _ hF=>kg (n:=32) (e:=5) (f:=(eQ s u)) (g:=(fun _=>0)) rfl (by kernel_rfl) (by kernel_rfl) (by kernel_rfl) (hF.ev 1 rfl) (hF.ev 0 rfl) (by kernel_rfl) Iff.rfl) 3 ?_
 refine zn ?_
 refine zP (fun hc5 => ?_) (fun hc5 => ?_)
 refine zr (zs (hH.q 3 rfl) (.l0 (ac 32) (eQ s u)) 3 ?_)
 refine zW 2 hH rfl (eQ s u) ?_
 clear hH
 intro w hH
 refine zv .mv 1 ?_
 refine zn (ar (bj ?_))
 refine aX 1 0 (hH.blk 2 rfl) rfl rfl rfl (by kernel_rfl) (Cod.size _ _) (by kernel_rfl) ?_
 have he:shE (eQ s u)=2:=if_pos hc5
 exact ⟨by rw[he];rfl,HH.toBelow hH⟩
 refine aA (ag (zr (zs (hH.q 3 rfl) (.l0 (ac 32) (eQ s u)) 3 ?_)))
 refine zW 2 hH rfl (eQ s u) ?_
 clear hH
 intro w hH
 refine zv .mv 1 ?_
 refine zn (ar (aX 1 0 (hH.blk 2 rfl) rfl rfl rfl (by kernel_rfl) (Cod.size _ _) (by kernel_rfl) ?_))
 have he:shE (eQ s u)=0:=if_neg hc5
 exact ⟨by rw[he];rfl,HH.toBelow hH⟩
theorem Ab(s:Nat→UInt8):Pure Tryz.prog 21 #[((ac 32).val s)] (fun _=>True) ((ac 32).val (eQ s fB)):=by
 refine pU Tryz.func21 Tryz.ntmps21 ?_
 intro w0 hH hR
 refine zr (zB hH (ac 32) s 1 ?_)
 clear hH
 intro g1 w hH
 refine zA hH (ac 32) (fun _=>0) 0 ?_
 clear hH
 intro g2 w hH
 refine zn (zr (zs (hH.q 0 rfl) (.l0 (ac 32) s) 2 ?_))
 refine zv (v:=((ac 32).val fB)) (fun _ _ hF=>aE (cells:=(ac 32).enc fB) (vals:=[(0,(.int .u8 9))]) rfl (EvP.cons (v:=(.int .u8 9)) rfl EvP.nil) (by kernel_rfl) _) 0 ?_
 refine zc Tryz.func39 (uE s fB) trivial hH 3 ?_
 clear hH
 intro w hH
 refine zW 1 hH rfl (eQ s fB) ?_
 clear hH
 intro w hH
 refine zn (ar (aI 1 (hH.blk 1 rfl) rfl rfl (by kernel_rfl) (Cod.size _ _) (by kernel_rfl) ?_))
 exact zE hH
theorem ra(s:Nat→UInt8):xPub s=eQ s fB:=kV s fB
section
def beL(k n:Nat):List UInt8:=(List.range k).map fun j=>UInt8.ofNat (n/2^(8*(k-1-j)))
theorem m4(k n:Nat):(beL k n).length=k:=by simp[beL]
theorem wY{k n j:Nat}(h:j<k):(beL k n)[j]?=some (UInt8.ofNat (n/2^(8*(k-1-j)))):=by simp[beL,h]
end
def b4(n:Nat):List UInt8:=[UInt8.ofNat (n/2^24),UInt8.ofNat (n/2^16),UInt8.ofNat (n/2^8),UInt8.ofNat n]
theorem yu(n:Nat):b4 n=beL 4 n:=by
 show b4 n=[UInt8.ofNat (n/2^24),UInt8.ofNat (n/2^16),UInt8.ofNat (n/2^8),UInt8.ofNat (n/2^0)]
 unfold b4
 rw[Nat.pow_zero,Nat.div_one]
theorem m5(n:Nat):(b4 n).length=4:=rfl
def kpL(t:Nat)(a:UInt8)(p:Nat→UInt8):List UInt8:=[[6],b4 t,[a],b4 32,lst 32 p].flatten
def hfL(l:List UInt8):List UInt8:=[[155],b4 l.length,l].flatten
theorem eU(t:Nat)(a:UInt8)(p:Nat→UInt8):(kpL t a p).length=42:=by
 unfold kpL
 simp[m5,ap]
theorem rg(l:List UInt8):(hfL l).length=l.length+5:=by
 unfold hfL
 simp[m5]
 omega
theorem Ac(t:Nat)(a:UInt8)(p:Nat→UInt8):[[6],beL 4 t,[a,0,0,0,32],lst 32 p].flatten=kpL t a p:=by
 unfold kpL
 rw[← yu]
 rfl
theorem Ad(l:List UInt8):[[155],beL 4 l.length,l].flatten=hfL l:=by rw[← yu];rfl
section
variable{P:Program}{a:Act}{o:Oper}{w:World}{x y:Operand}{t:TypeId}
theorem uG{i n:Nat}{e:TypeId}{cs:Array Value}{v:Value}{k:IntKind}(ho:o.op=.index t x y)(hu:P.underlying t=some (.array n e))(he:(P.underlying e).map (·.isRow)=some false)(hs:(P.info? e).map (·.size)=some 1)(hx:a.eval x=.agg cs)(hy:a.eval y=.int k (i:Int))(hi:i<n)(hv:cs[i]?=some v):(execOp a.eval o).run P w=.ok (.value v) w:=by
 obtain ⟨d,hd,hdr⟩:=Option.map_eq_some_iff.1 he
 obtain ⟨q,hq,hqs⟩:=Option.map_eq_some_iff.1 hs
 have hp:(part e cs (i*1)).run P w=.ok v w:=by
  rw[Nat.mul_one]
  simp[part,isAgg,run_underlying hd,hv]
  cases d<;>first | rfl | cases hdr
 unfold execOp
 simp only[ho,hx,hy,Sem.run_bind,Sem.run_pure]
 have hr2:(Instr.index t (.agg cs) (.int k (i:Int))).run P w=.ok v w:=by
  simp[Instr.index,asIntOf,run_underlying hu,sizeOf,typeInfo,hq,hqs,hi]
  simpa using hp
 rw[hr2];rfl
end
def m6(f:Nat→UInt8)(i:Nat)(g:Nat→UInt8):Nat→UInt8:=fun j=>if i*32≤j∧j<i*32+32 then g (j-i*32) else f j
theorem m7{n:Nat}(f g:Nat→UInt8)(i:Nat):bJ ((ac n).enc f) (i*32) ((ac 32).enc g).toList=(ac n).enc (m6 f i g):=by
 apply Array.ext_getElem?
 intro k
 have hsz:((ac n).enc f).size=n:=(ac n).size f
 have hl:((ac 32).enc g).toList.length=32:=by rw[Array.length_toList,(ac 32).size];rfl
 rw[cr,hsz,hl]
 have e1:∀ h:Nat→UInt8,∀ m q,q<m→((ac m).enc h)[q]?=some (by8 (h q)):=fun h m q hq=>ce m h q hq
 by_cases hk:k<n
 ·rw[show ((ac n).enc (m6 f i g))[k]?=some (by8 (m6 f i g k)) from e1 _ n k hk]
  unfold m6
  by_cases h2:i*32≤k∧k<i*32+32
  ·rw[if_pos ⟨h2.1,h2.2,hk⟩,if_pos h2,Array.getElem?_toList,e1 g 32 (k-i*32) (by omega)]
  ·rw[if_neg (fun h=>h2 ⟨h.1,h.2.1⟩),if_neg h2,e1 f n k hk]
 ·rw[if_neg (fun h=>hk h.2.2),Array.getElem?_eq_none (by rw[hsz];omega),Array.getElem?_eq_none (by rw[(ac n).size];show n≤k;omega)]
abbrev cCe:Cod (Nat×(Nat→UInt8)×(Nat→UInt8)×(Nat→UInt8)):=bn (eX .u32) (bn (ac 32) (bn (ac 32) (ac 64)))
def prB(S:List UInt8→Nat→UInt8)(t:Nat)(s b:Nat→UInt8):Nat→UInt8:=m6 (m6 (fun _=>0) 0 (S (hfL (kpL t 27 s)))) 1 (S (hfL (kpL t 25 b)))
def bd(S:List UInt8→Nat→UInt8)(t:Nat)(s b:Nat→UInt8):Nat×(Nat→UInt8)×(Nat→UInt8)×(Nat→UInt8):=(t,s,b,prB S t s b)
theorem pH{m n i:Nat}(hi:i<m):(List.replicate (m-i) 0++(beL m n).drop (m-i)).set (m-1-i) (UInt8.ofNat (n/2^(8*i)))=List.replicate (m-(i+1)) 0++(beL m n).drop (m-(i+1)):=by
 have e:m-i=(m-(i+1))+1:=by omega
 rw[List.set_append_left _ _ (by rw[List.length_replicate];omega),e,List.replicate_succ',List.set_append_right _ _ (by rw[List.length_replicate];omega),List.length_replicate,show m-1-i-(m-(i+1))=0 by omega,List.set_cons_zero,List.append_assoc]
 congr 1
 have hg:=wY (k:=m) (n:=n) (j:=m-(i+1)) (by omega)
 rw[show m-1-(m-(i+1))=i by omega]at hg
 exact (qh hg).symm
theorem wZ(n m:Nat)(h8:m≤8):Does Tryz.prog 90 #[(.int .u64 n),(.int .i64 m)] [] (fun _=>True) (fun v E'=>OwnT af 5 v (beL m n) E'):=by
 refine dU Tryz.func90 Tryz.ntmps90 ?_
 intro w0 hH hR
 replace hH:HH w0 [] [] w0:=hH.only [false]
 refine aj (aC (pxV (v:=(.slice none 0 0)) (fun _ _ hF=>fY rfl rfl) rfl (fun _ _=>rfl) (kA rfl) (by decide) ?_))
 refine aD (ag (aj (aC (pxV (v:=(.int .i64 m)) (fun _ _ hF=>bo rfl (hF.ev 2 rfl)) rfl (fun _ _=>rfl) (kM [false,true,true] rfl rfl) (by decide) ?_))))
 refine pxM hH (fun _ hF=>f0 (e:=5) (n:=m) (sz:=1) (by_:=1) (z:=(.int .u8 0)) (cs:=madeCells (af.enc 0) (m*1)) rfl (by kernel_rfl) (by kernel_rfl) (hF.ev 0 rfl) (hF.ev 0 rfl) rfl rfl (by omega) (by omega) rfl) trivial rfl (fun _ _=>rfl) (kM [false,true,true] rfl rfl) (by decide) ?_
 clear hH
 rintro _ _ w ⟨g1,rfl,rfl⟩ hH
 replace hH:HH w0 [] [[bl g1 5 (madeCells (af.enc 0) (m*1))]] w:=hH
 refine pxV (v:=(.slice (some ⟨g1,0,none⟩) m m)) (fun _ _ hF=>fY rfl (hF.ev 0 rfl)) rfl (fun _ _=>rfl) (kM [false,true,true] rfl rfl) (by decide) ?_
 refine aD (ag (aj (aj (aC (pxV (v:=(.int .i64 m)) (fun _ _ hF=>bo rfl (hF.ev 2 rfl)) rfl (fun _ _=>rfl) (kA rfl) (by decide) ?_)))))
 refine pxV (v:=(.int .i64 0)) (fun _ _ hF=>bo rfl rfl) rfl (fun _ _=>rfl) (kA rfl) (by decide) ?_
 refine aD (ag (ai (f6 (σ:=Nat×(List UInt8)×(Array Value)) (fun x=>[(10,(.int .i64 x.1)),(9,(.int .i64 m)),(5,(.slice (some ⟨g1,0,none⟩) m m)),(1,(.int .i64 m)),(0,(.int .u64 n))]) (fun x w=>HH w0 [] [[bl g1 5 x.2.2]] w∧(x.1≤m)∧(Bk af m x.2.2 x.2.1)∧(x.2.1.length=m)∧(x.2.1=List.replicate (m-x.1) 0++(beL m n).drop (m-x.1))) (fun x=>m-x.1) (0,(List.replicate m 0),(madeCells (af.enc 0) (m*1))) ⟨hH,(Nat.zero_le _),(Bk.make (C:=af) 0 m (ltb rfl) (by unfold maxLen;omega)),List.length_replicate,(by rw[Nat.sub_zero,List.drop_eq_nil_of_le (by rw[m4];exact Nat.le_refl _),List.append_nil])⟩ (bU [0,1,2,4,3] rfl) ?_)))
 clear hH
 rintro ⟨i,L,cur'⟩ w ⟨hH,hi,hB',hlen,hL⟩
 change CX _ _ _ _ [(10,(.int .i64 i)),(9,(.int .i64 m)),(5,(.slice (some ⟨g1,0,none⟩) m m)),(1,(.int .i64 m)),(0,(.int .u64 n))] _
 replace hH:HH w0 [] [[bl g1 5 cur']] w:=hH
 replace hi:i≤m:=hi
 replace hB':Bk af m cur' L:=hB'
 replace hlen:L.length=m:=hlen
 replace hL:L=List.replicate (m-i) 0++(beL m n).drop (m-i):=hL
 refine aj (aC (pxV (v:=(.bool (decide (i<m)))) (fun _ _ hF=>jv rfl (hF.ev 0 rfl) (hF.ev 1 rfl) (dc (by omega))) rfl (fun _ _=>rfl) (kA rfl) (by decide) ?_))
 refine aD (ag (aj ?_))
 refine cxP 0 rfl rfl (fun hc2 => ?_) (fun hc2 => ?_)
 ·refine aA ?_
  refine ag (aj (ai (aj (aC (pxV (v:=(.int .i64 i)) (fun _ _ hF=>bo rfl (hF.ev 1 rfl)) rfl (fun _ _=>rfl) (kM [false,true,true,true,true,true] rfl rfl) (by decide) ?_)))))
  refine pxV (v:=(.int .i64 i)) (fun _ _ hF=>fY rfl (hF.ev 0 rfl)) rfl (fun _ _=>rfl) (kM [false,true,true,true,true,true] rfl rfl) (by decide) ?_
  refine aD (ag (aC (pxV (v:=(.slice (some ⟨g1,0,none⟩) m m)) (fun _ _ hF=>bo rfl (hF.ev 3 rfl)) rfl (fun _ _=>rfl) (kA rfl) (by decide) ?_)))
  refine pxV (v:=(.int .i64 m)) (fun _ _ hF=>bo rfl (hF.ev 5 rfl)) rfl (fun _ _=>rfl) (kA rfl) (by decide) ?_
  refine pxV (v:=(.int .i64 (((m-1):Nat):Int))) (fun _ _ hF=>ju rfl (hF.ev 0 rfl) rfl (wI (by omega) (by omega) (by omega))) rfl (fun _ _=>rfl) (kM [false,true,true,true,true,true,true,true] rfl rfl) (by decide) ?_
  refine pxV (v:=(.int .i64 i)) (fun _ _ hF=>bo rfl (hF.ev 2 rfl)) rfl (fun _ _=>rfl) (kA rfl) (by decide) ?_
  refine pxV (v:=(.int .i64 (((m-1-i):Nat):Int))) (fun _ _ hF=>ju rfl (hF.ev 1 rfl) (hF.ev 0 rfl) (wI (by omega) (by omega) (by omega))) rfl (fun _ _=>rfl) (kM [false,false,true,true,true,true,true,true,true] rfl rfl) (by decide) ?_
  refine pxV (v:=(.int .u64 n)) (fun _ _ hF=>bo rfl (hF.ev 7 rfl)) rfl (fun _ _=>rfl) (kA rfl) (by decide) ?_
  refine pxV (v:=(.int .i64 i)) (fun _ _ hF=>bo rfl (hF.ev 3 rfl)) rfl (fun _ _=>rfl) (kM [true,true,true,false,true,true,true,true,true] rfl rfl) (by decide) ?_
  refine pxV (v:=(.int .i64 (((8*i):Nat):Int))) (fun _ _ hF=>ti rfl rfl (hF.ev 0 rfl) (wI (by omega) (by omega) (by omega))) rfl (fun _ _=>rfl) (kM [false,true,true,true,true,true,true,true,true] rfl rfl) (by decide) ?_
  refine pxV (v:=(.int .u64 (((n/2^(8*i)):Nat):Int))) (fun _ _ hF=>du (n:=8*i) (z:=(n/2^(8*i))) rfl (hF.ev 1 rfl) (hF.ev 0 rfl) (by show _≤64;omega) (rfl)) rfl (fun _ _=>rfl) (kM [false,false,true,true,true,true,true,true,true] rfl rfl) (by decide) ?_
  refine pxV (v:=(.int .u8 ((((UInt8.ofNat (n/2^(8*i))).toNat):Nat):Int))) (fun _ _ hF=>im (k':=.u8) rfl rfl (by kernel_rfl) (by kernel_rfl) (hF.ev 0 rfl) (UInt8.toNat_ofNat' (n:=n/2^(8*i))).symm) rfl (fun _ _=>rfl) (kM [false,true,true,true,true,true,true,true] rfl rfl) (by decide) ?_
  have hi3:m-1-i<m:=by omega
  have hj6:m-1-i<L.length:=by first | exact hi3 | (simp only[List.length_drop];omega) | (simp only[List.length_drop,List.length_take];omega) | omega
  obtain ⟨x4,hx5⟩:=ck L (m-1-i) hj6
  have hb7:=UInt8.toNat_lt x4
  refine pxV (v:=(.pointer (some ⟨g1,0+(m-1-i)*1,none⟩))) (fun _ _ hF=>ig (i:=m-1-i) (e:=5) (sz:=1) rfl (by kernel_rfl) (by kernel_rfl) (hF.ev 2 rfl) (hF.ev 1 rfl) rfl hi3) rfl (fun _ _=>rfl) (kM [true,false,false,true,true,true,true,true] rfl rfl) (by decide) ?_
  obtain ⟨cur9,hcs10,hB8⟩:∃ cs,bJ cur' (0+(m-1-i)*1) (af.enc (UInt8.ofNat (n/2^(8*i)))).toList=cs∧Bk af m cs (L.set (m-1-i) (UInt8.ofNat (n/2^(8*i)))):=⟨_,rfl,eZ hB' (m-1-i) hj6 (UInt8.ofNat (n/2^(8*i)))⟩
  refine Bc 0 hH rfl (fun _ hF=>bV (C:=af) (z:=(UInt8.ofNat (n/2^(8*i)))) rfl (hF.ev 0 rfl) (hF.ev 1 rfl) rfl (by kernel_rfl) (ed hB' hj6) hcs10) trivial rfl (fun _ _=>rfl) ?_
  clear hH
  rintro _ _ w rfl hH
  replace hH:HH w0 [] [[bl g1 5 cur9]] w:=hH
  refine aD (aN (ag (aC (pxV (v:=(.int .i64 (((i+1):Nat):Int))) (fun _ _ hF=>ny rfl (hF.ev 2 rfl) rfl (wI (by omega) (by omega) (by omega))) rfl (fun _ _=>rfl) (kM [false,false,false,true,true,true,true] rfl rfl) (by decide) ?_))))
  refine pxV (v:=(.int .i64 (((i+1):Nat):Int))) (fun _ _ hF=>bo rfl (hF.ev 0 rfl)) rfl (fun _ _=>rfl) (kM [false,true,true,true,true] rfl rfl) (by decide) ?_
  refine aD ?_
  exact eS (i+1,(L.set (m-1-i) (UInt8.ofNat (n/2^(8*i)))),cur9) ⟨hH,(show (i+1)≤m from (by omega)),hB8,(by rw[List.length_set];exact hlen),(show (L.set (m-1-i) (UInt8.ofNat (n/2^(8*i))))=List.replicate (m-(i+1)) 0++(beL m n).drop (m-(i+1)) from (by rw[hL];exact pH (by omega)))⟩ (by omega) (bU [0,1,2,3,4] rfl)
 ·refine aJ ?_
  refine ak (ak (aR (ag (aj (aC (pxV (v:=(.slice (some ⟨g1,0,none⟩) m m)) (fun _ _ hF=>bo rfl (hF.ev 3 rfl)) rfl (fun _ _=>rfl) (kM [false,false,false,false,false,false] rfl rfl) (by decide) ?_))))))
  refine pxV (v:=(.slice (some ⟨g1,0,none⟩) m m)) (fun _ _ hF=>fY rfl (hF.ev 0 rfl)) rfl (fun _ _=>rfl) (kM [false] rfl rfl) (by decide) ?_
  refine aD (ag (ar (aW 0 rfl rfl ?_)))
  have he:L=beL m n:=by rw[hL,show m-i=0 by omega];rfl
  exact ⟨_,_,rfl,(he▸hB'.own 5 g1 hlen),hH.out1 [true] rfl⟩
theorem rh  : Pure Tryz.prog 147 #[] (fun _=>True) ((ac 32).val cp):=by
 refine pU Tryz.func147 Tryz.ntmps147 ?_
 intro w0 hH hR
 refine zr (zA hH (ac 32) (fun _=>0) 0 ?_)
 clear hH
 intro g1 w hH
 refine zn (zr (zv (v:=((ac 32).val cp)) (fun _ _ hF=>aE (cells:=(ac 32).enc cp) (vals:=[(0,(.int .u8 1))]) rfl (EvP.cons (v:=(.int .u8 1)) rfl EvP.nil) (by kernel_rfl) _) 0 ?_))
 refine zW 0 hH rfl cp ?_
 clear hH
 intro w hH
 refine zn (ar (aI 1 (hH.blk 0 rfl) rfl rfl (by kernel_rfl) (Cod.size _ _) (by kernel_rfl) ?_))
 exact zE hH
theorem BP  : Pure Tryz.prog 151 #[] (fun _=>True) ((ac 32).val dB):=by
 refine pU Tryz.func151 Tryz.ntmps151 ?_
 intro w0 hH hR
 refine zr (zA hH (ac 32) (fun _=>0) 0 ?_)
 clear hH
 intro g1 w hH
 refine zn (zr (zv (v:=((ac 32).val dB)) (fun _ _ hF=>aE (cells:=(ac 32).enc dB) (vals:=[(0,(.int .u8 163)),(1,(.int .u8 120)),(2,(.int .u8 89)),(3,(.int .u8 19)),(4,(.int .u8 202)),(5,(.int .u8 77)),(6,(.int .u8 235)),(7,(.int .u8 117)),(8,(.int .u8 171)),(9,(.int .u8 216)),(10,(.int .u8 65)),(11,(.int .u8 65)),(12,(.int .u8 77)),(13,(.int .u8 10)),(14,(.int .u8 112)),(15,(.int .u8 0)),(16,(.int .u8 152)),(17,(.int .u8 232)),(18,(.int .u8 121)),(19,(.int .u8 119)),(20,(.int .u8 121)),(21,(.int .u8 64)),(22,(.int .u8 199)),(23,(.int .u8 140)),(24,(.int .u8 115)),(25,(.int .u8 254)),(26,(.int .u8 111)),(27,(.int .u8 43)),(28,(.int .u8 238)),(29,(.int .u8 108)),(30,(.int .u8 3)),(31,(.int .u8 82))]) rfl (EvP.cons (v:=(.int .u8 163)) rfl (EvP.cons (v:=(.int .u8 120)) rfl (EvP.cons (v:=(.int .u8 89)) rfl (EvP.cons (v:=(.int .u8 19)) rfl (EvP.cons (v:=(.int .u8 202)) rfl (EvP.cons (v:=(.int .u8 77)) rfl (EvP.cons (v:=(.int .u8 235)) rfl (EvP.cons (v:=(.int .u8 117)) rfl (EvP.cons (v:=(.int .u8 171)) rfl (EvP.cons (v:=(.int .u8 216)) rfl (EvP.cons (v:=(.int .u8 65)) rfl (EvP.cons (v:=(.int .u8 65)) rfl (EvP.cons (v:=(.int .u8 77)) rfl (EvP.cons (v:=(.int .u8 10)) rfl (EvP.cons (v:=(.int .u8 112)) rfl (EvP.cons (v:=(.int .u8 0)) rfl (EvP.cons (v:=(.int .u8 152)) rfl (EvP.cons (v:=(.int .u8 232)) rfl (EvP.cons (v:=(.int .u8 121)) rfl (EvP.cons (v:=(.int .u8 119)) rfl (EvP.cons (v:=(.int .u8 121)) rfl (EvP.cons (v:=(.int .u8 64)) rfl (EvP.cons (v:=(.int .u8 199)) rfl (EvP.cons (v:=(.int .u8 140)) rfl (EvP.cons (v:=(.int .u8 115)) rfl (EvP.cons (v:=(.int .u8 254)) rfl (EvP.cons (v:=(.int .u8 111)) rfl (EvP.cons (v:=(.int .u8 43)) rfl (EvP.cons (v:=(.int .u8 238)) rfl (EvP.cons (v:=(.int .u8 108)) rfl (EvP.cons (v:=(.int .u8 3)) rfl (EvP.cons (v:=(.int .u8 82)) rfl EvP.nil)))))))))))))))))))))))))))))))) (by kernel_rfl) _) 0 ?_))
 refine zW 0 hH rfl dB ?_
 clear hH
 intro w hH
 refine zn (ar (aI 1 (hH.blk 0 rfl) rfl rfl (by kernel_rfl) (Cod.size _ _) (by kernel_rfl) ?_))
 exact zE hH
theorem Ae(a:Bt×Bt):Pure Tryz.prog 146 #[(cPr.val a)] (fun _=>True) (cPl.val (wV a)):=by
 refine pU Tryz.func146 Tryz.ntmps146 ?_
 intro w0 hH hR
 refine zr (zB hH cPr a 1 ?_)
 clear hH
 intro g1 w hH
 refine zA hH cPl (fun _=>0,fun _=>0,fun _=>0,fun _=>0) 0 ?_
 clear hH
 intro g2 w hH
 refine zn (zx ?_)
 replace hH:=hH.drew
 refine rv 0 (.fld 0) 0 ?_
 refine rld 1 (hH.q 0 rfl) (.ld (ac 32) a.1 (fun _ hS=>(ae hS).fst)) 1 ?_
 refine rv 2 (.fld 32) 0 ?_
 refine rld 3 (hH.q 0 rfl) (.ld (ac 32) a.2 (fun _ hS=>(ae hS).snd)) 1 ?_
 refine rv 5 (.fld 0) 0 ?_
 refine rld 6 (hH.q 0 rfl) (.ld (ac 32) a.1 (fun _ hS=>(ae hS).fst)) 1 ?_
 refine rv 7 (.fld 32) 16 ?_
 refine rld 8 (hH.q 0 rfl) (.ld (ac 32) a.2 (fun _ hS=>(ae hS).snd)) 1 ?_
 refine ao 4 (rpc 4 Tryz.func147 (rh ) trivial hH 0 (.keep (.keep (.keep (.keep (.nil _ []))))) ?_)
 clear hH
 intro w hH
 refine ⟨am (hH.blk 0 rfl) (am (hH.blk 0 rfl) (am (hH.blk 0 rfl) (am (hH.blk 0 rfl) an))),?_⟩
 refine ao 9 (rpc 9 Tryz.func96 (d9 a.1 a.2) trivial hH 6 (pgo [] (pgo [] (.keep (.keep (.nil _ []))))) ?_)
 clear hH
 intro w hH
 refine ⟨am (hH.blk 0 rfl) (am (hH.blk 0 rfl) an),?_⟩
 refine rv 10 (v:=(cPl.val (a.1,a.2,cp,(fM a.1 a.2)))) (fun _ _ hF=>aE (cells:=cPl.enc (a.1,a.2,cp,(fM a.1 a.2))) rfl (EvP.cons (v:=((ac 32).val a.1)) (hF.ev 3 rfl) (EvP.cons (v:=((ac 32).val a.2)) (hF.ev 2 rfl) (EvP.cons (v:=((ac 32).val cp)) (hF.ev 1 rfl) (EvP.cons (v:=((ac 32).val (fM a.1 a.2))) (hF.ev 0 rfl) EvP.nil)))) (gl (x:=((a.1,a.2,cp,(fM a.1 a.2)):Bt×Bt×Bt×Bt)) (by kernel_rfl) rfl rfl rfl rfl) _) 15 ?_
 refine ao 11 ?_
 refine re0 11 1 hH rfl (.sw cPl (fun _=>0,fun _=>0,fun _=>0,fun _=>0) (a.1,a.2,cp,(fM a.1 a.2))) trivial (pgo [] (pgo [] (.nil _ []))) ?_
 clear hH
 rintro _ _ w rfl hH
 refine ⟨an,rn ?_⟩
 refine ar (aI 1 (hH.blk 1 rfl) rfl rfl (by kernel_rfl) (Cod.size _ _) (by kernel_rfl) ?_)
 exact zE hH
theorem Af(a:Bt×Bt):Pure Tryz.prog 114 #[(cPr.val a)] (fun _=>True) (cSt.val (sL a)):=by
 refine pU Tryz.func114 Tryz.ntmps114 ?_
 intro w0 hH hR
 refine zr (zB hH cPr a 1 ?_)
 clear hH
 intro g1 w hH
 refine zA hH cSt (fun _=>0,fun _=>0,fun _=>0) 0 ?_
 clear hH
 intro g2 w hH
 refine zn (zx ?_)
 replace hH:=hH.drew
 refine de 0 [pv 0 4 [] [] fun G=>((ac 32).val dB),pv 1 5 [] [] fun G=>(.pointer (some ⟨g1,0,none⟩)),ldv 2 6 [1] [] [1000] fun G=>((ac 32).val a.1),pv 3 7 [] [] fun G=>(.pointer (some ⟨g1,32,none⟩)),ldv 4 8 [3] [] [1000] fun G=>((ac 32).val a.2),pv 5 9 [2,4] [] fun G=>((ac 32).val (fM a.1 a.2)),pv 6 10 [0,5] [] fun G=>((ac 32).val (fM dB (fM a.1 a.2))),alv 7 3 [] [] fun G g=>[bl g 22 ((ac 32).enc (fun _=>0))],stv 8 [6,7] [7] 7 fun G=>[bl (G 7).g 22 ((ac 32).enc (fM dB (fM a.1 a.2)))]] (fun G=>[(3,(.pointer (some ⟨(G 7).g,0,none⟩))),(2,(.pointer (some ⟨g2,0,none⟩))),(1,(.pointer (some ⟨g1,0,none⟩)))]) (fun G=>[[bl g1 144 (cPr.enc a)],[bl g2 152 (cSt.enc (fun _=>0,fun _=>0,fun _=>0))],[bl (G 7).g 22 ((ac 32).enc (fM dB (fM a.1 a.2)))]]) hH (.c (Sp.c Tryz.func151 (fun G=>(BP )) fun _=>trivial) <| .c (.v fun G=>(.fld 0)) <| .c (.ld (fun G _ _ hH=>(hH.q 0 rfl)) fun G=>(.ld (ac 32) a.1 (fun _ hS=>(ae hS).fst))) <| .c (.v fun G=>(.fld 32)) <| .c (.ld (fun G _ _ hH=>(hH.q 0 rfl)) fun G=>(.ld (ac 32) a.2 (fun _ hS=>(ae hS).snd))) <| .c (Sp.c Tryz.func96 (fun G=>(d9 a.1 a.2)) fun _=>trivial) <| .c (Sp.c Tryz.func96 (fun G=>(d9 dB (fM a.1 a.2))) fun _=>trivial) <| .c (.a (fun _ _ _ _=>trivial) (fun G=>(.al (ac 32) (fun _=>0))) fun _ _ _ h=>h) <| .c (.tn (fun G=>(.sw (ac 32) (fun _=>0) (fM dB (fM a.1 a.2)))) (fun _ _ _ _=>trivial) fun _ _ _ h=>h) <| .nil) ?_
 clear hH
 rintro G w-hH
 revert hH
 generalize (G 7).g=g3
 intro hH
 refine rn ?_
 refine zx ?_
 replace hH:=hH.drew
 refine rv 0 (.fld 32) 0 ?_
 refine rld 1 (hH.q 0 rfl) (.ld (ac 32) a.2 (fun _ hS=>(ae hS).snd)) 1 ?_
 refine rv 2 (.fld 0) 0 ?_
 refine rld 3 (hH.q 0 rfl) (.ld (ac 32) a.1 (fun _ hS=>(ae hS).fst)) 1 ?_
 refine rv 5 (.fld 32) 0 ?_
 refine rld 6 (hH.q 0 rfl) (.ld (ac 32) a.2 (fun _ hS=>(ae hS).snd)) 1 ?_
 refine rv 7 (.fld 0) 32 ?_
 refine rld 8 (hH.q 0 rfl) (.ld (ac 32) a.1 (fun _ hS=>(ae hS).fst)) 1 ?_
 refine rld 10 (hH.q 2 rfl) (.l0 (ac 32) (fM dB (fM a.1 a.2))) 0 ?_
 refine rld 11 (hH.q 2 rfl) (.l0 (ac 32) (fM dB (fM a.1 a.2))) 32 ?_
 refine ao 4 (rpc 4 Tryz.func134 (jj a.2 a.1) trivial hH 48 (.keep (.keep (.keep (.keep (pgo [] (pgo [] (.nil _ []))))))) ?_)
 clear hH
 intro w hH
 refine ⟨am (hH.blk 2 rfl) (am (hH.blk 2 rfl) (am (hH.blk 0 rfl) (am (hH.blk 0 rfl) an))),?_⟩
 refine ao 9 (rpc 9 Tryz.func133 (gD a.2 a.1) trivial hH 24 (.keep (.keep (pgo [] (pgo [] (.nil _ []))))) ?_)
 clear hH
 intro w hH
 refine ⟨am (hH.blk 2 rfl) (am (hH.blk 2 rfl) an),?_⟩
 refine ao 12 (rpc 12 Tryz.func133 (gD (fM dB (fM a.1 a.2)) (fM dB (fM a.1 a.2))) trivial hH 12 (pgo [] (pgo [] (.nil _ []))) ?_)
 clear hH
 intro w hH
 refine ⟨an,rv 13 (v:=(cSt.val ((fS a.2 a.1),(fA a.2 a.1),(fA (fM dB (fM a.1 a.2)) (fM dB (fM a.1 a.2)))))) (fun _ _ hF=>aE (cells:=cSt.enc ((fS a.2 a.1),(fA a.2 a.1),(fA (fM dB (fM a.1 a.2)) (fM dB (fM a.1 a.2))))) rfl (EvP.cons (v:=((ac 32).val (fS a.2 a.1))) (hF.ev 2 rfl) (EvP.cons (v:=((ac 32).val (fA a.2 a.1))) (hF.ev 1 rfl) (EvP.cons (v:=((ac 32).val (fA (fM dB (fM a.1 a.2)) (fM dB (fM a.1 a.2))))) (hF.ev 0 rfl) EvP.nil))) (qg (x:=(((fS a.2 a.1),(fA a.2 a.1),(fA (fM dB (fM a.1 a.2)) (fM dB (fM a.1 a.2)))):Bt×Bt×Bt)) (by kernel_rfl) rfl rfl rfl) _) 7 ?_⟩
 refine ao 14 ?_
 refine re0 14 1 hH rfl (.sw cSt (fun _=>0,fun _=>0,fun _=>0) ((fS a.2 a.1),(fA a.2 a.1),(fA (fM dB (fM a.1 a.2)) (fM dB (fM a.1 a.2))))) trivial (.nil _ []) ?_
 clear hH
 rintro _ _ w rfl hH
 refine ⟨an,rn ?_⟩
 refine ar (aI 1 (hH.blk 1 rfl) rfl rfl (by kernel_rfl) (Cod.size _ _) (by kernel_rfl) ?_)
 exact zE hH
theorem uH(e f g h:Bt):Pure Tryz.prog 172 #[((ac 32).val e),((ac 32).val f),((ac 32).val g),((ac 32).val h)] (fun _=>True) (cPl.val (uB e f g h)):=by
 refine pU Tryz.func172 Tryz.ntmps172 ?_
 intro w0 hH hR
 refine zr (zB hH (ac 32) e 1 ?_)
 clear hH
 intro g1 w hH
 refine zB hH (ac 32) f 2 ?_
 clear hH
 intro g2 w hH
 refine zB hH (ac 32) g 4 ?_
 clear hH
 intro g3 w hH
 refine zB hH (ac 32) h 8 ?_
 clear hH
 intro g4 w hH
 refine zA hH cPl (fun _=>0,fun _=>0,fun _=>0,fun _=>0) 0 ?_
 clear hH
 intro g5 w hH
 refine zn (zx ?_)
 replace hH:=hH.drew
 refine rld 0 (hH.q 0 rfl) (.l0 (ac 32) e) 0 ?_
 refine rld 1 (hH.q 1 rfl) (.l0 (ac 32) f) 0 ?_
 refine rld 3 (hH.q 2 rfl) (.l0 (ac 32) g) 0 ?_
 refine rld 4 (hH.q 3 rfl) (.l0 (ac 32) h) 0 ?_
 refine rld 6 (hH.q 1 rfl) (.l0 (ac 32) f) 128 ?_
 refine rld 7 (hH.q 2 rfl) (.l0 (ac 32) g) 128 ?_
 refine rld 9 (hH.q 0 rfl) (.l0 (ac 32) e) 256 ?_
 refine rld 10 (hH.q 3 rfl) (.l0 (ac 32) h) 256 ?_
 refine ao 2 (rpc 2 Tryz.func96 (d9 e f) trivial hH 192 (.keep (.keep (.keep (.keep (.keep (.keep (pgo [] (pgo [] (.nil _ []))))))))) ?_)
 clear hH
 intro w hH
 refine ⟨am (hH.blk 3 rfl) (am (hH.blk 0 rfl) (am (hH.blk 2 rfl) (am (hH.blk 1 rfl) (am (hH.blk 3 rfl) (am (hH.blk 2 rfl) an))))),?_⟩
 refine ao 5 (rpc 5 Tryz.func96 (d9 g h) trivial hH 96 (.keep (.keep (.keep (.keep (pgo [] (pgo [] (.nil _ []))))))) ?_)
 clear hH
 intro w hH
 refine ⟨am (hH.blk 3 rfl) (am (hH.blk 0 rfl) (am (hH.blk 2 rfl) (am (hH.blk 1 rfl) an))),?_⟩
 refine ao 8 (rpc 8 Tryz.func96 (d9 f g) trivial hH 48 (.keep (.keep (pgo [] (pgo [] (.nil _ []))))) ?_)
 clear hH
 intro w hH
 refine ⟨am (hH.blk 3 rfl) (am (hH.blk 0 rfl) an),?_⟩
 refine ao 11 (rpc 11 Tryz.func96 (d9 e h) trivial hH 24 (pgo [] (pgo [] (.nil _ []))) ?_)
 clear hH
 intro w hH
 refine ⟨an,rv 12 (v:=(cPl.val ((fM e f),(fM g h),(fM f g),(fM e h)))) (fun _ _ hF=>aE (cells:=cPl.enc ((fM e f),(fM g h),(fM f g),(fM e h))) rfl (EvP.cons (v:=((ac 32).val (fM e f))) (hF.ev 3 rfl) (EvP.cons (v:=((ac 32).val (fM g h))) (hF.ev 2 rfl) (EvP.cons (v:=((ac 32).val (fM f g))) (hF.ev 1 rfl) (EvP.cons (v:=((ac 32).val (fM e h))) (hF.ev 0 rfl) EvP.nil)))) (gl (x:=(((fM e f),(fM g h),(fM f g),(fM e h)):Bt×Bt×Bt×Bt)) (by kernel_rfl) rfl rfl rfl rfl) _) 15 ?_⟩
 refine ao 13 ?_
 refine re0 13 4 hH rfl (.sw cPl (fun _=>0,fun _=>0,fun _=>0,fun _=>0) ((fM e f),(fM g h),(fM f g),(fM e h))) trivial (.nil _ []) ?_
 clear hH
 rintro _ _ w rfl hH
 refine ⟨an,rn ?_⟩
 refine ar (aI 1 (hH.blk 4 rfl) rfl rfl (by kernel_rfl) (Cod.size _ _) (by kernel_rfl) ?_)
 exact zE hH
theorem BQ(a:Bt×Bt×Bt×Bt)(b:Bt×Bt×Bt):Pure Tryz.prog 148 #[(cPl.val a),(cSt.val b)] (fun _=>True) (cPl.val (ptA a b)):=by
 refine pU Tryz.func148 Tryz.ntmps148 ?_
 intro w0 hH hR
 refine zr (zB hH cPl a 1 ?_)
 clear hH
 intro g1 w hH
 refine zB hH cSt b 2 ?_
 clear hH
 intro g2 w hH
 refine zA hH cPl (fun _=>0,fun _=>0,fun _=>0,fun _=>0) 0 ?_
 clear hH
 intro g3 w hH
 refine zn (zx ?_)
 replace hH:=hH.drew
 refine de 0 [pv 0 9 [] [] fun G=>(.pointer (some ⟨g1,32,none⟩)),ldv 1 10 [0] [] [1000] fun G=>((ac 32).val a.2.1),pv 2 11 [] [] fun G=>(.pointer (some ⟨g1,0,none⟩)),ldv 3 12 [2] [] [1000] fun G=>((ac 32).val a.1),pv 4 13 [1,3] [] fun G=>((ac 32).val (fS a.2.1 a.1)),pv 5 14 [] [] fun G=>(.pointer (some ⟨g2,0,none⟩)),ldv 6 15 [5] [] [1001] fun G=>((ac 32).val b.1),pv 7 16 [4,6] [] fun G=>((ac 32).val (fM (fS a.2.1 a.1) b.1)),alv 8 5 [] [] fun G g=>[bl g 22 ((ac 32).enc (fun _=>0))],stv 9 [7,8] [8] 8 fun G=>[bl (G 8).g 22 ((ac 32).enc (fM (fS a.2.1 a.1) b.1))]] (fun G=>[(5,(.pointer (some ⟨(G 8).g,0,none⟩))),(4,(.pointer (some ⟨g3,0,none⟩))),(3,(.pointer (some ⟨g2,0,none⟩))),(2,(.pointer (some ⟨g1,0,none⟩)))]) (fun G=>[[bl g1 149 (cPl.enc a)],[bl g2 152 (cSt.enc b)],[bl g3 149 (cPl.enc (fun _=>0,fun _=>0,fun _=>0,fun _=>0))],[bl (G 8).g 22 ((ac 32).enc (fM (fS a.2.1 a.1) b.1))]]) hH (.c (.v fun G=>(.fld 32)) <| .c (.ld (fun G _ _ hH=>(hH.q 0 rfl)) fun G=>(.ld (ac 32) a.2.1 (fun _ hS=>((ae hS).snd).fst))) <| .c (.v fun G=>(.fld 0)) <| .c (.ld (fun G _ _ hH=>(hH.q 0 rfl)) fun G=>(.ld (ac 32) a.1 (fun _ hS=>(ae hS).fst))) <| .c (Sp.c Tryz.func134 (fun G=>(jj a.2.1 a.1)) fun _=>trivial) <| .c (.v fun G=>(.fld 0)) <| .c (.ld (fun G _ _ hH=>(hH.q 0 rfl)) fun G=>(.ld (ac 32) b.1 (fun _ hS=>(ae hS).fst))) <| .c (Sp.c Tryz.func96 (fun G=>(d9 (fS a.2.1 a.1) b.1)) fun _=>trivial) <| .c (.a (fun _ _ _ _=>trivial) (fun G=>(.al (ac 32) (fun _=>0))) fun _ _ _ h=>h) <| .c (.tn (fun G=>(.sw (ac 32) (fun _=>0) (fM (fS a.2.1 a.1) b.1))) (fun _ _ _ _=>trivial) fun _ _ _ h=>h) <| .nil) ?_
 clear hH
 rintro G w-hH
 revert hH
 generalize (G 8).g=g4
 intro hH
 refine rn ?_
 refine zx ?_
 replace hH:=hH.drew
 refine de 0 [pv 0 17 [] [] fun G=>(.pointer (some ⟨g1,32,none⟩)),ldv 1 18 [0] [] [1000] fun G=>((ac 32).val a.2.1),pv 2 19 [] [] fun G=>(.pointer (some ⟨g1,0,none⟩)),ldv 3 20 [2] [] [1000] fun G=>((ac 32).val a.1),pv 4 21 [1,3] [] fun G=>((ac 32).val (fA a.2.1 a.1)),pv 5 22 [] [] fun G=>(.pointer (some ⟨g2,32,none⟩)),ldv 6 23 [5] [] [1001] fun G=>((ac 32).val b.2.1),pv 7 24 [4,6] [] fun G=>((ac 32).val (fM (fA a.2.1 a.1) b.2.1)),alv 8 6 [] [] fun G g=>[bl g 22 ((ac 32).enc (fun _=>0))],stv 9 [7,8] [8] 8 fun G=>[bl (G 8).g 22 ((ac 32).enc (fM (fA a.2.1 a.1) b.2.1))]] (fun G=>[(6,(.pointer (some ⟨(G 8).g,0,none⟩))),(5,(.pointer (some ⟨g4,0,none⟩))),(4,(.pointer (some ⟨g3,0,none⟩))),(3,(.pointer (some ⟨g2,0,none⟩))),(2,(.pointer (some ⟨g1,0,none⟩)))]) (fun G=>[[bl g1 149 (cPl.enc a)],[bl g2 152 (cSt.enc b)],[bl g3 149 (cPl.enc (fun _=>0,fun _=>0,fun _=>0,fun _=>0))],[bl g4 22 ((ac 32).enc (fM (fS a.2.1 a.1) b.1))],[bl (G 8).g 22 ((ac 32).enc (fM (fA a.2.1 a.1) b.2.1))]]) hH (.c (.v fun G=>(.fld 32)) <| .c (.ld (fun G _ _ hH=>(hH.q 0 rfl)) fun G=>(.ld (ac 32) a.2.1 (fun _ hS=>((ae hS).snd).fst))) <| .c (.v fun G=>(.fld 0)) <| .c (.ld (fun G _ _ hH=>(hH.q 0 rfl)) fun G=>(.ld (ac 32) a.1 (fun _ hS=>(ae hS).fst))) <| .c (Sp.c Tryz.func133 (fun G=>(gD a.2.1 a.1)) fun _=>trivial) <| .c (.v fun G=>(.fld 32)) <| .c (.ld (fun G _ _ hH=>(hH.q 0 rfl)) fun G=>(.ld (ac 32) b.2.1 (fun _ hS=>((ae hS).snd).fst))) <| .c (Sp.c Tryz.func96 (fun G=>(d9 (fA a.2.1 a.1) b.2.1)) fun _=>trivial) <| .c (.a (fun _ _ _ _=>trivial) (fun G=>(.al (ac 32) (fun _=>0))) fun _ _ _ h=>h) <| .c (.tn (fun G=>(.sw (ac 32) (fun _=>0) (fM (fA a.2.1 a.1) b.2.1))) (fun _ _ _ _=>trivial) fun _ _ _ h=>h) <| .nil) ?_
 clear hH
 rintro G w-hH
 revert hH
 generalize (G 8).g=g5
 intro hH
 refine rn ?_
 refine zr (zv (.fld 96) 0 ?_)
 refine zs (hH.q 0 rfl) (.ld (ac 32) a.2.2.2 (fun _ hS=>(((ae hS).snd).snd).snd)) 1 ?_
 refine zv (.fld 64) 16 ?_
 refine zs (hH.q 1 rfl) (.ld (ac 32) b.2.2 (fun _ hS=>((ae hS).snd).snd)) 1 ?_
 refine zc Tryz.func96 (d9 a.2.2.2 b.2.2) trivial hH 3 ?_
 clear hH
 intro w hH
 refine zA hH (ac 32) (fun _=>0) 0 ?_
 clear hH
 intro g6 w hH
 refine zW 5 hH rfl (fM a.2.2.2 b.2.2) ?_
 clear hH
 intro w hH
 refine zn (zr (zv (.fld 64) 2 ?_))
 refine zs (hH.q 0 rfl) (.ld (ac 32) a.2.2.1 (fun _ hS=>(((ae hS).snd).snd).fst)) 1 ?_
 refine zv (.fld 64) 32 ?_
 refine zs (hH.q 0 rfl) (.ld (ac 32) a.2.2.1 (fun _ hS=>(((ae hS).snd).snd).fst)) 1 ?_
 refine zc Tryz.func133 (gD a.2.2.1 a.2.2.1) trivial hH 3 ?_
 clear hH
 intro w hH
 refine zA hH (ac 32) (fun _=>0) 0 ?_
 clear hH
 intro g7 w hH
 refine zW 6 hH rfl (fA a.2.2.1 a.2.2.1) ?_
 clear hH
 intro w hH
 refine zn (zx ?_)
 replace hH:=hH.drew
 refine rld 0 (hH.q 4 rfl) (.l0 (ac 32) (fM (fA a.2.1 a.1) b.2.1)) 2 ?_
 refine rld 1 (hH.q 3 rfl) (.l0 (ac 32) (fM (fS a.2.1 a.1) b.1)) 0 ?_
 refine rld 3 (hH.q 6 rfl) (.l0 (ac 32) (fA a.2.2.1 a.2.2.1)) 0 ?_
 refine rld 4 (hH.q 5 rfl) (.l0 (ac 32) (fM a.2.2.2 b.2.2)) 0 ?_
 refine rld 6 (hH.q 6 rfl) (.l0 (ac 32) (fA a.2.2.1 a.2.2.1)) 16 ?_
 refine rld 7 (hH.q 5 rfl) (.l0 (ac 32) (fM a.2.2.2 b.2.2)) 32 ?_
 refine rld 9 (hH.q 4 rfl) (.l0 (ac 32) (fM (fA a.2.1 a.1) b.2.1)) 64 ?_
 refine rld 10 (hH.q 3 rfl) (.l0 (ac 32) (fM (fS a.2.1 a.1) b.1)) 128 ?_
 refine ao 2 (rpc 2 Tryz.func134 (jj (fM (fA a.2.1 a.1) b.2.1) (fM (fS a.2.1 a.1) b.1)) trivial hH 192 (.keep (.keep (.keep (.keep (.keep (.keep (pgo [] (pgo [] (.nil _ []))))))))) ?_)
 clear hH
 intro w hH
 refine ⟨am (hH.blk 3 rfl) (am (hH.blk 4 rfl) (am (hH.blk 5 rfl) (am (hH.blk 6 rfl) (am (hH.blk 5 rfl) (am (hH.blk 6 rfl) an))))),?_⟩
 refine ao 5 (rpc 5 Tryz.func134 (jj (fA a.2.2.1 a.2.2.1) (fM a.2.2.2 b.2.2)) trivial hH 96 (.keep (.keep (.keep (.keep (pgo [] (pgo [] (.nil _ []))))))) ?_)
 clear hH
 intro w hH
 refine ⟨am (hH.blk 3 rfl) (am (hH.blk 4 rfl) (am (hH.blk 5 rfl) (am (hH.blk 6 rfl) an))),?_⟩
 refine ao 8 (rpc 8 Tryz.func133 (gD (fA a.2.2.1 a.2.2.1) (fM a.2.2.2 b.2.2)) trivial hH 48 (.keep (.keep (pgo [] (pgo [] (.nil _ []))))) ?_)
 clear hH
 intro w hH
 refine ⟨am (hH.blk 3 rfl) (am (hH.blk 4 rfl) an),?_⟩
 refine ao 11 (rpc 11 Tryz.func133 (gD (fM (fA a.2.1 a.1) b.2.1) (fM (fS a.2.1 a.1) b.1)) trivial hH 24 (pgo [] (pgo [] (.nil _ []))) ?_)
 clear hH
 intro w hH
 refine ⟨an,?_⟩
 refine ao 12 (rpc 12 Tryz.func172 (uH (fS (fM (fA a.2.1 a.1) b.2.1) (fM (fS a.2.1 a.1) b.1)) (fS (fA a.2.2.1 a.2.2.1) (fM a.2.2.2 b.2.2)) (fA (fA a.2.2.1 a.2.2.1) (fM a.2.2.2 b.2.2)) (fA (fM (fA a.2.1 a.1) b.2.1) (fM (fS a.2.1 a.1) b.1))) trivial hH 15 (.nil _ []) ?_)
 clear hH
 intro w hH
 refine ⟨an,ao 13 ?_⟩
 refine re0 13 2 hH rfl (.sw cPl (fun _=>0,fun _=>0,fun _=>0,fun _=>0) (uB (fS (fM (fA a.2.1 a.1) b.2.1) (fM (fS a.2.1 a.1) b.1)) (fS (fA a.2.2.1 a.2.2.1) (fM a.2.2.2 b.2.2)) (fA (fA a.2.2.1 a.2.2.1) (fM a.2.2.2 b.2.2)) (fA (fM (fA a.2.1 a.1) b.2.1) (fM (fS a.2.1 a.1) b.1)))) trivial (.nil _ []) ?_
 clear hH
 rintro _ _ w rfl hH
 refine ⟨an,rn ?_⟩
 refine ar (aI 1 (hH.blk 2 rfl) rfl rfl (by kernel_rfl) (Cod.size _ _) (by kernel_rfl) ?_)
 exact zE hH
theorem BR(a:Bt×Bt×Bt×Bt):Pure Tryz.prog 149 #[(cPl.val a)] (fun _=>True) (cPl.val (ptD a)):=by
 refine pU Tryz.func149 Tryz.ntmps149 ?_
 intro w0 hH hR
 refine zr (zB hH cPl a 1 ?_)
 clear hH
 intro g1 w hH
 refine zA hH cPl (fun _=>0,fun _=>0,fun _=>0,fun _=>0) 0 ?_
 clear hH
 intro g2 w hH
 refine zn (zx ?_)
 replace hH:=hH.drew
 refine de 0 [pv 0 9 [] [] fun G=>(.pointer (some ⟨g1,0,none⟩)),ldv 1 10 [0] [] [1000] fun G=>((ac 32).val a.1),pv 2 11 [] [] fun G=>(.pointer (some ⟨g1,0,none⟩)),ldv 3 12 [2] [] [1000] fun G=>((ac 32).val a.1),pv 4 13 [1,3] [] fun G=>((ac 32).val (fM a.1 a.1)),pv 5 14 [] [] fun G=>(.pointer (some ⟨g1,32,none⟩)),ldv 6 15 [5] [] [1000] fun G=>((ac 32).val a.2.1),pv 7 16 [] [] fun G=>(.pointer (some ⟨g1,32,none⟩)),ldv 8 17 [7] [] [1000] fun G=>((ac 32).val a.2.1),pv 9 18 [6,8] [] fun G=>((ac 32).val (fM a.2.1 a.2.1)),pv 10 19 [] [] fun G=>(.pointer (some ⟨g1,64,none⟩)),ldv 11 20 [10] [] [1000] fun G=>((ac 32).val a.2.2.1),pv 12 21 [] [] fun G=>(.pointer (some ⟨g1,64,none⟩)),ldv 13 22 [12] [] [1000] fun G=>((ac 32).val a.2.2.1),pv 14 23 [11,13] [] fun G=>((ac 32).val (fM a.2.2.1 a.2.2.1)),alv 15 3 [] [] fun G g=>[bl g 22 ((ac 32).enc (fun _=>0))],alv 16 4 [] [] fun G g=>[bl g 22 ((ac 32).enc (fun _=>0))],alv 17 5 [] [] fun G g=>[bl g 22 ((ac 32).enc (fun _=>0))],stv 18 [4,15] [15] 15 fun G=>[bl (G 15).g 22 ((ac 32).enc (fM a.1 a.1))],stv 19 [9,16] [16] 16 fun G=>[bl (G 16).g 22 ((ac 32).enc (fM a.2.1 a.2.1))],stv 20 [14,17] [17] 17 fun G=>[bl (G 17).g 22 ((ac 32).enc (fM a.2.2.1 a.2.2.1))]] (fun G=>[(3,(.pointer (some ⟨(G 15).g,0,none⟩))),(4,(.pointer (some ⟨(G 16).g,0,none⟩))),(5,(.pointer (some ⟨(G 17).g,0,none⟩))),(2,(.pointer (some ⟨g2,0,none⟩))),(1,(.pointer (some ⟨g1,0,none⟩)))]) (fun G=>[[bl g1 149 (cPl.enc a)],[bl g2 149 (cPl.enc (fun _=>0,fun _=>0,fun _=>0,fun _=>0))],[bl (G 15).g 22 ((ac 32).enc (fM a.1 a.1))],[bl (G 16).g 22 ((ac 32).enc (fM a.2.1 a.2.1))],[bl (G 17).g 22 ((ac 32).enc (fM a.2.2.1 a.2.2.1))]]) hH (.c (.v fun G=>(.fld 0)) <| .c (.ld (fun G _ _ hH=>(hH.q 0 rfl)) fun G=>(.ld (ac 32) a.1 (fun _ hS=>(ae hS).fst))) <| .c (.v fun G=>(.fld 0)) <| .c (.ld (fun G _ _ hH=>(hH.q 0 rfl)) fun G=>(.ld (ac 32) a.1 (fun _ hS=>(ae hS).fst))) <| .c (Sp.c Tryz.func96 (fun G=>(d9 a.1 a.1)) fun _=>trivial) <| .c (.v fun G=>(.fld 32)) <| .c (.ld (fun G _ _ hH=>(hH.q 0 rfl)) fun G=>(.ld (ac 32) a.2.1 (fun _ hS=>((ae hS).snd).fst))) <| .c (.v fun G=>(.fld 32)) <| .c (.ld (fun G _ _ hH=>(hH.q 0 rfl)) fun G=>(.ld (ac 32) a.2.1 (fun _ hS=>((ae hS).snd).fst))) <| .c (Sp.c Tryz.func96 (fun G=>(d9 a.2.1 a.2.1)) fun _=>trivial) <| .c (.v fun G=>(.fld 64)) <| .c (.ld (fun G _ _ hH=>(hH.q 0 rfl)) fun G=>(.ld (ac 32) a.2.2.1 (fun _ hS=>(((ae hS).snd).snd).fst))) <| .c (.v fun G=>(.fld 64)) <| .c (.ld (fun G _ _ hH=>(hH.q 0 rfl)) fun G=>(.ld (ac 32) a.2.2.1 (fun _ hS=>(((ae hS).snd).snd).fst))) <| .c (Sp.c Tryz.func96 (fun G=>(d9 a.2.2.1 a.2.2.1)) fun _=>trivial) <| .c (.a (fun _ _ _ _=>trivial) (fun G=>(.al (ac 32) (fun _=>0))) fun _ _ _ h=>h) <| .c (.a (fun _ _ _ _=>trivial) (fun G=>(.al (ac 32) (fun _=>0))) fun _ _ _ h=>h) <| .c (.a (fun _ _ _ _=>trivial) (fun G=>(.al (ac 32) (fun _=>0))) fun _ _ _ h=>h) <| .c (.tn (fun G=>(.sw (ac 32) (fun _=>0) (fM a.1 a.1))) (fun _ _ _ _=>trivial) fun _ _ _ h=>h) <| .c (.tn (fun G=>(.sw (ac 32) (fun _=>0) (fM a.2.1 a.2.1))) (fun _ _ _ _=>trivial) fun _ _ _ h=>h) <| .c (.tn (fun G=>(.sw (ac 32) (fun _=>0) (fM a.2.2.1 a.2.2.1))) (fun _ _ _ _=>trivial) fun _ _ _ h=>h) <| .nil) ?_
 clear hH
 rintro G w-hH
 revert hH
 generalize (G 15).g=g3
 generalize (G 16).g=g4
 generalize (G 17).g=g5
 intro hH
 refine rn ?_
 refine zr (zv (.fld 0) 0 ?_)
 refine zs (hH.q 0 rfl) (.ld (ac 32) a.1 (fun _ hS=>(ae hS).fst)) 1 ?_
 refine zv (.fld 32) 32 ?_
 refine zs (hH.q 0 rfl) (.ld (ac 32) a.2.1 (fun _ hS=>((ae hS).snd).fst)) 1 ?_
 refine zc Tryz.func133 (gD a.1 a.2.1) trivial hH 3 ?_
 clear hH
 intro w hH
 refine zA hH (ac 32) (fun _=>0) 0 ?_
 clear hH
 intro g6 w hH
 refine zW 5 hH rfl (fA a.1 a.2.1) ?_
 clear hH
 intro w hH
 refine zn (zx ?_)
 replace hH:=hH.drew
 refine de 0 [ldv 0 29 [] [] [1002] fun G=>((ac 32).val (fM a.1 a.1)),ldv 1 30 [] [] [1003] fun G=>((ac 32).val (fM a.2.1 a.2.1)),pv 2 31 [0,1] [] fun G=>((ac 32).val (fA (fM a.1 a.1) (fM a.2.1 a.2.1))),ldv 3 32 [] [] [1002] fun G=>((ac 32).val (fM a.1 a.1)),ldv 4 33 [] [] [1003] fun G=>((ac 32).val (fM a.2.1 a.2.1)),pv 5 34 [3,4] [] fun G=>((ac 32).val (fS (fM a.1 a.1) (fM a.2.1 a.2.1))),alv 6 7 [] [] fun G g=>[bl g 22 ((ac 32).enc (fun _=>0))],alv 7 8 [] [] fun G g=>[bl g 22 ((ac 32).enc (fun _=>0))],stv 8 [2,6] [6] 6 fun G=>[bl (G 6).g 22 ((ac 32).enc (fA (fM a.1 a.1) (fM a.2.1 a.2.1)))],stv 9 [5,7] [7] 7 fun G=>[bl (G 7).g 22 ((ac 32).enc (fS (fM a.1 a.1) (fM a.2.1 a.2.1)))]] (fun G=>[(7,(.pointer (some ⟨(G 6).g,0,none⟩))),(8,(.pointer (some ⟨(G 7).g,0,none⟩))),(6,(.pointer (some ⟨g6,0,none⟩))),(5,(.pointer (some ⟨g5,0,none⟩))),(2,(.pointer (some ⟨g2,0,none⟩)))]) (fun G=>[[bl g1 149 (cPl.enc a)],[bl g2 149 (cPl.enc (fun _=>0,fun _=>0,fun _=>0,fun _=>0))],[bl g3 22 ((ac 32).enc (fM a.1 a.1))],[bl g4 22 ((ac 32).enc (fM a.2.1 a.2.1))],[bl g5 22 ((ac 32).enc (fM a.2.2.1 a.2.2.1))],[bl g6 22 ((ac 32).enc (fA a.1 a.2.1))],[bl (G 6).g 22 ((ac 32).enc (fA (fM a.1 a.1) (fM a.2.1 a.2.1)))],[bl (G 7).g 22 ((ac 32).enc (fS (fM a.1 a.1) (fM a.2.1 a.2.1)))]]) hH (.c (.ld (fun G _ _ hH=>(hH.q 0 rfl)) fun G=>(.ld (ac 32) (fM a.1 a.1) (fun _=>ae))) <| .c (.ld (fun G _ _ hH=>(hH.q 0 rfl)) fun G=>(.ld (ac 32) (fM a.2.1 a.2.1) (fun _=>ae))) <| .c (Sp.c Tryz.func133 (fun G=>(gD (fM a.1 a.1) (fM a.2.1 a.2.1))) fun _=>trivial) <| .c (.ld (fun G _ _ hH=>(hH.q 0 rfl)) fun G=>(.ld (ac 32) (fM a.1 a.1) (fun _=>ae))) <| .c (.ld (fun G _ _ hH=>(hH.q 0 rfl)) fun G=>(.ld (ac 32) (fM a.2.1 a.2.1) (fun _=>ae))) <| .c (Sp.c Tryz.func134 (fun G=>(jj (fM a.1 a.1) (fM a.2.1 a.2.1))) fun _=>trivial) <| .c (.a (fun _ _ _ _=>trivial) (fun G=>(.al (ac 32) (fun _=>0))) fun _ _ _ h=>h) <| .c (.a (fun _ _ _ _=>trivial) (fun G=>(.al (ac 32) (fun _=>0))) fun _ _ _ h=>h) <| .c (.tn (fun G=>(.sw (ac 32) (fun _=>0) (fA (fM a.1 a.1) (fM a.2.1 a.2.1)))) (fun _ _ _ _=>trivial) fun _ _ _ h=>h) <| .c (.tn (fun G=>(.sw (ac 32) (fun _=>0) (fS (fM a.1 a.1) (fM a.2.1 a.2.1)))) (fun _ _ _ _=>trivial) fun _ _ _ h=>h) <| .nil) ?_
 clear hH
 rintro G w-hH
 revert hH
 generalize (G 6).g=g7
 generalize (G 7).g=g8
 intro hH
 refine rn ?_
 refine zx ?_
 replace hH:=hH.drew
 refine rld 0 (hH.q 6 rfl) (.l0 (ac 32) (fA (fM a.1 a.1) (fM a.2.1 a.2.1))) 0 ?_
 refine rld 1 (hH.q 5 rfl) (.l0 (ac 32) (fA a.1 a.2.1)) 0 ?_
 refine rld 2 (hH.q 5 rfl) (.l0 (ac 32) (fA a.1 a.2.1)) 16 ?_
 refine rld 5 (hH.q 4 rfl) (.l0 (ac 32) (fM a.2.2.1 a.2.2.1)) 0 ?_
 refine rld 6 (hH.q 4 rfl) (.l0 (ac 32) (fM a.2.2.1 a.2.2.1)) 64 ?_
 refine rld 8 (hH.q 7 rfl) (.l0 (ac 32) (fS (fM a.1 a.1) (fM a.2.1 a.2.1))) 0 ?_
 refine rld 10 (hH.q 7 rfl) (.l0 (ac 32) (fS (fM a.1 a.1) (fM a.2.1 a.2.1))) 128 ?_
 refine rld 11 (hH.q 6 rfl) (.l0 (ac 32) (fA (fM a.1 a.1) (fM a.2.1 a.2.1))) 128 ?_
 refine ao 3 (rpc 3 Tryz.func96 (d9 (fA a.1 a.2.1) (fA a.1 a.2.1)) trivial hH 96 (.keep (.keep (.keep (.keep (.keep (pgo [] (pgo [] (.keep (.nil _ []))))))))) ?_)
 clear hH
 intro w hH
 refine ⟨am (hH.blk 6 rfl) (am (hH.blk 7 rfl) (am (hH.blk 7 rfl) (am (hH.blk 4 rfl) (am (hH.blk 4 rfl) (am (hH.blk 6 rfl) an))))),?_⟩
 refine ao 4 (rpc 4 Tryz.func134 (jj (fA (fM a.1 a.1) (fM a.2.1 a.2.1)) (fM (fA a.1 a.2.1) (fA a.1 a.2.1))) trivial hH 65 (.keep (.keep (.keep (.keep (.keep (pgo [] (.nil _ []))))))) ?_)
 clear hH
 intro w hH
 refine ⟨am (hH.blk 6 rfl) (am (hH.blk 7 rfl) (am (hH.blk 7 rfl) (am (hH.blk 4 rfl) (am (hH.blk 4 rfl) an)))),?_⟩
 refine ao 7 (rpc 7 Tryz.func133 (gD (fM a.2.2.1 a.2.2.1) (fM a.2.2.1 a.2.2.1)) trivial hH 48 (.keep (.keep (.keep (pgo [] (pgo [] (.nil _ [])))))) ?_)
 clear hH
 intro w hH
 refine ⟨am (hH.blk 6 rfl) (am (hH.blk 7 rfl) (am (hH.blk 7 rfl) an)),?_⟩
 refine ao 9 (rpc 9 Tryz.func133 (gD (fA (fM a.2.2.1 a.2.2.1) (fM a.2.2.1 a.2.2.1)) (fS (fM a.1 a.1) (fM a.2.1 a.2.1))) trivial hH 17 (.keep (.keep (pgo [] (.nil _ [])))) ?_)
 clear hH
 intro w hH
 refine ⟨am (hH.blk 6 rfl) (am (hH.blk 7 rfl) an),?_⟩
 refine ao 12 (rpc 12 Tryz.func172 (uH (fS (fA (fM a.1 a.1) (fM a.2.1 a.2.1)) (fM (fA a.1 a.2.1) (fA a.1 a.2.1))) (fA (fA (fM a.2.2.1 a.2.2.1) (fM a.2.2.1 a.2.2.1)) (fS (fM a.1 a.1) (fM a.2.1 a.2.1))) (fS (fM a.1 a.1) (fM a.2.1 a.2.1)) (fA (fM a.1 a.1) (fM a.2.1 a.2.1))) trivial hH 15 (pgo [] (pgo [] (.nil _ []))) ?_)
 clear hH
 intro w hH
 refine ⟨an,ao 13 ?_⟩
 refine re0 13 1 hH rfl (.sw cPl (fun _=>0,fun _=>0,fun _=>0,fun _=>0) (uB (fS (fA (fM a.1 a.1) (fM a.2.1 a.2.1)) (fM (fA a.1 a.2.1) (fA a.1 a.2.1))) (fA (fA (fM a.2.2.1 a.2.2.1) (fM a.2.2.1 a.2.2.1)) (fS (fM a.1 a.1) (fM a.2.1 a.2.1))) (fS (fM a.1 a.1) (fM a.2.1 a.2.1)) (fA (fM a.1 a.1) (fM a.2.1 a.2.1)))) trivial (.nil _ []) ?_
 clear hH
 rintro _ _ w rfl hH
 refine ⟨an,rn ?_⟩
 refine ar (aI 1 (hH.blk 1 rfl) rfl rfl (by kernel_rfl) (Cod.size _ _) (by kernel_rfl) ?_)
 exact zE hH
abbrev vNb(n:Nat):Value:=(cQs 4).val (bc n)
theorem vb(n:Nat):vNb n=vN n:=(ut n).symm
theorem yv(a b:Nat)(ha:a<2^256)(hb:b<2^256):Pure Tryz.prog 137 #[vNb a,vNb b] (fun _=>True) (vNb (tm a b)):=by rw[vb,vb,vb];exact cS a b ha hb
theorem BS(a b:Nat)(ha:a<2^256)(hb:b<2^256):Pure Tryz.prog 157 #[vNb a,vNb b] (fun _=>True) (vNb (mi a b)):=by rw[vb,vb,vb];exact qV a b ha hb
theorem ri(a k:Nat)(ha:a<2^256)(hk:k<1000000):Pure Tryz.prog 163 #[vNb a,.int .i64 (k:Int)] (fun _=>True) (vNb (rs a k)):=by rw[vb,vb];exact dj a k ha hk
theorem CS(a:Nat)(ha:a<2^256):Pure Tryz.prog 164 #[vNb a] (fun _=>True) (vNb (kL a)):=by rw[vb,vb];exact uz a ha
theorem yw(a:Nat)(ha:a<2^256):Pure Tryz.prog 158 #[vNb a] (fun _=>True) (vNb (a%pN)):=by rw[vb,vb];exact jF a ha
theorem uI(a:Nat)(ha:a<2^256):Pure Tryz.prog 136 #[vNb a] (fun _=>True) ((ac 32).val (aZ (a%pN))):=by rw[vb];exact fw a ha
theorem yx(b:Bt):Pure Tryz.prog 138 #[(ac 32).val b] (fun _=>True) (vNb (lv b 32)):=by rw[vb];exact gg b
theorem CT  : Pure Tryz.prog 182 #[] (fun _=>True) ((cQs 4).val (bc iN)):=by
 refine pU Tryz.func182 Tryz.ntmps182 ?_
 intro w0 hH hR
 refine zr (zA hH (cQs 4) (bc 0) 0 ?_)
 clear hH
 intro g1 w hH
 refine zn (zr (zv (v:=((cQs 4).val (bc iN))) (fun _ _ hF=>aE (cells:=(cQs 4).enc (bc iN)) (vals:=[(0,(.int .u64 14190309331451158704)),(1,(.int .u64 3405592160176694392)),(2,(.int .u64 3120150775007532967)),(3,(.int .u64 3135389899092516619))]) rfl (EvP.cons rfl (EvP.cons rfl (EvP.cons rfl (EvP.cons rfl EvP.nil)))) (by kernel_rfl) _) 0 ?_))
 refine zW 0 hH rfl (bc iN) ?_
 clear hH
 intro w hH
 refine zn (ar (aI 1 (hH.blk 0 rfl) rfl rfl (by kernel_rfl) (Cod.size _ _) (by kernel_rfl) ?_))
 exact zE hH
theorem BT(a b:Nat)(ha:a<2^256)(hb:b<2^256):Pure Tryz.prog 181 #[((cQs 4).val (bc a)),((cQs 4).val (bc b))] (fun _=>True) (.bool (decide (a%pN=b%pN))):=by
 refine pU Tryz.func181 Tryz.ntmps181 ?_
 intro w0 hH hR
 refine zr (zB hH (cQs 4) (bc a) 1 ?_)
 clear hH
 intro g1 w hH
 refine zB hH (cQs 4) (bc b) 2 ?_
 clear hH
 intro g2 w hH
 refine zv .mv 0 ?_
 refine zn (zx ?_)
 replace hH:=hH.drew
 refine rld 0 (hH.q 0 rfl) (.l0 (cQs 4) (bc a)) 4 ?_
 refine rld 2 (hH.q 1 rfl) (.l0 (cQs 4) (bc b)) 4 ?_
 refine ao 1 (rpc 1 Tryz.func158 (yw a ha) trivial hH 2 (.keep (pgo [] (.nil _ []))) ?_)
 clear hH
 intro w hH
 refine ⟨am (hH.blk 1 rfl) an,?_⟩
 refine ao 3 (rpc 3 Tryz.func158 (yw b hb) trivial hH 2 (pgo [] (.nil _ [])) ?_)
 clear hH
 intro w hH
 refine ⟨an,rv 4 (v:=(.bool (decide (a%pN=b%pN)))) (fun _ _ hF=>zd (n:=4) (e:=72) (f:=(bc (a%pN))) (g:=(bc (b%pN))) rfl (by kernel_rfl) (by kernel_rfl) (by kernel_rfl) (hF.ev 1 rfl) (hF.ev 0 rfl) (by kernel_rfl) uC) 3 ?_⟩
 refine rv 5 .mv 3 ?_
 refine rn ?_
 refine ar (aW 0 rfl rfl ?_)
 exact zE hH
theorem CU(n:Nat)(hn:n<2^256):Pure Tryz.prog 171 #[((cQs 4).val (bc n))] (fun _=>True) (.tuple #[vNb (rtV n),.bool (decide (rtF n))]):=by
 refine pU Tryz.func171 Tryz.ntmps171 ?_
 intro w0 hH hR
 refine zr (zB hH (cQs 4) (bc n) 1 ?_)
 clear hH
 intro g1 w hH
 refine zA hH (cQs 4) (bc 0) 0 ?_
 clear hH
 intro g2 w hH
 refine zv .mv 0 ?_
 refine zn (zx ?_)
 replace hH:=hH.drew
 refine de 0 [ldv 0 5 [] [] [1000] fun G=>((cQs 4).val (bc n)),pv 1 6 [0] [] fun G=>((cQs 4).val (bc (kL n))),pv 2 7 [1] [] fun G=>((cQs 4).val (bc (rs (kL n) 2))),ldv 3 8 [] [] [1000] fun G=>((cQs 4).val (bc n)),pv 4 9 [3] [] fun G=>((cQs 4).val (bc (rs n 1))),pv 5 10 [2,4] [] fun G=>((cQs 4).val (bc (rt1 n))),alv 6 4 [] [] fun G g=>[bl g 170 ((cQs 4).enc (bc 0))],stv 7 [5,6] [6] 6 fun G=>[bl (G 6).g 170 ((cQs 4).enc (bc (rt1 n)))]] (fun G=>[(4,(.pointer (some ⟨(G 6).g,0,none⟩))),(2,(.pointer (some ⟨g2,0,none⟩))),(1,(.pointer (some ⟨g1,0,none⟩)))]) (fun G=>[[bl g1 170 ((cQs 4).enc (bc n))],[bl g2 170 ((cQs 4).enc (bc 0))],[bl (G 6).g 170 ((cQs 4).enc (bc (rt1 n)))]]) hH (.c (.ld (fun G _ _ hH=>(hH.q 0 rfl)) fun G=>(.ld (cQs 4) (bc n) (fun _=>ae))) <| .c (Sp.c Tryz.func164 (fun G=>(CS n hn)) fun _=>trivial) <| .c (Sp.c Tryz.func163 (fun G=>(ri (kL n) 2 (gy hn) (by decide))) fun _=>trivial) <| .c (.ld (fun G _ _ hH=>(hH.q 0 rfl)) fun G=>(.ld (cQs 4) (bc n) (fun _=>ae))) <| .c (Sp.c Tryz.func163 (fun G=>(ri n 1 hn (by decide))) fun _=>trivial) <| .c (Sp.c Tryz.func137 (fun G=>(yv (rs (kL n) 2) (rs n 1) (bZ (gy hn) 2) (bZ hn 1))) fun _=>trivial) <| .c (.a (fun _ _ _ _=>trivial) (fun G=>(.al (cQs 4) (bc 0))) fun _ _ _ h=>h) <| .c (.tn (fun G=>(.sw (cQs 4) (bc 0) (bc (rt1 n)))) (fun _ _ _ _=>trivial) fun _ _ _ h=>h) <| .nil) ?_
 clear hH
 rintro G w-hH
 revert hH
 generalize (G 6).g=g3
 intro hH
 refine rn ?_
 refine aj (zx ?_)
 replace hH:=hH.drew
 refine rld 0 (hH.q 2 rfl) (.l0 (cQs 4) (bc (rt1 n))) 0 ?_
 refine rld 2 (hH.q 0 rfl) (.l0 (cQs 4) (bc n)) 0 ?_
 refine ao 1 (rpc 1 Tryz.func163 (ri (rt1 n) 1 (kQ hn) (by decide)) trivial hH 2 (.keep (pgo [] (.nil _ []))) ?_)
 clear hH
 intro w hH
 refine ⟨am (hH.blk 0 rfl) an,?_⟩
 refine ao 3 (rpc 3 Tryz.func181 (BT (rs (rt1 n) 1) n (bZ (kQ hn) 1) hn) trivial hH 3 (pgo [] (.nil _ [])) ?_)
 clear hH
 intro w hH
 refine ⟨an,rn ?_⟩
 refine zP (fun hc4 => ?_) (fun hc4 => ?_)
 refine zr (zs (hH.q 2 rfl) (.l0 (cQs 4) (bc (rt1 n))) 11 ?_)
 refine zW 1 hH rfl (bc (rt1 n)) ?_
 clear hH
 intro w hH
 refine zv .mv 1 ?_
 refine zn (ar (bj ?_))
 refine aX 1 0 (hH.blk 1 rfl) rfl rfl rfl (by kernel_rfl) (Cod.size _ _) (by kernel_rfl) ?_
 have e1:rtV n=rt1 n:=if_pos hc4
 exact ⟨by rw[e1,decide_eq_true (show rtF n from .inl hc4)];rfl,HH.toBelow hH⟩
 refine aA (ag (zx ?_))
 replace hH:=hH.drew
 refine rld 0 (hH.q 2 rfl) (.l0 (cQs 4) (bc (rt1 n))) 1 ?_
 refine ao 1 (rpc 1 Tryz.func182 (CT ) trivial hH 0 (.keep (.nil _ [])) ?_)
 clear hH
 intro w hH
 refine ⟨am (hH.blk 2 rfl) an,?_⟩
 refine ao 2 (rpc 2 Tryz.func137 (yv (rt1 n) iN (kQ hn) yl) trivial hH 3 (pgo [] (.nil _ [])) ?_)
 clear hH
 intro w hH
 refine ⟨an,ao 3 ?_⟩
 refine re0 3 2 hH rfl (.sw (cQs 4) (bc (rt1 n)) (bc (rt2 n))) trivial (.nil _ []) ?_
 clear hH
 rintro _ _ w rfl hH
 refine ⟨an,rn ?_⟩
 refine zx ?_
 replace hH:=hH.drew
 refine rld 0 (hH.q 2 rfl) (.l0 (cQs 4) (bc (rt2 n))) 1 ?_
 refine rld 1 (hH.q 2 rfl) (.l0 (cQs 4) (bc (rt2 n))) 2 ?_
 refine rld 3 (hH.q 0 rfl) (.l0 (cQs 4) (bc n)) 8 ?_
 refine ao 2 (rpc 2 Tryz.func163 (ri (rt2 n) 1 (pz hn) (by decide)) trivial hH 2 (.keep (pgo [] (.keep (.nil _ [])))) ?_)
 clear hH
 intro w hH
 refine ⟨am (hH.blk 0 rfl) (am (hH.blk 2 rfl) an),?_⟩
 refine ao 4 (rpc 4 Tryz.func181 (BT (rs (rt2 n) 1) n (bZ (pz hn) 1) hn) trivial hH 3 (pgo [] (.keep (.nil _ []))) ?_)
 clear hH
 intro w hH
 refine ⟨am (hH.blk 2 rfl) an,?_⟩
 refine ao 5 ?_
 refine re0 5 1 hH rfl (.sw (cQs 4) (bc 0) (bc (rt2 n))) trivial (pgo [] (.nil _ [])) ?_
 clear hH
 rintro _ _ w rfl hH
 refine ⟨an,rv 6 .mv 3 ?_⟩
 refine rn ?_
 refine ar (aX 1 0 (hH.blk 1 rfl) rfl rfl rfl (by kernel_rfl) (Cod.size _ _) (by kernel_rfl) ?_)
 have e1:rtV n=rt2 n:=if_neg hc4
 exact ⟨by rw[e1,show decide (rtF n)=decide (rs (rt2 n) 1%pN=n%pN) from decide_eq_decide.2 (or_iff_right hc4)];rfl,HH.toBelow hH⟩
theorem CV(a:Bt):Pure Tryz.prog 143 #[((ac 32).val a)] (fun _=>True) (.bool (decide (lv a 32<pN))):=by
 refine pU Tryz.func143 Tryz.ntmps143 ?_
 intro w0 hH hR
 refine zr (zB hH (ac 32) a 1 ?_)
 clear hH
 intro g1 w hH
 refine zv .mv 0 ?_
 refine zn (zx ?_)
 replace hH:=hH.drew
 refine rld 0 (hH.q 0 rfl) (.l0 (ac 32) a) 0 ?_
 refine rld 3 (hH.q 0 rfl) (.l0 (ac 32) a) 4 ?_
 refine ao 1 (rpc 1 Tryz.func138 (yx a) trivial hH 2 (.keep (pgo [] (.nil _ []))) ?_)
 clear hH
 intro w hH
 refine ⟨am (hH.blk 0 rfl) an,?_⟩
 refine ao 2 (rpc 2 Tryz.func136 (uI (lv a 32) (bI a)) trivial hH 1 (.keep (.nil _ [])) ?_)
 clear hH
 intro w hH
 refine ⟨am (hH.blk 0 rfl) an,?_⟩
 refine rv 4 (v:=(.bool (decide (lv a 32<pN)))) (fun _ _ hF=>kg (n:=32) (e:=5) (f:=(aZ ((lv a 32)%pN))) (g:=a) rfl (by kernel_rfl) (by kernel_rfl) (by kernel_rfl) (hF.ev 0 rfl) (hF.ev 1 rfl) (by kernel_rfl) (sM a)) 3 ?_
 refine rv 5 .mv 3 ?_
 refine rn ?_
 refine ar (aW 0 rfl rfl ?_)
 exact zE hH
theorem CW(a:Bt):Pure Tryz.prog 144 #[((ac 32).val a)] (fun _=>True) (.tuple #[(ac 32).val (sqX a),.int .i64 (sqE a:Int)]):=by
 refine pU Tryz.func144 Tryz.ntmps144 ?_
 intro w0 hH hR
 refine zr (zB hH (ac 32) a 1 ?_)
 clear hH
 intro g1 w hH
 refine zA hH (ac 32) (fun _=>0) 0 ?_
 clear hH
 intro g2 w hH
 refine zv .mv 0 ?_
 refine zn (zr (zs (hH.q 0 rfl) (.l0 (ac 32) a) 5 ?_))
 refine zc Tryz.func138 (yx a) trivial hH 1 ?_
 clear hH
 intro w hH
 refine zA hH (cQs 4) (bc 0) 0 ?_
 clear hH
 intro g3 w hH
 refine zW 2 hH rfl (bc (lv a 32)) ?_
 clear hH
 intro w hH
 refine zn (zr (zs (hH.q 2 rfl) (.l0 (cQs 4) (bc (lv a 32))) 3 ?_))
 refine zc Tryz.func171 (CU (lv a 32) (bI a)) trivial hH 1 ?_
 clear hH
 intro w hH
 refine zv .mv 1 ?_
 refine zv .ext 0 ?_
 refine zv .ext 2 ?_
 refine zA hH (cQs 4) (bc 0) 0 ?_
 clear hH
 intro g4 w hH
 refine zW 3 hH rfl (bc (rtV (lv a 32))) ?_
 clear hH
 intro w hH
 refine zv .mv 6 ?_
 refine zn (aj (zr (zv .mv 1 ?_)))
 refine zv (v:=(.bool (decide (¬ (rtF (lv a 32)))))) (fun _ _ hF=>ej rfl (hF.ev 0 rfl) decide_not.symm) 1 ?_
 refine zn ?_
 refine zP (fun hc5 => ?_) (fun hc5 => ?_)
 refine zr (zv (v:=((ac 32).val (fun _=>0))) (fun _ _ hF=>aE (cells:=(ac 32).enc (fun _=>0)) (vals:=[]) rfl EvP.nil (by kernel_rfl) _) 3 ?_)
 refine zW 1 hH rfl (fun _=>0) ?_
 clear hH
 intro w hH
 refine zv .mv 1 ?_
 refine zn (ar (bj ?_))
 refine aX 1 0 (hH.blk 1 rfl) rfl rfl rfl (by kernel_rfl) (Cod.size _ _) (by kernel_rfl) ?_
 have h1:¬ rtF (lv a 32):=hc5
 exact ⟨by rw[show sqX a=fun _=>0 from if_neg h1,show sqE a=3 from if_neg h1];rfl,HH.toBelow hH⟩
 refine aA (ag (zr (zs (hH.q 3 rfl) (.l0 (cQs 4) (bc (rtV (lv a 32)))) 1 ?_)))
 refine zc Tryz.func136 (uI (rtV (lv a 32)) (pA (bI a))) trivial hH 1 ?_
 clear hH
 intro w hH
 refine zA hH (ac 32) (fun _=>0) 0 ?_
 clear hH
 intro g6 w hH
 refine zW 4 hH rfl (aZ ((rtV (lv a 32))%pN)) ?_
 clear hH
 intro w hH
 refine zn (aj (zr ?_))
 have hi7:0<32:=by omega
 refine zv (.ia 1 32 0 (hi:=hi7)) 2 ?_
 refine zs (hH.q 4 rfl) (.ld af ((aZ ((rtV (lv a 32))%pN)) 0) (fun _ hS=>((ae hS).elt hi7))) 1 ?_
 refine zv (.ab (((aZ ((rtV (lv a 32))%pN)) 0)&&&(1:UInt8)) (u:=((aZ ((rtV (lv a 32))%pN)) 0)) (v:=(1:UInt8))) 1 ?_
 refine zv (.eq ((((aZ ((rtV (lv a 32))%pN)) 0)&&&(1:UInt8)).toNat=1)) 1 ?_
 refine zn ?_
 refine zP (fun hc8 => ?_) (fun hc8 => ?_)
 refine aC (zv (v:=((cQs 4).val (bc 0))) (fun _ _ hF=>aE (cells:=(cQs 4).enc (bc 0)) (vals:=[]) rfl EvP.nil (by kernel_rfl) _) 1 ?_)
 refine zs (hH.q 3 rfl) (.l0 (cQs 4) (bc (rtV (lv a 32)))) 4 ?_
 refine zc Tryz.func157 (BS 0 (rtV (lv a 32)) (by decide) (pA (bI a))) trivial hH 3 ?_
 clear hH
 intro w hH
 refine zc Tryz.func136 (uI (mi 0 (rtV (lv a 32))) (iI 0 _ (by decide) (pA (bI a))).2.1) trivial hH 1 ?_
 clear hH
 intro w hH
 refine zW 4 hH rfl (aZ ((mi 0 (rtV (lv a 32)))%pN)) ?_
 clear hH
 intro w hH
 refine zn (zr (zs (hH.q 4 rfl) (.l0 (ac 32) (aZ ((mi 0 (rtV (lv a 32)))%pN))) 3 ?_))
 refine zW 1 hH rfl (aZ ((mi 0 (rtV (lv a 32)))%pN)) ?_
 clear hH
 intro w hH
 refine zv .mv 1 ?_
 refine zn (ar (aX 1 0 (hH.blk 1 rfl) rfl rfl rfl (by kernel_rfl) (Cod.size _ _) (by kernel_rfl) ?_))
 have h2:rtF (lv a 32):=Decidable.of_not_not hc5
 have e1:sqX a=aZ (mi 0 (rtV (lv a 32))%pN):=(if_pos h2).trans (if_pos hc8)
 exact ⟨by rw[e1,show sqE a=0 from if_pos h2];rfl,HH.toBelow hH⟩
 refine aA (ag (zr (zs (hH.q 4 rfl) (.l0 (ac 32) (aZ ((rtV (lv a 32))%pN))) 7 ?_)))
 refine zW 1 hH rfl (aZ ((rtV (lv a 32))%pN)) ?_
 clear hH
 intro w hH
 refine zv .mv 1 ?_
 refine zn (ar (aX 1 0 (hH.blk 1 rfl) rfl rfl rfl (by kernel_rfl) (Cod.size _ _) (by kernel_rfl) ?_))
 have h2:rtF (lv a 32):=Decidable.of_not_not hc5
 have e1:sqX a=aZ (rtV (lv a 32)%pN):=(if_pos h2).trans (if_neg hc8)
 exact ⟨by rw[e1,show sqE a=0 from if_pos h2];rfl,HH.toBelow hH⟩
end Go.Proofs.YtajppfmjbkebfaaGreatDoor
